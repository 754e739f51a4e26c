/- Plain facts on bytes of which two are put elsewhere, and their sum. -/
import Derived.Test.YtpaaepmleepngabSum2
namespace Go.Proofs.Ytpaaepmleepngab.Mth

/-- two bytes put -/
def put2 (zs : List Int) (k : Nat) (x y : Int) : List Int := (zs.set k x).set (k + 1) y

/-- the first m words, as a number -/
def total (zs : List Int) : Nat → Int
  | 0 => 0
  | m + 1 => total zs m + wd zs (2 * m)

/-- what is left of a number -/
def norm (t : Int) : Int := if t = 0 then 0 else (t - 1) % 65535 + 1

theorem set_at (zs : List Int) (k i : Nat) (x : Int) (h : k < zs.length) : (zs.set k x).getD i 0 = if i = k then x else zs.getD i 0 := by
  simp only [List.getD_eq_getElem?_getD, List.getElem?_set]
  by_cases e : k = i
  · subst e; simp [h]
  · rw [if_neg e, if_neg (fun c => e c.symm)]

theorem put2_length (zs : List Int) (k : Nat) (x y : Int) : (put2 zs k x y).length = zs.length := by simp [put2]

theorem put2_at (zs : List Int) (k i : Nat) (x y : Int) (h : k + 1 < zs.length) : (put2 zs k x y).getD i 0 = if i = k + 1 then y else if i = k then x else zs.getD i 0 := by
  unfold put2
  rw [set_at _ _ _ _ (by simpa using h), set_at _ _ _ _ (by omega)]

theorem put2_bytes (zs : List Int) (k : Nat) (x y : Int) (h : k + 1 < zs.length) (hb : Bytes zs) (hx : 0 ≤ x ∧ x < 256) (hy : 0 ≤ y ∧ y < 256) : Bytes (put2 zs k x y) := by
  intro i
  rw [put2_at zs k i x y h]
  split
  · exact hy
  · split
    · exact hx
    · exact hb i

theorem wd_put2 (zs : List Int) (K i : Nat) (x y : Int) (h : 2 * K + 1 < zs.length) : wd (put2 zs (2 * K) x y) (2 * i) = if i = K then 256 * x + y else wd zs (2 * i) := by
  unfold wd
  rw [put2_at _ _ _ _ _ h, put2_at _ _ _ _ _ h]
  by_cases e : i = K
  · subst e; rw [if_pos rfl, if_neg (by omega), if_pos rfl, if_pos rfl]
  · rw [if_neg e, if_neg (by omega), if_neg (by omega), if_neg (by omega), if_neg (by omega)]

theorem total_put2 (zs : List Int) (K : Nat) (x y : Int) (h : 2 * K + 1 < zs.length) (m : Nat) : total (put2 zs (2 * K) x y) m = if K < m then total zs m - wd zs (2 * K) + (256 * x + y) else total zs m := by
  induction m with
  | zero => simp [total]
  | succ m ih =>
    rw [total, total, ih, wd_put2 _ _ _ _ _ h]
    by_cases e : m = K
    · subst e; rw [if_pos rfl, if_neg (Nat.lt_irrefl _), if_pos (Nat.lt_succ_self _)]; omega
    · by_cases l : K < m
      · rw [if_neg e, if_pos l, if_pos (by omega)]; omega
      · rw [if_neg e, if_neg l, if_neg (by omega)]

theorem total_nonneg (zs : List Int) (h : Bytes zs) (m : Nat) : 0 ≤ total zs m := by
  induction m with
  | zero => simp [total]
  | succ m ih => rw [total]; have := wd_range zs h (2 * m); omega

theorem total_le (zs : List Int) (h : Bytes zs) (K m : Nat) (l : K < m) : wd zs (2 * K) ≤ total zs m := by
  induction m with
  | zero => omega
  | succ m ih =>
    rw [total]
    by_cases e : K = m
    · subst e; have := total_nonneg zs h K; omega
    · have := ih (by omega); have := wd_range zs h (2 * m); omega

theorem total_le2 (zs : List Int) (h : Bytes zs) (J K m : Nat) (l : K < m) (k : J < m) (ne : J ≠ K) : wd zs (2 * K) + wd zs (2 * J) ≤ total zs m := by
  induction m with
  | zero => omega
  | succ m ih =>
    rw [total]
    by_cases e : K = m
    · subst e; have := total_le zs h J K (by omega); omega
    · by_cases f : J = m
      · subst f; have := total_le zs h K J (by omega); omega
      · have := ih (by omega) (by omega); have := wd_range zs h (2 * m); omega

theorem total_pos (zs : List Int) (h : Bytes zs) (q m : Nat) (l : q < 2 * m) (nz : zs.getD q 0 ≠ 0) : 0 < total zs m := by
  have h1 := total_le zs h (q / 2) m (by omega)
  have h2 := h q
  have h3 := h (2 * (q / 2))
  have h4 := h (2 * (q / 2) + 1)
  unfold wd at h1
  have : q = 2 * (q / 2) ∨ q = 2 * (q / 2) + 1 := by omega
  rcases this with e | e
  · have e2 : zs.getD q 0 = zs.getD (2 * (q / 2)) 0 := by rw [← e]
    omega
  · have e2 : zs.getD q 0 = zs.getD (2 * (q / 2) + 1) 0 := by rw [← e]
    omega

theorem norm_add (t v : Int) (ht : 0 ≤ t) (hv : 0 ≤ v ∧ v ≤ 65535) : add (norm t) v = norm (t + v) := by
  have hv' : v % 65536 = v := by omega
  unfold add norm
  rw [hv']
  by_cases h : t = 0
  · subst h
    by_cases h2 : v = 0
    · subst h2; decide
    · rw [if_pos rfl, if_neg (by omega), if_neg (by omega)]; omega
  · rw [if_neg h, if_neg (show t + v ≠ 0 by omega)]
    split <;> omega

theorem wh_norm (zs : List Int) (h : Bytes zs) (m : Nat) : wh zs m = norm (total zs m) := by
  induction m with
  | zero => rfl
  | succ m ih => rw [wh, ih, total, norm_add _ _ (total_nonneg zs h m) (wd_range zs h _)]

theorem right_num (R : Int) (h : 0 ≤ R) : norm (R + (65535 - norm R)) = 65535 := by
  unfold norm
  split <;> split <;> omega

theorem norm_range (t : Int) : 0 ≤ norm t ∧ norm t ≤ 65535 := by unfold norm; split <;> omega

theorem less_of (v : Int) (h : 0 ≤ v ∧ v ≤ 65535) : less v = 65535 - v := by unfold less; omega

theorem add_low (a c : Int) : add a c = add a (c % 65536) := by unfold add; rw [Int.emod_emod_of_dvd c (Int.dvd_refl 65536)]

theorem norm_more (t : Int) (h : 0 < t) : norm (t + 65535) = norm t := by unfold norm; rw [if_neg (by omega), if_neg (by omega)]; omega

theorem turn_num (R f c : Int) (hf : 0 ≤ f ∧ f ≤ R ∧ f ≤ 65535) (h : 0 < R - f + c % 65536) : turn (65535 - norm R) f c = 65535 - norm (R - f + c % 65536) := by
  have hc := Int.emod_nonneg c (show (65536 : Int) ≠ 0 by decide)
  have hc2 := Int.emod_lt_of_pos c (show (0 : Int) < 65536 by decide)
  have hR := norm_range R
  unfold turn
  rw [less_of (65535 - norm R) (by omega), less_of f (by omega), show 65535 - (65535 - norm R) = norm R from by omega, norm_add R (65535 - f) (by omega) (by omega), add_low, norm_add _ _ (by omega) (by omega)]
  rw [less_of _ (norm_range _), show R + (65535 - f) + c % 65536 = R - f + c % 65536 + 65535 from by omega, norm_more _ h]

theorem turn_range (s x y : Int) : 0 ≤ turn s x y ∧ turn s x y ≤ 65535 := by unfold turn less; omega

end Go.Proofs.Ytpaaepmleepngab.Mth
