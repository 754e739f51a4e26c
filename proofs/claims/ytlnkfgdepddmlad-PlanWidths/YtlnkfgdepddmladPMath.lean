/- Plain facts on headers: what is cut out of bytes, there and back. -/
import Derived.Test.YtlnkfgdepddmladRMath
namespace Go.Proofs.Ytlnkfgdepddmlad.Mth

abbrev Fit (ws : List Int) (i : Nat) : Prop := 1 ≤ ws.getD i 0 ∧ ws.getD i 0 ≤ 48

/-- a header without a fault -/
def Head (ws : List Int) (m : Nat) : Prop := 1 ≤ m ∧ m ≤ 8 ∧ (∀ j, j < m → Fit ws j) ∧ off ws m % 8 = 0 ∧ off ws m ≤ 256

theorem Fit.wide {ws : List Int} {i : Nat} (h : Fit ws i) : Wide ws i := by
  unfold Fit at h; unfold Wide; omega

theorem fit_off (ws : List Int) (k : Nat) (h : ∀ j, j < k → Fit ws j) : off ws k ≤ 48 * k := by
  induction k with
  | zero => simp [off]
  | succ k ih =>
    have := ih (fun j hj => h j (by omega))
    have h2 := h k (by omega)
    unfold Fit at h2
    simp only [off]
    omega

theorem cut_bit (zs : List Int) (a n j : Nat) (hj : j < 8 * n) : bit ((zs.drop a).take n) j = bit zs (8 * a + j) := by
  unfold bit
  rw [show (8 * a + j) / 8 = a + j / 8 from by omega, show (8 * a + j) % 8 = j % 8 from by omega]
  simp only [List.getD_eq_getElem?_getD, List.getElem?_take, List.getElem?_drop]
  rw [if_pos (by omega)]

theorem cut_rd (zs : List Int) (a n t k : Nat) (h : t + k ≤ 8 * n) : rd ((zs.drop a).take n) t k = rd zs (8 * a + t) k := by
  induction k with
  | zero => rfl
  | succ k ih => rw [rd, rd, ih (by omega), cut_bit _ _ _ _ (by omega), Nat.add_assoc]

/-- the fields of what is cut out are the fields from there on -/
theorem cut_parts (zs ws : List Int) (a n m : Nat) (h : off ws m ≤ 8 * n) : parts ((zs.drop a).take n) 0 ws m = parts zs ((8 * a : Nat) : Int) ws m := by
  unfold parts
  apply List.map_congr_left
  intro j hj
  have hj' : j < m := List.mem_range.1 hj
  have h1 := off_mono ws (j + 1) m (by omega)
  simp only [off] at h1
  have e1 : ((0 : Int) + (off ws j : Int)).toNat = off ws j := by omega
  have e2 : (((8 * a : Nat) : Int) + (off ws j : Int)).toNat = 8 * a + off ws j := by omega
  rw [e1, e2, cut_rd _ _ _ _ _ (by omega)]

theorem rd_bit (zs : List Int) (t k r : Nat) (hr : r < k) : (rd zs t k).testBit (k - 1 - r) = bit zs (t + r) := by
  induction k with
  | zero => omega
  | succ k ih =>
    rw [rd]
    by_cases e : r = k
    · subst e
      rw [show r + 1 - 1 - r = 0 from by omega, Nat.testBit_zero]
      cases bit zs (t + r) <;> simp
    · rw [show k + 1 - 1 - r = (k - 1 - r) + 1 from by omega, Nat.testBit_succ, ← ih (by omega)]
      congr 1
      have := (bit zs (t + k)).toNat_le
      omega

theorem jn_parts (zs ws : List Int) (T N m k j : Nat) (hk : k ≤ m) (h : off ws m ≤ 8 * N) (hj : j < off ws k) : bit (jn (parts zs (T : Int) ws m) ws N k) j = bit zs (T + j) := by
  induction k with
  | zero => simp [off] at hj
  | succ k ih =>
    have h1 := off_mono ws (k + 1) m hk
    have h2 : off ws k + (ws.getD k 0).toNat ≤ 8 * N := by simp only [off] at h1; omega
    rw [jn, wr_bit _ _ _ _ _ _ (jn_bytes _ _ _ _) (by rw [jn_length]; exact h2)]
    by_cases c : j < off ws k
    · rw [if_neg (by omega), ih (by omega) c]
    · simp only [off] at hj
      rw [if_pos (by omega), parts_at _ _ _ _ _ (by omega), Int.toNat_natCast, rd_bit _ _ _ _ (by omega)]
      congr 1
      omega

theorem cut_bytes (zs : List Int) (a n : Nat) (h : Bytes zs) : Bytes ((zs.drop a).take n) := by
  intro i
  by_cases hi : i < n
  · have := h (a + i)
    simp only [List.getD_eq_getElem?_getD, List.getElem?_take, List.getElem?_drop] at this ⊢
    rw [if_pos hi]; exact this
  · simp only [List.getD_eq_getElem?_getD, List.getElem?_take]
    rw [if_neg hi]; simp

/-- what was read is written to the same bytes -/
theorem back_bytes (zs ws : List Int) (a N m : Nat) (hb : Bytes zs) (h : off ws m = 8 * N) (hl : a + N ≤ zs.length) : jn (parts zs ((8 * a : Nat) : Int) ws m) ws N m = (zs.drop a).take N := by
  apply ext _ _ (jn_bytes _ _ _ _) (cut_bytes _ _ _ hb) (by rw [jn_length, List.length_take, List.length_drop]; omega)
  intro j hj
  rw [jn_length] at hj
  rw [jn_parts zs ws (8 * a) N m m j (Nat.le_refl _) (by omega) (by omega), cut_bit _ _ _ _ hj]

/-- what was written is read -/
theorem back_nums (ls ws : List Int) (N m : Nat) (hl : ls.length = m) (h : off ws m ≤ 8 * N) (hf : ∀ j, j < m → 0 ≤ ls.getD j 0 ∧ ls.getD j 0 < ((2 ^ (ws.getD j 0).toNat : Nat) : Int)) : parts (jn ls ws N m) 0 ws m = ls := by
  apply List.ext_getElem (by rw [parts_length, hl])
  intro i h1 h2
  have hi : i < m := by rw [parts_length] at h1; exact h1
  have e := parts_at (jn ls ws N m) 0 ws m i hi
  have hfi := hf i hi
  have e1 : ((0 : Int) + (off ws i : Int)).toNat = off ws i := by omega
  rw [e1, rd_jn _ _ _ _ _ hi h, Nat.mod_eq_of_lt (by omega)] at e
  have e2 : (parts (jn ls ws N m) 0 ws m).getD i 0 = (parts (jn ls ws N m) 0 ws m)[i] := by simp [List.getD_eq_getElem?_getD, h1]
  have e3 : ls.getD i 0 = ls[i] := by simp [List.getD_eq_getElem?_getD, h2]
  rw [e2] at e
  rw [e, ← e3]
  omega

/-- the numbers, the one s being nothing -/
def zap (ls : List Int) (s : Int) (k : Nat) : List Int := (List.range k).map fun (i : Nat) => if (i : Int) = s then 0 else ls.getD i 0

theorem zap_succ (ls : List Int) (s : Int) (k : Nat) : zap ls s (k + 1) = zap ls s k ++ [if (k : Int) = s then 0 else ls.getD k 0] := by
  simp [zap, List.range_succ]

theorem zap_length (ls : List Int) (s : Int) (k : Nat) : (zap ls s k).length = k := by simp [zap]

theorem zap_at (ls : List Int) (s : Int) (k i : Nat) (h : i < k) : (zap ls s k).getD i 0 = if (i : Int) = s then 0 else ls.getD i 0 := by
  simp [zap, List.getD_eq_getElem?_getD, List.getElem?_map, List.getElem?_range h]

theorem zap_none (ls : List Int) (s : Int) (h : s < 0 ∨ (ls.length : Int) ≤ s) : zap ls s ls.length = ls := by
  apply List.ext_getElem (by rw [zap_length])
  intro i h1 h2
  have e := zap_at ls s ls.length i h2
  rw [if_neg (by omega)] at e
  have e2 : (zap ls s ls.length).getD i 0 = (zap ls s ls.length)[i] := by simp [List.getD_eq_getElem?_getD, h1]
  have e3 : ls.getD i 0 = ls[i] := by simp [List.getD_eq_getElem?_getD, h2]
  rw [← e2, e, e3]

theorem zap_set (ls : List Int) (s : Nat) : ls.set s 0 = zap ls (s : Int) ls.length := by
  apply List.ext_getElem (by rw [zap_length, List.length_set])
  intro i h1 h2
  have hi : i < ls.length := by rw [zap_length] at h2; exact h2
  have e := zap_at ls s ls.length i hi
  have e2 : (zap ls s ls.length).getD i 0 = (zap ls s ls.length)[i] := by simp [List.getD_eq_getElem?_getD, h2]
  have e3 : ls.getD i 0 = ls[i] := by simp [List.getD_eq_getElem?_getD, hi]
  rw [← e2, e, List.getElem_set]
  by_cases c : s = i
  · subst c; rw [if_pos rfl, if_pos rfl]
  · rw [if_neg c, if_neg (by omega), e3]
end Go.Proofs.Ytlnkfgdepddmlad.Mth
