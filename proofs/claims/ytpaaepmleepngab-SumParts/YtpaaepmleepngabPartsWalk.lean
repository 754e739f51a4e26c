/- SumParts answers true. -/
import Derived.Test.YtpaaepmleepngabSum2
namespace Go.Proofs.Ytpaaepmleepngab.Mth

theorem wh_left (xs ys : List Int) (n : Nat) (h : xs.length = 2 * n) (k : Nat) (hk : k ≤ n) : wh (xs ++ ys) k = wh xs k := by
  induction k with
  | zero => rfl
  | succ k ih =>
    have e : wd (xs ++ ys) (2 * k) = wd xs (2 * k) := by
      unfold wd
      simp only [List.getD_eq_getElem?_getD]
      rw [List.getElem?_append_left (by omega), List.getElem?_append_left (by omega)]
    rw [wh, wh, ih (by omega), e]

theorem add_zero (a : Int) (h : 0 ≤ a ∧ a ≤ 65535) : add a 0 = a := by unfold add; split <;> omega

theorem wh_right (xs ys : List Int) (n : Nat) (h : xs.length = 2 * n) (k : Nat) : wh (xs ++ ys) (n + k) = add (wh xs n) (wh ys k) := by
  induction k with
  | zero => rw [Nat.add_zero, wh_left xs ys n h n (Nat.le_refl _), show wh ys 0 = 0 from rfl, add_zero _ (wh_range _ _)]
  | succ k ih =>
    have e : wd (xs ++ ys) (2 * (n + k)) = wd ys (2 * k) := by
      unfold wd
      simp only [List.getD_eq_getElem?_getD]
      rw [List.getElem?_append_right (by omega), List.getElem?_append_right (by omega), show 2 * (n + k) - xs.length = 2 * k from by omega, show 2 * (n + k) + 1 - xs.length = 2 * k + 1 from by omega]
    rw [← Nat.add_assoc, wh, wh, ih, e, add_assoc]

theorem whole_parts (xs ys : List Int) (h : xs.length % 2 = 0) : whole (xs ++ ys) = add (whole xs) (whole ys) := by
  unfold whole
  have h2 : xs.length = 2 * (xs.length / 2) := by omega
  rw [← wh_right xs ys ((xs.length + 1) / 2) (by omega)]
  congr 1
  rw [List.length_append]
  omega

end Go.Proofs.Ytpaaepmleepngab.Mth
namespace Go.Proofs.Ytpaaepmleepngab
open Go.RowKit

set_option maxHeartbeats 400000 in
theorem parts_long (a b : Option Addr) (n c m d : Nat) (w : World) (h : (5000 : Int) < (n : Int) ∨ (5000 : Int) < (m : Int) ∨ (n : Int) % 2 = 1) :
    Calls Try.prog 4 #[.slice a n c, .slice b m d] w fun e w' => e = .returned (.bool true) ∧ Below w.heap.size w w' := by
  by_cases h1 : (5000 : Int) < (n : Int)
  · go_enter Try.func4, Try.ntmps4
    go_wp2_with fail
    refine (sum_begun _).mono ?_
    rintro e w1 ⟨rfl, hb1⟩
    go_wp2
    go_ret
    exact ⟨rfl, hb1⟩
  · by_cases h2 : (5000 : Int) < (m : Int)
    · go_enter Try.func4, Try.ntmps4
      go_wp2_with fail
      refine (sum_begun _).mono ?_
      rintro e w1 ⟨rfl, hb1⟩
      go_wp2
      go_ret
      exact ⟨rfl, hb1⟩
    · have h3 : (n : Int) % 2 = 1 := by omega
      go_enter Try.func4, Try.ntmps4
      go_wp2_with fail
      refine (sum_begun _).mono ?_
      rintro e w1 ⟨rfl, hb1⟩
      go_wp2
      go_ret
      exact ⟨rfl, hb1⟩

set_option maxHeartbeats 1000000 in
theorem parts_short (a b : Option Addr) (n c m d : Nat) (ys zs : List Int) (w : World) (h1 : (n : Int) ≤ 5000) (h2 : (m : Int) ≤ 5000) (h3 : (n : Int) % 2 = 0) (ha : a = none → n = 0 ∧ c = 0) (hb : b = none → m = 0 ∧ d = 0)
    (hy : Has .u8 w a n ys) (hz : Has .u8 w b m zs) :
    Calls Try.prog 4 #[.slice a n c, .slice b m d] w fun e w' => e = .returned (.bool true) ∧ Below w.heap.size w w' := by
  have HA := hid ha
  have HB := hid hb
  have HY := hid hy
  have HZ := hid hz
  have hw : Mth.whole (ys ++ zs) = Mth.add (Mth.whole ys) (Mth.whole zs) := Mth.whole_parts ys zs (by have := hy.1; omega)
  have hbb : Mth.Bytes (ys ++ zs) := by
    intro i
    simp only [List.getD_eq_getElem?_getD]
    by_cases hi : i < ys.length
    · rw [List.getElem?_append_left hi]; have := hy.bytes i; simpa only [List.getD_eq_getElem?_getD] using this
    · rw [List.getElem?_append_right (by omega)]; have := hz.bytes (i - ys.length); simpa only [List.getD_eq_getElem?_getD] using this
  clear ha hb hy hz
  go_enter Try.func4, Try.ntmps4
  go_wp2_with fail
  refine (sum_begun _).mono ?_
  rintro e w1 ⟨rfl, hb1⟩
  have HY1 := hid (HY.out.step hb1)
  have HZ1 := hid (HZ.out.step hb1)
  go_wp2_with (at_builtin; refine copy_law rfl _ _ rfl rfl _ _ _ ys rfl HA.out ?c1 ?c2 ?_)
  case c1 => exact HY1.out
  case c2 => omega
  intro v2 w2 hown2 hb2
  have O2 := hid hown2
  have HY2 := hid (HY1.out.step hb2)
  have HZ2 := hid (HZ1.out.step hb2)
  clear hown2
  go_wp2_with (at_builtin; refine more_law rfl _ _ rfl _ _ _ ys rfl O2.out ?c3 _ _ _ zs rfl HB.out ?c1 ?c2 ?_)
  case c1 => exact HZ2.out
  case c2 => omega
  case c3 => exact hb2.size
  intro v3 w3 hown3 hgr
  have hb3 : Below w1.heap.size w1 w3 := hb2.grown hgr hb2.size (fun k hk => (O2.out.lt k hk).1)
  obtain ⟨a3, cp3, rfl, hz3⟩ := has_of_owns8 hown3 hbb
  have HB3 := hid hz3
  have HY3 := hid (HY1.out.step hb3)
  have HZ3 := hid (HZ1.out.step hb3)
  clear hown3 hz3 hgr
  go_wp2_with fail
  refine (whole_any _ _ _ (ys ++ zs) _ (by omega) HB3.out).mono ?_
  rintro e w' ⟨rfl, rfl⟩
  go_wp2_with fail
  refine (whole_any _ _ _ ys _ (by omega) HY3.out).mono ?_
  rintro e w' ⟨rfl, rfl⟩
  go_wp2_with fail
  refine (whole_any _ _ _ zs _ (by omega) HZ3.out).mono ?_
  rintro e w' ⟨rfl, rfl⟩
  go_wp2_with fail
  refine (add_any _ _ _).mono ?_
  rintro e w' ⟨rfl, rfl⟩
  go_wp2
  go_ret
  exact ⟨rfl, bl_step hb1 hb3⟩

end Go.Proofs.Ytpaaepmleepngab
