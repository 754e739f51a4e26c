/- The small questions of word.Check. -/
import Derived.Test.YtkipfppblhkodaaGDef
namespace Go.Proofs.Ytkipfppblhkodaa
open Go.RowKit

set_option maxHeartbeats 1000000 in
set_option maxRecDepth 20000 in
theorem gwithin (n a b : Int) (w : World) : Calls Try.prog 29 #[.int .i64 n, .int .i64 a, .int .i64 b] w fun e w' => e = .returned (.bool (inB n a b)) ∧ w' = w := by
  unfold inB
  by_cases h1 : a ≤ n
  · have d1 := decide_eq_true h1
    rw [d1, Bool.true_and]
    go_enter Try.func29, Try.ntmps29
    go_wp2
    go_ret
    exact ⟨rfl, rfl⟩
  · have d1 := decide_eq_false h1
    rw [d1, Bool.false_and]
    go_enter Try.func29, Try.ntmps29
    go_wp2
    go_ret
    exact ⟨rfl, rfl⟩

set_option maxHeartbeats 1000000 in
set_option maxRecDepth 20000 in
theorem gends (n : Int) (w : World) : Calls Try.prog 27 #[.int .i64 n] w fun e w' => e = .returned (.bool (endsB n)) ∧ w' = w := by
  unfold endsB
  by_cases h1 : n = 16
  · subst h1
    go_enter Try.func27, Try.ntmps27
    go_wp2
    go_ret
    exact ⟨rfl, rfl⟩
  · rw [decide_eq_false h1, Bool.false_or]
    by_cases h2 : n = 17
    · subst h2
      go_enter Try.func27, Try.ntmps27
      go_wp2
      go_ret
      exact ⟨rfl, rfl⟩
    · have d1 : (n == 16) = false := by simpa using h1
      have d2 : (n == 17) = false := by simpa using h2
      rw [decide_eq_false h2]
      go_enter Try.func27, Try.ntmps27
      go_wp2
      go_ret
      exact ⟨rfl, rfl⟩

set_option maxHeartbeats 1000000 in
set_option maxRecDepth 20000 in
theorem gisReg (n : Int) (w : World) : Calls Try.prog 38 #[.int .i64 n] w fun e w' => e = .returned (.bool (inB n 0 9)) ∧ w' = w := by
  have HW := hid (gwithin n 0 9 w)
  go_enter Try.func38, Try.ntmps38
  go_wp2_with fail
  refine HW.out.mono ?_
  rintro e w1 ⟨rfl, rfl⟩
  go_wp2
  go_ret
  exact ⟨rfl, rfl⟩

set_option maxHeartbeats 2000000 in
set_option maxRecDepth 20000 in
theorem gisShape (d : ShapeD) (w : World) : Calls Try.prog 30 #[d.v] w (TellB (shapeB d) w) := by
  have HW := hid (fun n a b w => gwithin n a b w)
  have HT : Hid (∀ o, TellB (shapeB d) w (.returned (.bool (shapeB d))) (w.alloc o)) := fun o => ⟨rfl, bl_alloc (Below.refl _ _)⟩
  unfold shapeB at HT ⊢
  obtain ⟨k, a, g⟩ := d
  dsimp only [ShapeD.v] at HT ⊢
  generalize hK : inB k 1 3 = K at *
  generalize hA : inB a 1 8 = A at *
  have EK := hid hK
  have EA := hid hA
  clear hK hA
  cases K
  · rw [Bool.false_and, Bool.false_and] at HT ⊢
    go_enter Try.func30, Try.ntmps30
    go_wp2_with fail
    refine (HW.out _ _ _ _).mono ?_
    rintro e w1 ⟨rfl, rfl⟩
    rw [EK.out]
    go_wp2
    go_ret
    exact HT.out _
  · rw [Bool.true_and] at HT ⊢
    cases A
    · rw [Bool.false_and] at HT ⊢
      go_enter Try.func30, Try.ntmps30
      go_wp2_with fail
      refine (HW.out _ _ _ _).mono ?_
      rintro e w1 ⟨rfl, rfl⟩
      rw [EK.out]
      go_wp2_with fail
      refine (HW.out _ _ _ _).mono ?_
      rintro e w1 ⟨rfl, rfl⟩
      rw [EA.out]
      go_wp2
      go_ret
      exact HT.out _
    · rw [Bool.true_and] at HT ⊢
      go_enter Try.func30, Try.ntmps30
      go_wp2_with fail
      refine (HW.out _ _ _ _).mono ?_
      rintro e w1 ⟨rfl, rfl⟩
      rw [EK.out]
      go_wp2_with fail
      refine (HW.out _ _ _ _).mono ?_
      rintro e w1 ⟨rfl, rfl⟩
      rw [EA.out]
      go_wp2_with fail
      refine (HW.out _ _ _ _).mono ?_
      rintro e w1 ⟨rfl, rfl⟩
      go_wp2
      go_ret
      exact HT.out _
end Go.Proofs.Ytkipfppblhkodaa
