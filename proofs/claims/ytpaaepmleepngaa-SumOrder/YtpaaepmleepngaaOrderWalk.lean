/- SumOrder answers true. -/
import Derived.Test.YtpaaepmleepngaaSum2
namespace Go.Proofs.Ytpaaepmleepngaa
open Go.RowKit

set_option maxHeartbeats 1000000 in
theorem order_true (a b c : Int) (w : World) : Calls Try.prog 8 #[.int .i64 a, .int .i64 b, .int .i64 c] w fun e w' => e = .returned (.bool true) ∧ Below w.heap.size w w' := by
  have e1 : Mth.add (Mth.add a b) c = Mth.add a (Mth.add b c) := Mth.add_assoc a b c
  have e2 : Mth.add (Mth.add c a) b = Mth.add a (Mth.add b c) := by rw [Mth.add_assoc, Mth.add_comm c, Mth.add_assoc]
  have e3 : Mth.add b a = Mth.add a b := Mth.add_comm b a
  go_enter Try.func8, Try.ntmps8
  go_wp2_with fail
  refine (sum_begun _).mono ?_
  rintro e w1 ⟨rfl, hb1⟩
  go_wp2_with fail
  refine (add_any _ _ _).mono ?_
  rintro e w' ⟨rfl, rfl⟩
  go_wp2_with fail
  refine (add_any _ _ _).mono ?_
  rintro e w' ⟨rfl, rfl⟩
  go_wp2_with fail
  refine (add_any _ _ _).mono ?_
  rintro e w' ⟨rfl, rfl⟩
  go_wp2_with fail
  refine (add_any _ _ _).mono ?_
  rintro e w' ⟨rfl, rfl⟩
  go_wp2_with fail
  refine (add_any _ _ _).mono ?_
  rintro e w' ⟨rfl, rfl⟩
  go_wp2_with fail
  refine (add_any _ _ _).mono ?_
  rintro e w' ⟨rfl, rfl⟩
  go_wp2_with fail
  refine (add_any _ _ _).mono ?_
  rintro e w' ⟨rfl, rfl⟩
  go_wp2_with fail
  refine (add_any _ _ _).mono ?_
  rintro e w' ⟨rfl, rfl⟩
  go_wp2
  go_ret
  exact ⟨rfl, hb1⟩

end Go.Proofs.Ytpaaepmleepngaa
