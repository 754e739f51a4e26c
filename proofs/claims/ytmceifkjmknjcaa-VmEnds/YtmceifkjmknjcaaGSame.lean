/- shuntyardref.SameProgram, GreatProgram. -/
import Derived.Test.YtmceifkjmknjcaaGFits
import Derived.Deep.RegionHeld3
namespace Go.Proofs.Ytmceifkjmknjcaa
open Go.RowKit

set_option maxHeartbeats 1000000 in
set_option maxRecDepth 20000 in
theorem ggreat (d : ProgD) (w : World) : Calls Try.prog 5 #[d.v] w (TellB (decide (300 < (d.tabs.n : Int)) || decide (65000 < (d.code.n : Int))) w) := by
  dsimp only [ProgD.v]
  by_cases h : 300 < (d.tabs.n : Int)
  · rw [decide_eq_true h, Bool.true_or]
    go_enter Try.func5, Try.ntmps5
    go_wp2
    go_ret
    exact ⟨rfl, bl_alloc (Below.refl _ _)⟩
  · rw [decide_eq_false h, Bool.false_or]
    go_enter Try.func5, Try.ntmps5
    go_wp2
    go_ret
    exact ⟨rfl, bl_alloc (Below.refl _ _)⟩

end Go.Proofs.Ytmceifkjmknjcaa
