/- The document's bitOf, and SizeOf of a right header. -/
import Derived.Test.YtcmdgbfppbkfmaaVWPar
import Derived.Test.YtcmdgbfppbkfmaaVWBehind
import Derived.Test.YtcmdgbfppbkfmaaVSizeRef
namespace Go.Proofs.Ytcmdgbfppbkfmaa
open Go.RowKit

set_option maxHeartbeats 2000000 in
set_option maxRecDepth 20000 in
theorem rbit_any (h : Int) (h0 : 0 ≤ h) (h6 : h < 6) (w : World) : Calls Try.prog 34 #[.int .i64 h] w fun e w' => e = .returned (.int .u64 (bitN h)) ∧ w' = w := by
  rcases six_ways (show ¬ h < 0 by omega) h6 with rfl | rfl | rfl | rfl | rfl | rfl
  all_goals
    go_enter Try.func34, Try.ntmps34
    go_wp2
    go_ret
    exact ⟨rfl, rfl⟩

/-- SizeOf of a right header -/
theorem rsize_good (a : Option Addr) (m c : Nat) (ws : List Int) (w : World) (hw : Has .i64 w a m ws) (h : sizeC ws = 0) :
    Calls Try.prog 31 #[.agg #[.slice a m c]] w fun e w' => e = .returned (.tuple #[.int .i64 (sizeN ws : Int), .agg #[.int .i64 0, .int .i64 0]]) ∧ Below w.heap.size w w' := by
  obtain ⟨h1, h8, hf, h3, h4⟩ := sizeC_good h
  have hl := hw.1
  rw [hl] at h1 h8 hf h3 h4
  refine (rsize_end a m c ws w h1 h8 hw hf).mono fun e w' ⟨x, he, ht, hb⟩ => ⟨?_, hb⟩
  rw [he, ht.1 ⟨h3, h4⟩]
  unfold sizeN
  rw [hl]

end Go.Proofs.Ytcmdgbfppbkfmaa
