/- What slices.Clone, bits.wrong, bits.Get and bits.Put do. -/
import Derived.Test.YtkipfppblhkodaaWrite
import Derived.Lib.SliceRun
import Derived.OpenShut
namespace Go.Proofs.Ytkipfppblhkodaa
open Go.RowKit

def codeOf (len : Nat) (t n : Int) : Int := if n < 1 ∨ 64 < n then 6 else if t < 0 ∨ (len : Int) * 8 - n < t then 1 else 0

theorem code_ok {len : Nat} {t n : Int} (h : codeOf len t n = 0) : 1 ≤ n ∧ n ≤ 64 ∧ 0 ≤ t ∧ t + n ≤ 8 * (len : Int) := by
  unfold codeOf at h
  split at h
  · simp at h
  · split at h
    · simp at h
    · omega

end Go.Proofs.Ytkipfppblhkodaa
