/- What the document's Ones does. -/
import Derived.Test.YtkipfppblhkodaaBase
namespace Go.Proofs.Ytkipfppblhkodaa
open Go.RowKit

/-- what Mask tells -/
def maskN (n : Int) : Int := if 1 ≤ n ∧ n ≤ 64 then ((2 ^ n.toNat - 1 : Nat) : Int) else 0

theorem ones_step (k : Nat) (h : k < 64) : IntKind.u64.wrap (IntKind.u64.wrap (2 * ((2 ^ k - 1 : Nat) : Int)) + 1) = ((2 ^ (k + 1) - 1 : Nat) : Int) := by
  have h1 : 2 ^ k ≤ 2 ^ 63 := Nat.pow_le_pow_right (by decide) (by omega)
  have h2 : 1 ≤ 2 ^ k := Nat.one_le_two_pow
  rw [IntKind.wrap_u64, IntKind.wrap_u64, Nat.pow_succ]
  omega

end Go.Proofs.Ytkipfppblhkodaa
