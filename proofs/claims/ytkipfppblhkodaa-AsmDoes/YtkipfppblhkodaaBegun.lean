/- Get and Put at whatever integers; what bitsBegun answers. -/
import Derived.Test.YtkipfppblhkodaaCalls
import Derived.Test.YtkipfppblhkodaaOnes
namespace Go.Proofs.Ytkipfppblhkodaa
open Go.RowKit

theorem two_bytes (w : World) : Has .u8 (w.alloc (.cells #[.int .u8 171, .int .u8 205] 5)) (some ⟨w.heap.size, 0, none⟩) 2 [171, 205] := by
  refine ⟨rfl, by intro n hn; simp at hn; rcases hn with rfl | rfl <;> decide, .inr ⟨_, _, rfl, by simp, ?_⟩⟩
  intro i hi
  match i, hi with
  | 0, _ => simp
  | 1, _ => simp

theorem and_mask (v n : Int) (hv : 0 ≤ v ∧ v < 18446744073709551616) (hn : 1 ≤ n ∧ n ≤ 64) : bits BinOp.and IntKind.u64 v (maskN n) = ((v.toNat % 2 ^ n.toNat : Nat) : Int) := by
  unfold maskN
  rw [if_pos hn]
  obtain ⟨v', rfl⟩ := Int.eq_ofNat_of_zero_le hv.1
  have h1 : 2 ^ n.toNat ≤ 2 ^ 64 := Nat.pow_le_pow_right (by decide) (by omega)
  rw [u64_and_nat _ _ (by omega) (by omega), Nat.and_two_pow_sub_one_eq_mod]
  rfl
end Go.Proofs.Ytkipfppblhkodaa
