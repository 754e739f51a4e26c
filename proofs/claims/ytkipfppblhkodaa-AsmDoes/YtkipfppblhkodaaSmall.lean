/- What the smallest functions of package bits do: isWidth, place, wrong, Mask. -/
import Derived.Test.YtkipfppblhkodaaBase
import Derived.WalkKit
import Derived.WalkSpells
import Derived.WalkLawsBesides
namespace Go.Proofs.Ytkipfppblhkodaa
open Go.RowKit

theorem place_num (n : Int) (h1 : 0 ≤ n) : (128 : Int) / 2 ^ (n % 8).toNat = ((2 ^ (7 - n.toNat % 8) : Nat) : Int) := by
  obtain ⟨m, rfl⟩ := Int.eq_ofNat_of_zero_le h1
  have e : ((m : Int) % 8).toNat = m % 8 := by omega
  rw [e, Int.toNat_natCast]
  have : m % 8 = 0 ∨ m % 8 = 1 ∨ m % 8 = 2 ∨ m % 8 = 3 ∨ m % 8 = 4 ∨ m % 8 = 5 ∨ m % 8 = 6 ∨ m % 8 = 7 := by omega
  rcases this with h | h | h | h | h | h | h | h <;> rw [h] <;> decide

theorem mask_num (n : Int) (h1 : 1 ≤ n) (h2 : n ≤ 64) : (18446744073709551615 : Int) / 2 ^ (64 - n).toNat = ((2 ^ n.toNat - 1 : Nat) : Int) := by
  obtain ⟨m, rfl⟩ := Int.eq_ofNat_of_zero_le (show 0 ≤ n by omega)
  have e : (64 - (m : Int)).toNat = 64 - m := by omega
  rw [e, Int.toNat_natCast]
  have key : 18446744073709551615 / 2 ^ (64 - m) = 2 ^ m - 1 := by
    have ab : 2 ^ m * 2 ^ (64 - m) = 18446744073709551616 := by
      rw [← Nat.pow_add, show m + (64 - m) = 64 from by omega]
    have a1 : 1 ≤ 2 ^ m := Nat.one_le_two_pow
    have b1 : 1 ≤ 2 ^ (64 - m) := Nat.one_le_two_pow
    apply Nat.div_eq_of_lt_le
    · rw [Nat.sub_mul, ab]; omega
    · rw [show 2 ^ m - 1 + 1 = 2 ^ m from by omega, ab]; omega
  rw [← key]
  simp

end Go.Proofs.Ytkipfppblhkodaa
