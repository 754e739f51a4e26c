/- What bits.read does: it tells the number of the bits. -/
import Derived.Test.YtkipfppblhkodaaMath
import Derived.Test.YtkipfppblhkodaaSmall
import Derived.Deep.QuietTactic
import Derived.BigQuiet
import Derived.Laws.ShiftsVarLaws
namespace Go.Proofs.Ytkipfppblhkodaa
open Go.RowKit

theorem and_test (x : Int) (p : Nat) (h0 : 0 ≤ x) (h1 : x < 256) (hp : p < 8) : (bits BinOp.and IntKind.u8 x (2 ^ p) != 0) = x.toNat.testBit p := by
  have hq : ((2 : Int) ^ p) < 256 := by
    have := Nat.pow_lt_pow_right (a := 2) (by decide) hp
    have e : ((2 ^ p : Nat) : Int) = (2 : Int) ^ p := by simp
    omega
  have hq0 : (0 : Int) ≤ 2 ^ p := Int.le_of_lt (Int.pow_pos (by decide))
  rw [u8_and x (2 ^ p) h0 h1 hq0 hq, toNat_two_pow, nat_bit, Nat.testBit_eq_decide_div_mod_eq]
  have : 0 < 2 ^ p := Nat.two_pow_pos p
  have h2 : x.toNat / 2 ^ p % 2 = 0 ∨ x.toNat / 2 ^ p % 2 = 1 := by omega
  rcases h2 with h2 | h2
  · simp [h2]
  · have hpos : (0 : Int) < 2 ^ p := Int.pow_pos (by decide)
    rw [h2]; simp; omega

theorem wrap_rd (zs : List Int) (t k : Nat) (hk : k < 64) : IntKind.u64.wrap ((Mth.rd zs t k : Int) * 2) = ((2 * Mth.rd zs t k : Nat) : Int) := by
  rw [IntKind.wrap_u64]
  have h := Mth.rd_lt zs t k
  have h2 : 2 ^ k ≤ 2 ^ 63 := Nat.pow_le_pow_right (by decide) (by omega)
  omega

theorem or_rd (zs : List Int) (t k : Nat) (hk : k < 64) : bits BinOp.or IntKind.u64 (IntKind.u64.wrap ((Mth.rd zs t k : Int) * 2)) 1 = ((2 * Mth.rd zs t k + 1 : Nat) : Int) := by
  rw [wrap_rd zs t k hk]
  have h := Mth.rd_lt zs t k
  have h2 : 2 ^ k ≤ 2 ^ 63 := Nat.pow_le_pow_right (by decide) (by omega)
  rw [show (1 : Int) = ((1 : Nat) : Int) from rfl, u64_or_nat _ _ (by omega) (by omega)]
  have := Nat.two_pow_add_eq_or_of_lt (i := 1) (b := 1) (by decide) (Mth.rd zs t k)
  simp only [Nat.pow_one] at this
  rw [← this]

/-- a round that meets a bit that is 1, or 0 -/
theorem rd_step (zs : List Int) (t k : Nat) (hb : Mth.Bytes zs) (c : Bool) (h : (bits BinOp.and IntKind.u8 (zs[(t + k) / 8]?.getD 0) (2 ^ (7 - (t + k) % 8)) != 0) = c) :
    Mth.rd zs t (k + 1) = 2 * Mth.rd zs t k + c.toNat := by
  have e := hb ((t + k) / 8)
  simp only [List.getD_eq_getElem?_getD] at e
  rw [and_test _ _ e.1 e.2 (by omega)] at h
  rw [Mth.rd, Mth.bit, List.getD_eq_getElem?_getD, h]

end Go.Proofs.Ytkipfppblhkodaa
