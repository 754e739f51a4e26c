/- What bits.write does: the bits of a row of the caller's own become those of the number. -/
import Derived.Test.YtkipfppblhkodaaRead
import Derived.Deep.RegionWith
namespace Go.Proofs.Ytkipfppblhkodaa
open Go.RowKit

theorem two_pow_byte (p : Nat) (hp : p < 8) : (0 : Int) ≤ 2 ^ p ∧ (2 : Int) ^ p < 256 := by
  have h := Nat.pow_lt_pow_right (a := 2) (by decide) hp
  have e : ((2 ^ p : Nat) : Int) = (2 : Int) ^ p := by simp
  have e0 : (0 : Int) < 2 ^ p := Int.pow_pos (by decide)
  omega

theorem or_num (x : Int) (p : Nat) (h : 0 ≤ x ∧ x < 256) (hp : p < 8) : bits BinOp.or IntKind.u8 x (2 ^ p) = ((Mth.one x.toNat p true : Nat) : Int) := by
  have h2 := two_pow_byte p hp
  rw [u8_or x (2 ^ p) h.1 h.2 h2.1 h2.2, toNat_two_pow]
  rfl

theorem andNot_num (x : Int) (p : Nat) (h : 0 ≤ x ∧ x < 256) (hp : p < 8) : bits BinOp.andNot IntKind.u8 x (2 ^ p) = ((Mth.one x.toNat p false : Nat) : Int) := by
  have h2 := two_pow_byte p hp
  rw [u8_andNot x (2 ^ p) h.1 h.2 h2.1 h2.2, toNat_two_pow]
  rfl

theorem v_bit (v m : Nat) (hv : v < 18446744073709551616) (c : Bool) (h : (bits BinOp.and IntKind.u64 ((v : Int) / 2 ^ m) 1 != 0) = c) : v.testBit m = c := by
  have e : ((v : Int) / 2 ^ m) = ((v / 2 ^ m : Nat) : Int) := by simp
  have hd : v / 2 ^ m ≤ v := Nat.div_le_self _ _
  rw [e, and_one_u64 _ (Int.natCast_nonneg _) (by omega)] at h
  rw [Nat.testBit_eq_decide_div_mod_eq]
  rw [← h]
  generalize v / 2 ^ m = u
  have : u % 2 = 0 ∨ u % 2 = 1 := by omega
  rcases this with e | e
  · have e' : (u : Int) % 2 = 0 := by omega
    rw [e, e']; decide
  · have e' : (u : Int) % 2 = 1 := by omega
    rw [e, e']; decide

theorem row_step {base g len cap i : Nat} {ys : List Int} {w wr : World} {x : Int} {c d : Bool}
    (hown : wr.ownsRow base 5 1 (.slice (some ⟨g, 0, none⟩) len cap) len (BB ys)) (hgr : w.grownBy wr (some g))
    (hx : x = ((Mth.one (ys.getD (i / 8) 0).toNat (7 - i % 8) c : Nat) : Int)) (hd : d = c) :
    (wr.setCell ⟨g, i / 8, none⟩ (.int .u8 x)).drew.ownsRow base 5 1 (.slice (some ⟨g, 0, none⟩) len cap) len (BB (Mth.put1 ys i d)) ∧ w.grownBy (wr.setCell ⟨g, i / 8, none⟩ (.int .u8 x)).drew (some g) := by
  subst hd
  have h := hown.stored (i / 8) (.int .u8 x)
  refine ⟨?_, ?_⟩
  · have e : BB (Mth.put1 ys i d) = (BB ys).set (i / 8) (.int .u8 x) := by
      simp only [BB, Mth.put1, List.map_set, hx]
    rw [e]
    exact h.1.drew
  · exact ⟨h.2.os.trans hgr.os, h.2.tape.trans hgr.tape, h.2.output.trans hgr.output, Nat.le_trans hgr.size h.2.size, fun k hk hne => (h.2.block k (Nat.lt_of_lt_of_le hk hgr.size) hne).trans (hgr.block k hk hne)⟩

end Go.Proofs.Ytkipfppblhkodaa
