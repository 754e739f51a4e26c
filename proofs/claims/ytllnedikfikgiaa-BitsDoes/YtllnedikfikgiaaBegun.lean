/- Get and Put at whatever integers; what bitsBegun answers. -/
import Derived.Test.YtllnedikfikgiaaCalls
namespace Go.Proofs.Ytllnedikfikgiaa
open Go.RowKit

theorem bl_alloc {W w : World} (h : Below W.heap.size W w) {o : Obj} : Below W.heap.size W (w.alloc o) := h.alloc h.size o
theorem bl_step {W w w' : World} (h : Below W.heap.size W w) (k : Below w.heap.size w w') : Below W.heap.size W w' := h.trans (k.mono h.size)
theorem Has.alloc {k : IntKind} {w : World} {a : Option Addr} {len : Nat} {zs : List Int} (h : Has k w a len zs) {o : Obj} : Has k (w.alloc o) a len zs := h.below (bl_alloc (Below.refl _ _)) (Nat.le_refl _)
theorem Has.step {k : IntKind} {w w' : World} {a : Option Addr} {len : Nat} {zs : List Int} (h : Has k w a len zs) (b : Below w.heap.size w w') : Has k w' a len zs := h.below b (Nat.le_refl _)

theorem get_int (a : Option Addr) (len cap : Nat) (t n : Int) (zs : List Int) (w : World) (hl : len ≤ 100000) (hz : Has .u8 w a len zs) (hcode : codeOf len t n = 0) :
    Calls Try.prog 8 #[.slice a len cap, .int .i64 t, .int .i64 n] w fun e w' => e = .returned (.tuple #[.int .u64 (Mth.rd zs t.toNat n.toNat), .agg #[.int .i64 0, .int .i64 0]]) ∧ Below w.heap.size w w' := by
  have hk := code_ok hcode
  obtain ⟨t', rfl⟩ := Int.eq_ofNat_of_zero_le hk.2.2.1
  obtain ⟨n', rfl⟩ := Int.eq_ofNat_of_zero_le (show 0 ≤ n by omega)
  exact get_yes a len cap t' n' zs w hl hz hcode

theorem put_int (a : Option Addr) (len cap : Nat) (t n v : Int) (zs : List Int) (w : World) (hl : len ≤ 100000) (hv : 0 ≤ v ∧ v < 18446744073709551616) (hz : Has .u8 w a len zs) (hcode : codeOf len t n = 0) :
    Calls Try.prog 10 #[.slice a len cap, .int .i64 t, .int .i64 n, .int .u64 v] w fun e w' => ∃ g cap', e = .returned (.tuple #[.slice (some ⟨g, 0, none⟩) len cap', .agg #[.int .i64 0, .int .i64 0]]) ∧
      Has .u8 w' (some ⟨g, 0, none⟩) len (Mth.wr zs t.toNat n.toNat v.toNat n.toNat) ∧ Below w.heap.size w w' := by
  have hk := code_ok hcode
  obtain ⟨t', rfl⟩ := Int.eq_ofNat_of_zero_le hk.2.2.1
  obtain ⟨n', rfl⟩ := Int.eq_ofNat_of_zero_le (show 0 ≤ n by omega)
  obtain ⟨v', rfl⟩ := Int.eq_ofNat_of_zero_le hv.1
  exact put_yes a len cap t' n' v' zs w hl (by omega) hz hcode

theorem two_bytes (w : World) : Has .u8 (w.alloc (.cells #[.int .u8 171, .int .u8 205] 5)) (some ⟨w.heap.size, 0, none⟩) 2 [171, 205] := by
  refine ⟨rfl, by intro n hn; simp at hn; rcases hn with rfl | rfl <;> decide, .inr ⟨_, _, rfl, by simp, ?_⟩⟩
  intro i hi
  match i, hi with
  | 0, _ => simp
  | 1, _ => simp

set_option maxHeartbeats 1000000 in
theorem begun (w : World) : Calls Try.prog 7 #[] w fun e w' => e = .returned (.bool true) ∧ Below w.heap.size w w' := by
  go_enter Try.func7, Try.ntmps7
  go_wp2_with fail
  refine (get_int _ 2 2 4 8 [171, 205] _ (by decide) (two_bytes w) (by decide)).mono ?_
  rintro e w1 ⟨rfl, hb1⟩
  have hr : Mth.rd [171, 205] (4 : Int).toNat (8 : Int).toNat = 188 := by decide
  rw [hr]
  go_wp2_with fail
  refine (mask_yes 3 _ (by decide) (by decide)).mono ?_
  rintro e w2 ⟨rfl, rfl⟩
  go_wp2
  go_ret
  refine ⟨rfl, ?_⟩
  exact bl_alloc (bl_step (bl_alloc (Below.refl _ _)) hb1)

/-- what Mask tells -/
def maskN (n : Int) : Int := if 1 ≤ n ∧ n ≤ 64 then ((2 ^ n.toNat - 1 : Nat) : Int) else 0

theorem mask_int (n : Int) (w : World) : Calls Try.prog 16 #[.int .i64 n] w fun e w' => e = .returned (.int .u64 (maskN n)) ∧ w' = w := by
  unfold maskN
  split
  · exact mask_yes n w (by omega) (by omega)
  · exact mask_no n w (by omega)

theorem and_mask (v n : Int) (hv : 0 ≤ v ∧ v < 18446744073709551616) (hn : 1 ≤ n ∧ n ≤ 64) : bits BinOp.and IntKind.u64 v (maskN n) = ((v.toNat % 2 ^ n.toNat : Nat) : Int) := by
  unfold maskN
  rw [if_pos hn]
  obtain ⟨v', rfl⟩ := Int.eq_ofNat_of_zero_le hv.1
  have h1 : 2 ^ n.toNat ≤ 2 ^ 64 := Nat.pow_le_pow_right (by decide) (by omega)
  rw [u64_and_nat _ _ (by omega) (by omega), Nat.and_two_pow_sub_one_eq_mod]
  rfl
end Go.Proofs.Ytllnedikfikgiaa
