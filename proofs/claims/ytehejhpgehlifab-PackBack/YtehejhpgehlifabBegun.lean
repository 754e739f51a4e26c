/- Get and Put at whatever integers; what bitsBegun answers. -/
import Derived.Test.YtehejhpgehlifabCalls
namespace Go.Proofs.Ytehejhpgehlifab
open Go.RowKit

theorem get_int (a : Option Addr) (len cap : Nat) (t n : Int) (zs : List Int) (w : World) (hl : len ≤ 100000) (hz : Has .u8 w a len zs) (hcode : codeOf len t n = 0) :
    Calls Try.prog 37 #[.slice a len cap, .int .i64 t, .int .i64 n] w fun e w' => e = .returned (.tuple #[.int .u64 (Mth.rd zs t.toNat n.toNat), .agg #[.int .i64 0, .int .i64 0]]) ∧ Below w.heap.size w w' := by
  have hk := code_ok hcode
  obtain ⟨t', rfl⟩ := Int.eq_ofNat_of_zero_le hk.2.2.1
  obtain ⟨n', rfl⟩ := Int.eq_ofNat_of_zero_le (show 0 ≤ n by omega)
  exact get_yes a len cap t' n' zs w hl hz hcode

theorem two_bytes (w : World) : Has .u8 (w.alloc (.cells #[.int .u8 171, .int .u8 205] 5)) (some ⟨w.heap.size, 0, none⟩) 2 [171, 205] := by
  refine ⟨rfl, by intro n hn; simp at hn; rcases hn with rfl | rfl <;> decide, .inr ⟨_, _, rfl, by simp, ?_⟩⟩
  intro i hi
  match i, hi with
  | 0, _ => simp
  | 1, _ => simp

/-- what Mask tells -/
def maskN (n : Int) : Int := if 1 ≤ n ∧ n ≤ 64 then ((2 ^ n.toNat - 1 : Nat) : Int) else 0

theorem mask_int (n : Int) (w : World) : Calls Try.prog 31 #[.int .i64 n] w fun e w' => e = .returned (.int .u64 (maskN n)) ∧ w' = w := by
  unfold maskN
  split
  · exact mask_yes n w (by omega) (by omega)
  · exact mask_no n w (by omega)

theorem and_mask (v n : Int) (hv : 0 ≤ v ∧ v < 18446744073709551616) (hn : 1 ≤ n ∧ n ≤ 64) : bits BinOp.and IntKind.u64 v (maskN n) = ((v.toNat % 2 ^ n.toNat : Nat) : Int) := by
  unfold maskN
  rw [if_pos hn]
  obtain ⟨v', rfl⟩ := Int.eq_ofNat_of_zero_le hv.1
  have h1 : 2 ^ n.toNat ≤ 2 ^ 64 := Nat.pow_le_pow_right (by decide) (by omega)
  rw [u64_and_nat _ _ (by omega) (by omega), Nat.and_two_pow_sub_one_eq_mod]
  rfl
end Go.Proofs.Ytehejhpgehlifab
