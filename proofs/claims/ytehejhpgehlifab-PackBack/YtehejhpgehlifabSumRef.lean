/- What the document's own sums are: AddWords, Whole, Turn. -/
import Derived.Test.YtehejhpgehlifabSum2
namespace Go.Proofs.Ytehejhpgehlifab
open Go.RowKit

theorem word_num (a : Int) : wrap64 ((IntKind.u64.wrap a).tmod 65536) = a % 65536 := by
  have h0 := wrap_u64_nonneg a
  rw [Int.tmod_eq_emod_of_nonneg h0, IntKind.wrap_u64]
  unfold wrap64
  omega

theorem addWords_any (a b : Int) (w : World) : Calls Try.prog 45 #[.int .i64 a, .int .i64 b] w fun e w' => e = .returned (.int .i64 (Mth.add a b)) ∧ w' = w := by
  unfold Mth.add
  have ea := word_num a
  have eb := word_num b
  have := Int.emod_nonneg a (show (65536 : Int) ≠ 0 by decide)
  have := Int.emod_lt_of_pos a (show (0 : Int) < 65536 by decide)
  have := Int.emod_nonneg b (show (65536 : Int) ≠ 0 by decide)
  have := Int.emod_lt_of_pos b (show (0 : Int) < 65536 by decide)
  generalize a % 65536 = x at *
  generalize b % 65536 = y at *
  by_cases h : x + y > 65535
  · rw [if_pos h]
    go_enter Try.func45, Try.ntmps45
    go_wp2
    go_ret
    exact ⟨rfl, rfl⟩
  · rw [if_neg h]
    go_enter Try.func45, Try.ntmps45
    go_wp2
    go_ret
    exact ⟨rfl, rfl⟩

set_option maxHeartbeats 1000000 in
theorem rwhole_any (a : Option Addr) (len cap : Nat) (zs : List Int) (w : World) (hl : len ≤ 100000) (hz : Has .u8 w a len zs) :
    Calls Try.prog 36 #[.slice a len cap] w fun e w' => e = .returned (.int .i64 (Mth.whole zs)) ∧ w' = w := by
  have HZ := hid hz
  have hlen := hz.1
  clear hz
  go_enter Try.func36, Try.ntmps36
  go_wp2
  go_loopw [3, 4] (fun v i wr => ∃ k : Nat, 2 * k ≤ len + 1 ∧ i = .int .i64 ((2 * k : Nat) : Int) ∧ v = .int .i64 (Mth.wh zs k) ∧ wr = w) (fun _ i _ => len + 2 - (intOf i).toNat)
  case atStart => exact ⟨0, by omega, rfl, rfl, rfl⟩
  case round =>
    obtain ⟨k, hk, rfl, rfl, rfl⟩ := hrel
    by_cases hlt : 2 * k < len
    · have hlt' : ((2 * k : Nat) : Int) < (len : Int) := by omega
      have hr := Mth.wh_range zs k
      obtain ⟨b, off, rfl, hb, hcell⟩ := HZ.out.some (by omega)
      have c0 := hcell (2 * k) hlt
      have b0 := HZ.out.bytes (2 * k)
      have b1 := HZ.out.bytes (2 * k + 1)
      have hs : Mth.wh zs (k + 1) = Mth.add (Mth.wh zs k) (256 * zs.getD (2 * k) 0 + zs.getD (2 * k + 1) 0) := rfl
      by_cases h1 : 2 * k + 1 < len
      · have c1 := hcell (2 * k + 1) h1
        have hi1 : (((2 * k : Nat) : Int) + 1).toNat = 2 * k + 1 := by omega
        have h1' : ((2 * k : Nat) : Int) + 1 < (len : Int) := by omega
        generalize zs.getD (2 * k) 0 = x at *
        generalize zs.getD (2 * k + 1) 0 = y at *
        clear hcell
        go_wp2_with fail
        refine (addWords_any _ _ _).mono ?_
        rintro e w' ⟨rfl, rfl⟩
        go_wp2
        go_roundw
        case measure => simp [intOf]; omega
        case rel =>
          refine ⟨k + 1, by omega, vint (by omega), vint ?_, trivial⟩
          rw [hs, Int.mul_comm]
      · have e1 : zs.getD (2 * k + 1) 0 = 0 := by simp [List.getD_eq_getElem?_getD, List.getElem?_eq_none (show zs.length ≤ 2 * k + 1 by omega)]
        rw [e1] at hs
        have h1' : ¬ ((2 * k : Nat) : Int) + 1 < (len : Int) := by omega
        generalize zs.getD (2 * k) 0 = x at *
        clear hcell
        go_wp2_with fail
        refine (addWords_any _ _ _).mono ?_
        rintro e w' ⟨rfl, rfl⟩
        go_wp2
        go_roundw
        case measure => simp [intOf]; omega
        case rel =>
          refine ⟨k + 1, by omega, vint (by omega), vint ?_, trivial⟩
          rw [hs, Int.mul_comm, Int.add_zero]
    · have hlt' : ¬ ((2 * k : Nat) : Int) < (len : Int) := by omega
      go_wp2
      go_ret
      refine ⟨ret_int ?_, rfl⟩
      unfold Mth.whole
      rw [show (zs.length + 1) / 2 = k from by omega]

end Go.Proofs.Ytehejhpgehlifab
