/- Texts of one chain, joined: XApp, XOp2. -/
import Derived.Test.YtajelgjbgehahaaGreatJ1
import Derived.Laws.ShiftsVarLaws
import Derived.Laws.BitsAllLaws
namespace Go.Proofs.YtajelgjbgehahaaGreat
open Go.RowKit

/-- what a step makes of two numbers -/
def op2N (op : Int) (a b : Nat) : Nat :=
  if op = 3 then (a + b) % 18446744073709551616 else if op = 4 then (a + (18446744073709551616 - b)) % 18446744073709551616 else if op = 5 then (a * b) % 18446744073709551616 else if op = 6 then a &&& b else if op = 7 then a ||| b else if op = 8 then a ^^^ b else if op = 9 then (if 64 ≤ b then 0 else (a * 2 ^ b) % 18446744073709551616) else if op = 10 then (if 64 ≤ b then 0 else a / 2 ^ b) else if op = 11 then (if a < b then 1 else 0) else if op = 12 then (if a = b then 1 else 0) else 0

theorem op_ways (op : Int) : op = 3 ∨ op = 4 ∨ op = 5 ∨ op = 6 ∨ op = 7 ∨ op = 8 ∨ op = 9 ∨ op = 10 ∨ op = 11 ∨ op = 12 ∨ (op ≠ 3 ∧ op ≠ 4 ∧ op ≠ 5 ∧ op ≠ 6 ∧ op ≠ 7 ∧ op ≠ 8 ∧ op ≠ 9 ∧ op ≠ 10 ∧ op ≠ 11 ∧ op ≠ 12) := by omega

theorem xand (a b : Nat) (ha : a < 18446744073709551616) (hb : b < 18446744073709551616) : bits .and .u64 (a : Int) (b : Int) = ((a &&& b : Nat) : Int) := u64_and_nat a b ha hb
theorem xor_ (a b : Nat) (ha : a < 18446744073709551616) (hb : b < 18446744073709551616) : bits .or .u64 (a : Int) (b : Int) = ((a ||| b : Nat) : Int) := u64_or_nat a b ha hb
theorem xxor (a b : Nat) (ha : a < 18446744073709551616) (hb : b < 18446744073709551616) : bits .xor .u64 (a : Int) (b : Int) = ((a ^^^ b : Nat) : Int) := u64_xor_nat a b ha hb

set_option maxHeartbeats 4000000 in
set_option maxRecDepth 20000 in
theorem oneIf_any (x : Bool) (w : World) : Calls Tryz.prog 11 #[.bool x] w fun e w' => e = .returned (.int .u64 (if x = true then 1 else 0)) ∧ w' = w := by
  cases x
  all_goals
    go_enter Tryz.func11, Tryz.ntmps11
    go_wp2
    go_ret
    exact ⟨rfl, rfl⟩

set_option maxHeartbeats 4000000 in
set_option maxRecDepth 20000 in
theorem apply_any (op : Int) (a b : Nat) (ha : a < 18446744073709551616) (hb : b < 18446744073709551616) (w : World) : Calls Tryz.prog 5 #[.int .i64 op, .int .u64 (a : Int), .int .u64 (b : Int)] w fun e w' => e = .returned (.int .u64 ((op2N op a b : Nat) : Int)) ∧ w' = w := by
  rcases op_ways op with rfl | rfl | rfl | rfl | rfl | rfl | rfl | rfl | rfl | rfl | ⟨h3, h4, h5, h6, h7, h8, h9, h10, h11, h12⟩
  · go_enter Tryz.func5, Tryz.ntmps5
    go_wp2
    go_ret
    refine ⟨ret_int ?_, rfl⟩
    rw [IntKind.wrap_u64]
    show _ = (((a + b) % 18446744073709551616 : Nat) : Int)
    omega
  · go_enter Tryz.func5, Tryz.ntmps5
    go_wp2
    go_ret
    refine ⟨ret_int ?_, rfl⟩
    rw [IntKind.wrap_u64]
    show _ = (((a + (18446744073709551616 - b)) % 18446744073709551616 : Nat) : Int)
    omega
  · go_enter Tryz.func5, Tryz.ntmps5
    go_wp2
    go_ret
    refine ⟨ret_int ?_, rfl⟩
    rw [IntKind.wrap_u64]
    show _ = (((a * b) % 18446744073709551616 : Nat) : Int)
    rw [Int.natCast_emod, Int.natCast_mul]
    rfl
  · go_enter Tryz.func5, Tryz.ntmps5
    go_wp2
    go_ret
    exact ⟨ret_int (xand a b ha hb), rfl⟩
  · go_enter Tryz.func5, Tryz.ntmps5
    go_wp2
    go_ret
    exact ⟨ret_int (xor_ a b ha hb), rfl⟩
  · go_enter Tryz.func5, Tryz.ntmps5
    go_wp2
    go_ret
    exact ⟨ret_int (xxor a b ha hb), rfl⟩
  · go_enter Tryz.func5, Tryz.ntmps5
    go_wp2
    go_ret
    refine ⟨ret_int ?_, rfl⟩
    rw [IntKind.wrap_u64]
    show _ = ((if 64 ≤ b then 0 else (a * 2 ^ b) % 18446744073709551616 : Nat) : Int)
    by_cases h : 64 ≤ b
    · rw [if_pos h, Nat.min_eq_right h]
      omega
    · rw [if_neg h, Nat.min_eq_left (by omega), Int.natCast_emod, Int.natCast_mul, Int.natCast_pow]
      rfl
  · go_enter Tryz.func5, Tryz.ntmps5
    go_wp2
    go_ret
    refine ⟨ret_int ?_, rfl⟩
    show _ = ((if 64 ≤ b then 0 else a / 2 ^ b : Nat) : Int)
    by_cases h : 64 ≤ b
    · rw [if_pos h, Nat.min_eq_right h]
      omega
    · rw [if_neg h, Nat.min_eq_left (by omega), Int.natCast_ediv, Int.natCast_pow]
      rfl
  · by_cases h : a < b
    · have hi : (a : Int) < (b : Int) := by omega
      have e0 : op2N 11 a b = 1 := by show (if a < b then 1 else 0) = 1; rw [if_pos h]
      rw [e0]
      go_enter Tryz.func5, Tryz.ntmps5
      go_wp2_with (go_at_call 11; refine (oneIf_any _ _).mono ?_; rintro e w' ⟨rfl, rfl⟩)
      go_ret
      exact ⟨rfl, rfl⟩
    · have hi : ¬ (a : Int) < (b : Int) := by omega
      have e0 : op2N 11 a b = 0 := by show (if a < b then 1 else 0) = 0; rw [if_neg h]
      rw [e0]
      go_enter Tryz.func5, Tryz.ntmps5
      go_wp2_with (go_at_call 11; refine (oneIf_any _ _).mono ?_; rintro e w' ⟨rfl, rfl⟩)
      go_ret
      exact ⟨rfl, rfl⟩
  · by_cases h : a = b
    · subst h
      have e0 : op2N 12 a a = 1 := by show (if a = a then 1 else 0) = 1; rw [if_pos rfl]
      rw [e0]
      go_enter Tryz.func5, Tryz.ntmps5
      go_wp2_with (go_at_call 11; refine (oneIf_any _ _).mono ?_; rintro e w' ⟨rfl, rfl⟩)
      go_ret
      exact ⟨rfl, rfl⟩
    · have hi : ((a : Int) == (b : Int)) = false := beq_eq_false_iff_ne.2 (by omega)
      have e0 : op2N 12 a b = 0 := by show (if a = b then 1 else 0) = 0; rw [if_neg h]
      rw [e0]
      go_enter Tryz.func5, Tryz.ntmps5
      go_wp2_with (go_at_call 11; refine (oneIf_any _ _).mono ?_; rintro e w' ⟨rfl, rfl⟩)
      go_ret
      exact ⟨rfl, rfl⟩
  · have q3 : (op == 3) = false := beq_eq_false_iff_ne.2 h3
    have q4 : (op == 4) = false := beq_eq_false_iff_ne.2 h4
    have q5 : (op == 5) = false := beq_eq_false_iff_ne.2 h5
    have q6 : (op == 6) = false := beq_eq_false_iff_ne.2 h6
    have q7 : (op == 7) = false := beq_eq_false_iff_ne.2 h7
    have q8 : (op == 8) = false := beq_eq_false_iff_ne.2 h8
    have q9 : (op == 9) = false := beq_eq_false_iff_ne.2 h9
    have q10 : (op == 10) = false := beq_eq_false_iff_ne.2 h10
    have q11 : (op == 11) = false := beq_eq_false_iff_ne.2 h11
    have q12 : (op == 12) = false := beq_eq_false_iff_ne.2 h12
    have e0 : op2N op a b = 0 := by unfold op2N; simp [h3, h4, h5, h6, h7, h8, h9, h10, h11, h12]
    rw [e0]
    clear h3 h4 h5 h6 h7 h8 h9 h10 h11 h12 e0
    go_enter Tryz.func5, Tryz.ntmps5
    go_wp2
    go_ret
    exact ⟨rfl, rfl⟩
end Go.Proofs.YtajelgjbgehahaaGreat

namespace Go.Proofs.YtajelgjbgehahaaGreat
open Go.RowKit

theorem shl_end (x : Nat) (hx : x < 18446744073709551616) : op2N 9 x 0 = x := by
  show (if 64 ≤ 0 then 0 else x * 2 ^ 0 % 18446744073709551616) = x
  rw [if_neg (by decide), Nat.pow_zero, Nat.mul_one, Nat.mod_eq_of_lt hx]
theorem shl_zero (y : Nat) : op2N 9 0 y = 0 := by
  show (if 64 ≤ y then 0 else 0 * 2 ^ y % 18446744073709551616) = 0
  by_cases h : 64 ≤ y
  · rw [if_pos h]
  · rw [if_neg h, Nat.zero_mul, Nat.zero_mod]
theorem shl_step (x y : Nat) : op2N 9 (x * 2 % 18446744073709551616) y = op2N 9 x (y + 1) := by
  show (if 64 ≤ y then 0 else x * 2 % 18446744073709551616 * 2 ^ y % 18446744073709551616) = (if 64 ≤ y + 1 then 0 else x * 2 ^ (y + 1) % 18446744073709551616)
  have key : x * 2 % 18446744073709551616 * 2 ^ y % 18446744073709551616 = x * 2 ^ (y + 1) % 18446744073709551616 := by
    rw [Nat.mul_mod, Nat.mod_mod, ← Nat.mul_mod, Nat.pow_succ, Nat.mul_assoc, Nat.mul_comm 2]
  by_cases h : 64 ≤ y
  · rw [if_pos h, if_pos (by omega)]
  · rw [if_neg h, key]
    by_cases h2 : 64 ≤ y + 1
    · rw [if_pos h2]
      obtain rfl : y = 63 := by omega
      exact Nat.mul_mod_left _ _
    · rw [if_neg h2]
theorem shr_end (x : Nat) : op2N 10 x 0 = x := by
  show (if 64 ≤ 0 then 0 else x / 2 ^ 0) = x
  rw [if_neg (by decide), Nat.pow_zero, Nat.div_one]
theorem shr_zero (y : Nat) : op2N 10 0 y = 0 := by
  show (if 64 ≤ y then 0 else 0 / 2 ^ y) = 0
  by_cases h : 64 ≤ y
  · rw [if_pos h]
  · rw [if_neg h, Nat.zero_div]
theorem shr_step (x y : Nat) (hx : x < 18446744073709551616) : op2N 10 (x / 2) y = op2N 10 x (y + 1) := by
  show (if 64 ≤ y then 0 else x / 2 / 2 ^ y) = (if 64 ≤ y + 1 then 0 else x / 2 ^ (y + 1))
  have key : x / 2 / 2 ^ y = x / 2 ^ (y + 1) := by rw [Nat.div_div_eq_div_mul, Nat.pow_succ, Nat.mul_comm]
  by_cases h : 64 ≤ y
  · rw [if_pos h, if_pos (by omega)]
  · rw [if_neg h, key]
    by_cases h2 : 64 ≤ y + 1
    · rw [if_pos h2]
      obtain rfl : y = 63 := by omega
      omega
    · rw [if_neg h2]

theorem xnat_or_add (a b : Nat) (h : a &&& b = 0) : a ||| b = a + b := by
  have hw : a + b < 2 ^ (a + b) := Nat.lt_two_pow_self
  have h1 := BitVec.add_eq_or_of_and_eq_zero (w := a + b) (BitVec.ofNat _ a) (BitVec.ofNat _ b) (by rw [← BitVec.ofNat_and, h])
  have h2 := congrArg BitVec.toNat h1
  rw [← BitVec.ofNat_add, ← BitVec.ofNat_or, BitVec.toNat_ofNat, BitVec.toNat_ofNat, Nat.mod_eq_of_lt hw, Nat.mod_eq_of_lt (Nat.or_lt_two_pow (by omega) (by omega))] at h2
  exact h2.symm

theorem xor_sum (a b : Nat) : (a ^^^ b) + (a &&& b) = a ||| b := by
  have h0 : (a ^^^ b) &&& (a &&& b) = 0 := by
    refine Nat.eq_of_testBit_eq fun k => ?_
    rw [Nat.testBit_and, Nat.testBit_xor, Nat.testBit_and, Nat.zero_testBit]
    cases a.testBit k <;> cases b.testBit k <;> rfl
  rw [← xnat_or_add _ _ h0]
  refine Nat.eq_of_testBit_eq fun k => ?_
  rw [Nat.testBit_or, Nat.testBit_xor, Nat.testBit_and, Nat.testBit_or]
  cases a.testBit k <;> cases b.testBit k <;> rfl

set_option maxHeartbeats 4000000 in
set_option maxRecDepth 20000 in
theorem rop2_any (op : Int) (a b : Nat) (ha : a < 18446744073709551616) (hb : b < 18446744073709551616) (w : World) : Calls Tryz.prog 6 #[.int .i64 op, .int .u64 (a : Int), .int .u64 (b : Int)] w fun e w' => e = .returned (.int .u64 ((op2N op a b : Nat) : Int)) ∧ w' = w := by
  rcases op_ways op with rfl | rfl | rfl | rfl | rfl | rfl | rfl | rfl | rfl | rfl | ⟨h3, h4, h5, h6, h7, h8, h9, h10, h11, h12⟩
  · go_enter Tryz.func6, Tryz.ntmps6
    go_wp2
    go_ret
    refine ⟨ret_int ?_, rfl⟩
    rw [IntKind.wrap_u64]
    show _ = (((a + b) % 18446744073709551616 : Nat) : Int)
    omega
  · go_enter Tryz.func6, Tryz.ntmps6
    go_wp2
    go_ret
    refine ⟨ret_int ?_, rfl⟩
    rw [IntKind.wrap_u64]
    show _ = (((a + (18446744073709551616 - b)) % 18446744073709551616 : Nat) : Int)
    omega
  · go_enter Tryz.func6, Tryz.ntmps6
    go_wp2
    go_ret
    refine ⟨ret_int ?_, rfl⟩
    rw [IntKind.wrap_u64]
    show _ = (((a * b) % 18446744073709551616 : Nat) : Int)
    rw [Int.natCast_emod, Int.natCast_mul]
    rfl
  · go_enter Tryz.func6, Tryz.ntmps6
    go_wp2
    go_ret
    exact ⟨ret_int (xand a b ha hb), rfl⟩
  · go_enter Tryz.func6, Tryz.ntmps6
    go_wp2
    go_ret
    exact ⟨ret_int (xor_ a b ha hb), rfl⟩
  · have e1 := xor_ a b ha hb
    have e2 := xand a b ha hb
    have e3 := xor_sum a b
    have e4 : (a ||| b) < 18446744073709551616 := Nat.or_lt_two_pow (n := 64) ha hb
    have e0 : op2N 8 a b = a ^^^ b := rfl
    rw [e0]
    go_enter Tryz.func6, Tryz.ntmps6
    go_wp2
    go_ret
    refine ⟨ret_int ?_, rfl⟩
    omega
  · go_enter Tryz.func6, Tryz.ntmps6
    go_wp2
    go_loopw [1, 2] (fun u v wr => ∃ x y : Nat, u = .int .u64 (x : Int) ∧ v = .int .u64 (y : Int) ∧ x < 18446744073709551616 ∧ y < 18446744073709551616 ∧ Hid (op2N 9 x y = op2N 9 a b) ∧ wr = w) (fun _ v _ => (intOf v).toNat)
    case atStart => exact ⟨a, b, rfl, rfl, ha, hb, rfl, rfl⟩
    case round =>
      obtain ⟨x, y, rfl, rfl, hx, hy, HE, rfl⟩ := hrel
      clear ha hb
      by_cases hy0 : y = 0
      · subst hy0
        have HR : Hid (op2N 9 a b = x) := HE.out.symm.trans (shl_end x hx)
        go_wp2
        go_ret
        exact ⟨ret_int (by rw [HR.out]), rfl⟩
      · obtain ⟨y, rfl⟩ : ∃ k, y = k + 1 := ⟨y - 1, by omega⟩
        have hyi : (0 : Int) < ((y + 1 : Nat) : Int) := by omega
        by_cases hx0 : x = 0
        · subst hx0
          have HR : Hid (op2N 9 a b = 0) := HE.out.symm.trans (shl_zero _)
          go_wp2
          go_ret
          exact ⟨ret_int (by rw [HR.out]), rfl⟩
        · have hxi : (0 : Int) < (x : Int) := by omega
          have HN : Hid (op2N 9 (x * 2 % 18446744073709551616) y = op2N 9 a b) := (shl_step x y).trans HE.out
          go_wp2
          go_roundw
          case rel => exact ⟨x * 2 % 18446744073709551616, y, vint (by first | (rw [IntKind.wrap_u64]; omega) | omega), vint (by first | (rw [IntKind.wrap_u64]; omega) | omega), by omega, by omega, HN, trivial⟩
          case measure => simp [intOf]
  · go_enter Tryz.func6, Tryz.ntmps6
    go_wp2
    go_loopw [1, 2] (fun u v wr => ∃ x y : Nat, u = .int .u64 (x : Int) ∧ v = .int .u64 (y : Int) ∧ x < 18446744073709551616 ∧ y < 18446744073709551616 ∧ Hid (op2N 10 x y = op2N 10 a b) ∧ wr = w) (fun _ v _ => (intOf v).toNat)
    case atStart => exact ⟨a, b, rfl, rfl, ha, hb, rfl, rfl⟩
    case round =>
      obtain ⟨x, y, rfl, rfl, hx, hy, HE, rfl⟩ := hrel
      clear ha hb
      by_cases hy0 : y = 0
      · subst hy0
        have HR : Hid (op2N 10 a b = x) := HE.out.symm.trans (shr_end x)
        go_wp2
        go_ret
        exact ⟨ret_int (by rw [HR.out]), rfl⟩
      · obtain ⟨y, rfl⟩ : ∃ k, y = k + 1 := ⟨y - 1, by omega⟩
        have hyi : (0 : Int) < ((y + 1 : Nat) : Int) := by omega
        by_cases hx0 : x = 0
        · subst hx0
          have HR : Hid (op2N 10 a b = 0) := HE.out.symm.trans (shr_zero _)
          go_wp2
          go_ret
          exact ⟨ret_int (by rw [HR.out]), rfl⟩
        · have hxi : (0 : Int) < (x : Int) := by omega
          have HN : Hid (op2N 10 (x / 2) y = op2N 10 a b) := (shr_step x y hx).trans HE.out
          go_wp2
          go_roundw
          case rel => exact ⟨x / 2, y, vint (by first | (rw [IntKind.wrap_u64]; omega) | omega), vint (by first | (rw [IntKind.wrap_u64]; omega) | omega), by omega, by omega, HN, trivial⟩
          case measure => simp [intOf]
  · by_cases h : a < b
    · have hi : (a : Int) < (b : Int) := by omega
      have e0 : op2N 11 a b = 1 := by show (if a < b then 1 else 0) = 1; rw [if_pos h]
      rw [e0]
      clear h
      go_enter Tryz.func6, Tryz.ntmps6
      go_wp2
      go_ret
      exact ⟨rfl, rfl⟩
    · have hi : ¬ (a : Int) < (b : Int) := by omega
      have e0 : op2N 11 a b = 0 := by show (if a < b then 1 else 0) = 0; rw [if_neg h]
      rw [e0]
      clear h
      go_enter Tryz.func6, Tryz.ntmps6
      go_wp2
      go_ret
      exact ⟨rfl, rfl⟩
  · by_cases h : a = b
    · have hi : ((a : Int) == (b : Int)) = true := beq_iff_eq.2 (by omega)
      have e0 : op2N 12 a b = 1 := by show (if a = b then 1 else 0) = 1; rw [if_pos h]
      rw [e0]
      clear h
      go_enter Tryz.func6, Tryz.ntmps6
      go_wp2
      go_ret
      exact ⟨rfl, rfl⟩
    · have hi : ((a : Int) == (b : Int)) = false := beq_eq_false_iff_ne.2 (by omega)
      have e0 : op2N 12 a b = 0 := by show (if a = b then 1 else 0) = 0; rw [if_neg h]
      rw [e0]
      clear h
      go_enter Tryz.func6, Tryz.ntmps6
      go_wp2
      go_ret
      exact ⟨rfl, rfl⟩
  · have q3 : (op == 3) = false := beq_eq_false_iff_ne.2 h3
    have q4 : (op == 4) = false := beq_eq_false_iff_ne.2 h4
    have q5 : (op == 5) = false := beq_eq_false_iff_ne.2 h5
    have q6 : (op == 6) = false := beq_eq_false_iff_ne.2 h6
    have q7 : (op == 7) = false := beq_eq_false_iff_ne.2 h7
    have q8 : (op == 8) = false := beq_eq_false_iff_ne.2 h8
    have q9 : (op == 9) = false := beq_eq_false_iff_ne.2 h9
    have q10 : (op == 10) = false := beq_eq_false_iff_ne.2 h10
    have q11 : (op == 11) = false := beq_eq_false_iff_ne.2 h11
    have q12 : (op == 12) = false := beq_eq_false_iff_ne.2 h12
    have e0 : op2N op a b = 0 := by unfold op2N; simp [h3, h4, h5, h6, h7, h8, h9, h10, h11, h12]
    rw [e0]
    clear h3 h4 h5 h6 h7 h8 h9 h10 h11 h12 e0
    go_enter Tryz.func6, Tryz.ntmps6
    go_wp2
    go_ret
    exact ⟨rfl, rfl⟩
end Go.Proofs.YtajelgjbgehahaaGreat
