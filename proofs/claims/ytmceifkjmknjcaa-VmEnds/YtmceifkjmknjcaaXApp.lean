/- A step of an expression over two numbers: pipe.Apply, and the document's Op2. -/
import Derived.Test.YtmceifkjmknjcaaBase
import Derived.Test.YtmceifkjmknjcaaU64
import Derived.Laws.ShiftsVarLaws
import Derived.Laws.BitsAllLaws
namespace Go.Proofs.Ytmceifkjmknjcaa
open Go.RowKit

/-- what a step makes of two numbers -/
def op2N (op : Int) (a b : Nat) : Nat :=
  if op = 3 then (a + b) % 18446744073709551616 else if op = 4 then (a + (18446744073709551616 - b)) % 18446744073709551616 else if op = 5 then (a * b) % 18446744073709551616 else if op = 6 then a &&& b else if op = 7 then a ||| b else if op = 8 then a ^^^ b else if op = 9 then (if 64 ≤ b then 0 else (a * 2 ^ b) % 18446744073709551616) else if op = 10 then (if 64 ≤ b then 0 else a / 2 ^ b) else if op = 11 then (if a < b then 1 else 0) else if op = 12 then (if a = b then 1 else 0) else 0

theorem op_ways (op : Int) : op = 3 ∨ op = 4 ∨ op = 5 ∨ op = 6 ∨ op = 7 ∨ op = 8 ∨ op = 9 ∨ op = 10 ∨ op = 11 ∨ op = 12 ∨ (op ≠ 3 ∧ op ≠ 4 ∧ op ≠ 5 ∧ op ≠ 6 ∧ op ≠ 7 ∧ op ≠ 8 ∧ op ≠ 9 ∧ op ≠ 10 ∧ op ≠ 11 ∧ op ≠ 12) := by omega

theorem xand (a b : Nat) (ha : a < 18446744073709551616) (hb : b < 18446744073709551616) : bits .and .u64 (a : Int) (b : Int) = ((a &&& b : Nat) : Int) := u64_and_nat a b ha hb
theorem xor_ (a b : Nat) (ha : a < 18446744073709551616) (hb : b < 18446744073709551616) : bits .or .u64 (a : Int) (b : Int) = ((a ||| b : Nat) : Int) := u64_or_nat a b ha hb
theorem xxor (a b : Nat) (ha : a < 18446744073709551616) (hb : b < 18446744073709551616) : bits .xor .u64 (a : Int) (b : Int) = ((a ^^^ b : Nat) : Int) := u64_xor_nat a b ha hb

set_option maxHeartbeats 4000000 in
set_option maxRecDepth 20000 in
theorem oneIf_any (x : Bool) (w : World) : Calls Try.prog 44 #[.bool x] w fun e w' => e = .returned (.int .u64 (if x = true then 1 else 0)) ∧ w' = w := by
  cases x
  all_goals
    go_enter Try.func44, Try.ntmps44
    go_wp2
    go_ret
    exact ⟨rfl, rfl⟩

set_option maxHeartbeats 4000000 in
set_option maxRecDepth 20000 in
theorem apply_any (op : Int) (a b : Nat) (ha : a < 18446744073709551616) (hb : b < 18446744073709551616) (w : World) : Calls Try.prog 36 #[.int .i64 op, .int .u64 (a : Int), .int .u64 (b : Int)] w fun e w' => e = .returned (.int .u64 ((op2N op a b : Nat) : Int)) ∧ w' = w := by
  rcases op_ways op with rfl | rfl | rfl | rfl | rfl | rfl | rfl | rfl | rfl | rfl | ⟨h3, h4, h5, h6, h7, h8, h9, h10, h11, h12⟩
  · go_enter Try.func36, Try.ntmps36
    go_wp2
    go_ret
    refine ⟨ret_int ?_, rfl⟩
    rw [IntKind.wrap_u64]
    show _ = (((a + b) % 18446744073709551616 : Nat) : Int)
    omega
  · go_enter Try.func36, Try.ntmps36
    go_wp2
    go_ret
    refine ⟨ret_int ?_, rfl⟩
    rw [IntKind.wrap_u64]
    show _ = (((a + (18446744073709551616 - b)) % 18446744073709551616 : Nat) : Int)
    omega
  · go_enter Try.func36, Try.ntmps36
    go_wp2
    go_ret
    refine ⟨ret_int ?_, rfl⟩
    rw [IntKind.wrap_u64]
    show _ = (((a * b) % 18446744073709551616 : Nat) : Int)
    rw [Int.natCast_emod, Int.natCast_mul]
    rfl
  · go_enter Try.func36, Try.ntmps36
    go_wp2
    go_ret
    exact ⟨ret_int (xand a b ha hb), rfl⟩
  · go_enter Try.func36, Try.ntmps36
    go_wp2
    go_ret
    exact ⟨ret_int (xor_ a b ha hb), rfl⟩
  · go_enter Try.func36, Try.ntmps36
    go_wp2
    go_ret
    exact ⟨ret_int (xxor a b ha hb), rfl⟩
  · go_enter Try.func36, Try.ntmps36
    go_wp2
    go_ret
    refine ⟨ret_int ?_, rfl⟩
    rw [IntKind.wrap_u64]
    show _ = ((if 64 ≤ b then 0 else (a * 2 ^ b) % 18446744073709551616 : Nat) : Int)
    by_cases h : 64 ≤ b
    · rw [if_pos h, Nat.min_eq_right h]
      omega
    · rw [if_neg h, Nat.min_eq_left (by omega), Int.natCast_emod, Int.natCast_mul, Int.natCast_pow]
      rfl
  · go_enter Try.func36, Try.ntmps36
    go_wp2
    go_ret
    refine ⟨ret_int ?_, rfl⟩
    show _ = ((if 64 ≤ b then 0 else a / 2 ^ b : Nat) : Int)
    by_cases h : 64 ≤ b
    · rw [if_pos h, Nat.min_eq_right h]
      omega
    · rw [if_neg h, Nat.min_eq_left (by omega), Int.natCast_ediv, Int.natCast_pow]
      rfl
  · by_cases h : a < b
    · have hi : (a : Int) < (b : Int) := by omega
      have e0 : op2N 11 a b = 1 := by show (if a < b then 1 else 0) = 1; rw [if_pos h]
      rw [e0]
      go_enter Try.func36, Try.ntmps36
      go_wp2_with (go_at_call 44; refine (oneIf_any _ _).mono ?_; rintro e w' ⟨rfl, rfl⟩)
      go_ret
      exact ⟨rfl, rfl⟩
    · have hi : ¬ (a : Int) < (b : Int) := by omega
      have e0 : op2N 11 a b = 0 := by show (if a < b then 1 else 0) = 0; rw [if_neg h]
      rw [e0]
      go_enter Try.func36, Try.ntmps36
      go_wp2_with (go_at_call 44; refine (oneIf_any _ _).mono ?_; rintro e w' ⟨rfl, rfl⟩)
      go_ret
      exact ⟨rfl, rfl⟩
  · by_cases h : a = b
    · subst h
      have e0 : op2N 12 a a = 1 := by show (if a = a then 1 else 0) = 1; rw [if_pos rfl]
      rw [e0]
      go_enter Try.func36, Try.ntmps36
      go_wp2_with (go_at_call 44; refine (oneIf_any _ _).mono ?_; rintro e w' ⟨rfl, rfl⟩)
      go_ret
      exact ⟨rfl, rfl⟩
    · have hi : ((a : Int) == (b : Int)) = false := beq_eq_false_iff_ne.2 (by omega)
      have e0 : op2N 12 a b = 0 := by show (if a = b then 1 else 0) = 0; rw [if_neg h]
      rw [e0]
      go_enter Try.func36, Try.ntmps36
      go_wp2_with (go_at_call 44; refine (oneIf_any _ _).mono ?_; rintro e w' ⟨rfl, rfl⟩)
      go_ret
      exact ⟨rfl, rfl⟩
  · have q3 : (op == 3) = false := beq_eq_false_iff_ne.2 h3
    have q4 : (op == 4) = false := beq_eq_false_iff_ne.2 h4
    have q5 : (op == 5) = false := beq_eq_false_iff_ne.2 h5
    have q6 : (op == 6) = false := beq_eq_false_iff_ne.2 h6
    have q7 : (op == 7) = false := beq_eq_false_iff_ne.2 h7
    have q8 : (op == 8) = false := beq_eq_false_iff_ne.2 h8
    have q9 : (op == 9) = false := beq_eq_false_iff_ne.2 h9
    have q10 : (op == 10) = false := beq_eq_false_iff_ne.2 h10
    have q11 : (op == 11) = false := beq_eq_false_iff_ne.2 h11
    have q12 : (op == 12) = false := beq_eq_false_iff_ne.2 h12
    have e0 : op2N op a b = 0 := by unfold op2N; simp [h3, h4, h5, h6, h7, h8, h9, h10, h11, h12]
    rw [e0]
    clear h3 h4 h5 h6 h7 h8 h9 h10 h11 h12 e0
    go_enter Try.func36, Try.ntmps36
    go_wp2
    go_ret
    exact ⟨rfl, rfl⟩
end Go.Proofs.Ytmceifkjmknjcaa
