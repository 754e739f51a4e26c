/- What the functions of package sum do on bytes: word, Whole, Of, Right, Turn; what sumBegun answers. -/
import Derived.Test.YtehejhpgehlifabSum
namespace Go.Proofs.Ytehejhpgehlifab
open Go.RowKit

theorem join8 (x y : Int) (hx : 0 ≤ x ∧ x < 256) (hy : 0 ≤ y ∧ y < 256) : bits BinOp.or IntKind.i64 (x * 256) y = 256 * x + y := by
  rw [bits_join .i64 16 (by decide) (by intro n h0 h1; rw [IntKind.wrap_i64]; omega) 8 (x * 256) y (by omega) (by omega) (by omega) hy.1 (by omega) (by omega)]
  omega

set_option maxHeartbeats 1000000 in
theorem word_any (a : Option Addr) (len cap i : Nat) (zs : List Int) (w : World) (hl : len ≤ 100000) (hi : i < len) (hz : Has .u8 w a len zs) :
    Calls Try.prog 26 #[.slice a len cap, .int .i64 i] w fun e w' => e = .returned (.int .i64 (Mth.wd zs i)) ∧ w' = w := by
  obtain ⟨b, off, rfl, hlt, hcell⟩ := hz.some (by omega)
  have c0 := hcell i hi
  have b0 := hz.bytes i
  have b1 := hz.bytes (i + 1)
  have hlen := hz.1
  unfold Mth.wd
  by_cases h : i + 1 = len
  · have e1 : zs.getD (i + 1) 0 = 0 := by simp [List.getD_eq_getElem?_getD, List.getElem?_eq_none (show zs.length ≤ i + 1 by omega)]
    rw [e1]
    generalize zs.getD i 0 = x at *
    clear hz hcell
    have h' : (i : Int) + 1 = (len : Int) := by omega
    go_enter Try.func26, Try.ntmps26
    go_wp2
    go_ret
    exact ⟨ret_int (by omega), rfl⟩
  · have c1 := hcell (i + 1) (by omega)
    have hi1 : ((i : Int) + 1).toNat = i + 1 := by omega
    generalize zs.getD i 0 = x at *
    generalize zs.getD (i + 1) 0 = y at *
    clear hz hcell
    have h' : (i : Int) + 1 < (len : Int) := by omega
    go_enter Try.func26, Try.ntmps26
    go_wp2
    go_ret
    exact ⟨ret_int (join8 x y b0 b1), rfl⟩

set_option maxHeartbeats 1000000 in
theorem whole_any (a : Option Addr) (len cap : Nat) (zs : List Int) (w : World) (hl : len ≤ 100000) (hz : Has .u8 w a len zs) :
    Calls Try.prog 11 #[.slice a len cap] w fun e w' => e = .returned (.int .i64 (Mth.whole zs)) ∧ w' = w := by
  have HZ := hid hz
  have hlen := hz.1
  clear hz
  go_enter Try.func11, Try.ntmps11
  go_wp2
  go_loopw [3, 4] (fun v i wr => ∃ k : Nat, 2 * k ≤ len + 1 ∧ i = .int .i64 ((2 * k : Nat) : Int) ∧ v = .int .i64 (Mth.wh zs k) ∧ wr = w) (fun _ i _ => len + 2 - (intOf i).toNat)
  case atStart => exact ⟨0, by omega, rfl, rfl, rfl⟩
  case round =>
    obtain ⟨k, hk, rfl, rfl, rfl⟩ := hrel
    by_cases hlt : 2 * k < len
    · have hlt' : ((2 * k : Nat) : Int) < (len : Int) := by omega
      have hr := Mth.wh_range zs k
      go_wp2_with fail
      refine (word_any _ _ _ _ zs _ hl hlt HZ.out).mono ?_
      rintro e w' ⟨rfl, rfl⟩
      go_wp2_with fail
      refine (add_any _ _ _).mono ?_
      rintro e w' ⟨rfl, rfl⟩
      go_wp2
      go_roundw
      case measure => simp [intOf]; omega
      case rel =>
        refine ⟨k + 1, by omega, vint ?_, vint rfl, trivial⟩
        omega
    · have hlt' : ¬ ((2 * k : Nat) : Int) < (len : Int) := by omega
      go_wp2
      go_ret
      refine ⟨ret_int ?_, rfl⟩
      unfold Mth.whole
      rw [show (zs.length + 1) / 2 = k from by omega]

theorem of_any (a : Option Addr) (len cap : Nat) (zs : List Int) (w : World) (hl : len ≤ 100000) (hz : Has .u8 w a len zs) :
    Calls Try.prog 8 #[.slice a len cap] w fun e w' => e = .returned (.int .i64 (Mth.less (Mth.whole zs))) ∧ w' = w := by
  have HZ := hid hz
  clear hz
  go_enter Try.func8, Try.ntmps8
  go_wp2_with fail
  refine (whole_any _ _ _ zs _ hl HZ.out).mono ?_
  rintro e w' ⟨rfl, rfl⟩
  go_wp2_with fail
  refine (less_any _ _).mono ?_
  rintro e w' ⟨rfl, rfl⟩
  go_wp2
  go_ret
  exact ⟨rfl, rfl⟩

theorem right_any (a : Option Addr) (len cap : Nat) (zs : List Int) (w : World) (hl : len ≤ 100000) (hz : Has .u8 w a len zs) :
    Calls Try.prog 9 #[.slice a len cap] w fun e w' => e = .returned (.bool (Mth.whole zs == 65535)) ∧ w' = w := by
  have HZ := hid hz
  clear hz
  go_enter Try.func9, Try.ntmps9
  go_wp2_with fail
  refine (whole_any _ _ _ zs _ hl HZ.out).mono ?_
  rintro e w' ⟨rfl, rfl⟩
  go_wp2
  go_ret
  exact ⟨rfl, rfl⟩

theorem turn_any (s x y : Int) (w : World) :
    Calls Try.prog 10 #[.int .i64 s, .int .i64 x, .int .i64 y] w fun e w' => e = .returned (.int .i64 (Mth.turn s x y)) ∧ w' = w := by
  go_enter Try.func10, Try.ntmps10
  go_wp2_with fail
  refine (less_any _ _).mono ?_
  rintro e w' ⟨rfl, rfl⟩
  go_wp2_with fail
  refine (less_any _ _).mono ?_
  rintro e w' ⟨rfl, rfl⟩
  go_wp2_with fail
  refine (add_any _ _ _).mono ?_
  rintro e w' ⟨rfl, rfl⟩
  go_wp2_with fail
  refine (add_any _ _ _).mono ?_
  rintro e w' ⟨rfl, rfl⟩
  go_wp2_with fail
  refine (less_any _ _).mono ?_
  rintro e w' ⟨rfl, rfl⟩
  go_wp2
  go_ret
  exact ⟨rfl, rfl⟩

theorem three_bytes (w : World) : Has .u8 (w.alloc (.cells #[.int .u8 69, .int .u8 0, .int .u8 1] 5)) (some ⟨w.heap.size, 0, none⟩) 3 [69, 0, 1] := by
  refine ⟨rfl, by intro n hn; simp at hn; rcases hn with rfl | rfl | rfl <;> decide, .inr ⟨_, _, rfl, by simp, ?_⟩⟩
  intro i hi
  match i, hi with
  | 0, _ => simp
  | 1, _ => simp
  | 2, _ => simp

set_option maxHeartbeats 1000000 in
theorem sum_begun (w : World) : Calls Try.prog 7 #[] w fun e w' => e = .returned (.bool true) ∧ Below w.heap.size w w' := by
  go_enter Try.func7, Try.ntmps7
  go_wp2_with fail
  refine (add_any _ _ _).mono ?_
  rintro e w' ⟨rfl, rfl⟩
  have e1 : Mth.add 65535 1 = 1 := by decide
  rw [e1]
  go_wp2_with fail
  refine (whole_any _ _ _ [69, 0, 1] _ (by decide) (three_bytes _)).mono ?_
  rintro e w' ⟨rfl, rfl⟩
  have e2 : Mth.whole [69, 0, 1] = 17920 := by decide
  rw [e2]
  go_wp2_with fail
  refine (of_any _ _ _ [] _ (by decide) (has_nil _ _)).mono ?_
  rintro e w' ⟨rfl, rfl⟩
  have e3 : Mth.less (Mth.whole []) = 65535 := by decide
  rw [e3]
  go_wp2
  go_ret
  exact ⟨rfl, bl_alloc (Below.refl _ _)⟩

end Go.Proofs.Ytehejhpgehlifab
