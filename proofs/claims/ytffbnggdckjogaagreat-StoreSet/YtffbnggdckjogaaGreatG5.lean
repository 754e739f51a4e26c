/- Texts of one chain, joined: Small. -/
import Derived.Test.YtffbnggdckjogaaGreatG0
import Derived.WalkKit
import Derived.WalkSpells
import Derived.WalkLawsBesides
namespace Go.Proofs.YtffbnggdckjogaaGreat
open Go.RowKit
set_option maxHeartbeats 400000 in
set_option maxRecDepth 20000 in
theorem isWidth_yes (n : Int) (w : World) (h1 : 1 ≤ n) (h2 : n ≤ 64) :
    Calls Tryz.prog 109 #[.int .i64 n] w fun e w' => e = .returned (.bool true) ∧ w' = w := by
  go_enter Tryz.func109, Tryz.ntmps109
  go_wp2
  go_ret
  exact ⟨rfl, rfl⟩
set_option maxHeartbeats 400000 in
set_option maxRecDepth 20000 in
theorem isWidth_no (n : Int) (w : World) (h : n < 1 ∨ 64 < n) :
    Calls Tryz.prog 109 #[.int .i64 n] w fun e w' => e = .returned (.bool false) ∧ w' = w := by
  by_cases h1 : 1 ≤ n
  · have h2 : ¬ n ≤ 64 := by omega
    go_enter Tryz.func109, Tryz.ntmps109
    go_wp2
    go_ret
    exact ⟨rfl, rfl⟩
  · go_enter Tryz.func109, Tryz.ntmps109
    go_wp2
    go_ret
    exact ⟨rfl, rfl⟩
theorem mask_num (n : Int) (h1 : 1 ≤ n) (h2 : n ≤ 64) : (18446744073709551615 : Int) / 2 ^ (64 - n).toNat = ((2 ^ n.toNat - 1 : Nat) : Int) := by
  obtain ⟨m, rfl⟩ := Int.eq_ofNat_of_zero_le (show 0 ≤ n by omega)
  have e : (64 - (m : Int)).toNat = 64 - m := by omega
  rw [e, Int.toNat_natCast]
  have key : 18446744073709551615 / 2 ^ (64 - m) = 2 ^ m - 1 := by
    have ab : 2 ^ m * 2 ^ (64 - m) = 18446744073709551616 := by
      rw [← Nat.pow_add, show m + (64 - m) = 64 from by omega]
    have a1 : 1 ≤ 2 ^ m := Nat.one_le_two_pow
    have b1 : 1 ≤ 2 ^ (64 - m) := Nat.one_le_two_pow
    apply Nat.div_eq_of_lt_le
    · rw [Nat.sub_mul, ab]; omega
    · rw [show 2 ^ m - 1 + 1 = 2 ^ m from by omega, ab]; omega
  rw [← key]
  simp
set_option maxHeartbeats 400000 in
set_option maxRecDepth 20000 in
theorem mask_yes (n : Int) (w : World) (h1 : 1 ≤ n) (h2 : n ≤ 64) :
    Calls Tryz.prog 108 #[.int .i64 n] w fun e w' => e = .returned (.int .u64 ((2 ^ n.toNat - 1 : Nat) : Int)) ∧ w' = w := by
  go_enter Tryz.func108, Tryz.ntmps108
  go_wp2_with fail
  refine (isWidth_yes _ _ h1 h2).mono ?_
  rintro e w' ⟨rfl, rfl⟩
  go_wp2
  go_ret
  exact ⟨ret_int (mask_num n h1 h2), rfl⟩
set_option maxHeartbeats 400000 in
set_option maxRecDepth 20000 in
theorem mask_no (n : Int) (w : World) (h : n < 1 ∨ 64 < n) :
    Calls Tryz.prog 108 #[.int .i64 n] w fun e w' => e = .returned (.int .u64 0) ∧ w' = w := by
  go_enter Tryz.func108, Tryz.ntmps108
  go_wp2_with fail
  refine (isWidth_no _ _ h).mono ?_
  rintro e w' ⟨rfl, rfl⟩
  go_wp2
  go_ret
  exact ⟨rfl, rfl⟩
end Go.Proofs.YtffbnggdckjogaaGreat
