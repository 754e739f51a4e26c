/- What the document's Ones does. -/
import Derived.Test.YtlnkfgdepddmlacBase
namespace Go.Proofs.Ytlnkfgdepddmlac
open Go.RowKit

/-- what Mask tells -/
def maskN (n : Int) : Int := if 1 ≤ n ∧ n ≤ 64 then ((2 ^ n.toNat - 1 : Nat) : Int) else 0

theorem ones_step (k : Nat) (h : k < 64) : IntKind.u64.wrap (IntKind.u64.wrap (2 * ((2 ^ k - 1 : Nat) : Int)) + 1) = ((2 ^ (k + 1) - 1 : Nat) : Int) := by
  have h1 : 2 ^ k ≤ 2 ^ 63 := Nat.pow_le_pow_right (by decide) (by omega)
  have h2 : 1 ≤ 2 ^ k := Nat.one_le_two_pow
  rw [IntKind.wrap_u64, IntKind.wrap_u64, Nat.pow_succ]
  omega

set_option maxHeartbeats 1000000 in
set_option maxRecDepth 20000 in
theorem ones_any (n : Int) (w : World) :
    Calls Try.prog 25 #[.int .i64 n] w fun e w' => e = .returned (.int .u64 (maskN n)) ∧ w' = w := by
  by_cases h64 : n ≤ 64
  · by_cases h1 : 1 ≤ n
    · have hm : Hid (maskN n = ((2 ^ n.toNat - 1 : Nat) : Int)) := by unfold maskN; rw [if_pos ⟨h1, h64⟩]; rfl
      generalize maskN n = M at *
      go_enter Try.func25, Try.ntmps25
      go_wp2
      go_loop [3, 4] (fun v q => ∃ k : Nat, k ≤ n.toNat ∧ q = .int .i64 k ∧ v = .int .u64 ((2 ^ k - 1 : Nat) : Int)) (fun _ q => n.toNat - (intOf q).toNat)
      case atStart => exact ⟨0, Nat.zero_le _, rfl, rfl⟩
      case round =>
        obtain ⟨k, hk, rfl, rfl⟩ := hrel
        have hst : Hid (k < 64 → IntKind.u64.wrap (IntKind.u64.wrap (2 * ((2 ^ k - 1 : Nat) : Int)) + 1) = ((2 ^ (k + 1) - 1 : Nat) : Int)) := ones_step k
        generalize hV : ((2 ^ k - 1 : Nat) : Int) = V at *
        have HV : Hid (((2 ^ k - 1 : Nat) : Int) = V) := hV
        clear hV
        by_cases hlt : (k : Int) < n
        · go_wp2
          go_round
          case rel => exact ⟨k + 1, by omega, by go_num, vint (hst.out (by omega))⟩
          case measure => simp [intOf]; omega
        · go_wp2
          go_ret
          exact ⟨ret_int (by rw [hm.out, ← HV.out, show k = n.toNat from by omega]), rfl⟩
    · have hm : Hid (maskN n = 0) := by unfold maskN; rw [if_neg (by omega)]; rfl
      generalize maskN n = M at *
      go_enter Try.func25, Try.ntmps25
      go_wp2
      go_loop [3, 4] (fun v q => q = .int .i64 0 ∧ v = .int .u64 0) (fun _ _ => 0)
      case atStart => exact ⟨rfl, rfl⟩
      case round =>
        obtain ⟨rfl, rfl⟩ := hrel
        have h0 : ¬ 0 < n := by omega
        go_wp2
        go_ret
        exact ⟨ret_int (by rw [hm.out]), rfl⟩
  · have hm : Hid (maskN n = 0) := by unfold maskN; rw [if_neg (by omega)]; rfl
    generalize maskN n = M at *
    go_enter Try.func25, Try.ntmps25
    go_wp2
    go_loop [3, 4] (fun v q => q = .int .i64 0 ∧ v = .int .u64 0) (fun _ _ => 0)
    case atStart => exact ⟨rfl, rfl⟩
    case round =>
      obtain ⟨rfl, rfl⟩ := hrel
      have h0 : 0 < n := by omega
      go_wp2
      go_ret
      exact ⟨ret_int (by rw [hm.out]), rfl⟩
end Go.Proofs.Ytlnkfgdepddmlac
