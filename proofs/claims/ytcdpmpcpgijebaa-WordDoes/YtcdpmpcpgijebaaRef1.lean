/- What the document's own small functions do: F, bitsFault, Ones, SameNums, bitsNum, numBits. -/
import Derived.Test.YtcdpmpcpgijebaaPart
import Derived.Test.YtcdpmpcpgijebaaRMath
namespace Go.Proofs.Ytcdpmpcpgijebaa
open Go.RowKit

set_option maxHeartbeats 400000 in
set_option maxRecDepth 20000 in
theorem fault_any (x y : Int) (w : World) :
    Calls Try.prog 18 #[.int .i64 x, .int .i64 y] w fun e w' => e = .returned (.agg #[.int .i64 x, .int .i64 y]) ∧ Below w.heap.size w w' := by
  go_enter Try.func18, Try.ntmps18
  go_wp2
  exact bodyPost_ret (v := .agg #[.int .i64 x, .int .i64 y]) (by simp [results, Try.results18, go_sem]) rfl ⟨rfl, (Below.refl _ _).alloc (Nat.le_refl _) _⟩

/-- where a fault lies -/
def atOf (c : Int) : Int := if c = 0 then 0 else -1

theorem end_fault {w wr : World} (hb : Below (w.heap.size + 1) (w.alloc F0) wr) (x y : Value) : Below w.heap.size w ((wr.setCell ⟨w.heap.size, 0, none⟩ x).setCell ⟨w.heap.size, 1, none⟩ y) :=
  ((((Below.refl w.heap.size w).alloc (Nat.le_refl _) _).trans (hb.mono (Nat.le_succ _))).setCell (Nat.le_refl _) _).setCell (Nat.le_refl _) _

theorem num_step (l : List Int) (k : Nat) (h : k < 64) (hb : Mth.IsBits l) : IntKind.u64.wrap (IntKind.u64.wrap (2 * (Mth.num l k : Int)) + (l.getD k 0)) = (Mth.num l (k + 1) : Int) := by
  have h1 := Mth.num_lt l k hb
  have h2 : 2 ^ k ≤ 2 ^ 63 := Nat.pow_le_pow_right (by decide) (by omega)
  have h3 := hb k
  rw [IntKind.wrap_u64, IntKind.wrap_u64, Mth.num]
  omega

set_option maxHeartbeats 1000000 in
set_option maxRecDepth 20000 in
theorem bitsNum_any (a : Option Addr) (len cap : Nat) (l : List Int) (w : World) (hl : len ≤ 64) (hz : Has .u8 w a len l) (hb : Mth.IsBits l) :
    Calls Try.prog 24 #[.slice a len cap] w fun e w' => e = .returned (.int .u64 (Mth.num l len)) ∧ w' = w := by
  go_enter Try.func24, Try.ntmps24
  go_wp2
  go_loop [3, 4] (fun v q => ∃ k : Nat, k ≤ len ∧ q = .int .i64 k ∧ v = .int .u64 (Mth.num l k)) (fun _ q => len - (intOf q).toNat)
  case atStart => exact ⟨0, Nat.zero_le _, rfl, rfl⟩
  case round =>
    obtain ⟨k, hk, rfl, rfl⟩ := hrel
    by_cases hlt : k < len
    · obtain ⟨p1, o1, rfl, hp1, hc1⟩ := hz.some (by omega)
      have q1 := hc1 k hlt
      have hst : Hid (IntKind.u64.wrap (IntKind.u64.wrap (2 * (Mth.num l k : Int)) + (l.getD k 0)) = (Mth.num l (k + 1) : Int)) := num_step l k (by omega) hb
      have hbk := hb k
      clear hc1 hz
      have hki : (k : Int) < (len : Int) := by omega
      simp only [List.getD_eq_getElem?_getD] at q1 hst hbk
      generalize l[k]?.getD 0 = x at *
      generalize (Mth.num l k : Int) = V at *
      have hx0 : 0 ≤ x := by omega
      have hx1 : x ≤ 1 := by omega
      clear hbk
      go_wp2
      go_round
      case rel => exact ⟨k + 1, by omega, by go_num, vint hst.out⟩
      case measure => simp [intOf]; omega
    · go_wp2
      go_ret
      exact ⟨ret_int (by rw [show k = len from by omega]), rfl⟩
end Go.Proofs.Ytcdpmpcpgijebaa
