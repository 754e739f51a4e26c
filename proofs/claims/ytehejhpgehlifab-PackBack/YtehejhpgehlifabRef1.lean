/- What the document's own small functions do: F, bitsFault, Ones, SameNums, bitsNum, numBits. -/
import Derived.Test.YtehejhpgehlifabPart
import Derived.Test.YtehejhpgehlifabRMath
namespace Go.Proofs.Ytehejhpgehlifab
open Go.RowKit

set_option maxHeartbeats 400000 in
theorem fault_any (x y : Int) (w : World) :
    Calls Try.prog 28 #[.int .i64 x, .int .i64 y] w fun e w' => e = .returned (.agg #[.int .i64 x, .int .i64 y]) ∧ Below w.heap.size w w' := by
  go_enter Try.func28, Try.ntmps28
  go_wp2
  exact bodyPost_ret (v := .agg #[.int .i64 x, .int .i64 y]) (by simp [results, Try.results28, go_sem]) rfl ⟨rfl, (Below.refl _ _).alloc (Nat.le_refl _) _⟩

/-- where a fault lies -/
def atOf (c : Int) : Int := if c = 0 then 0 else -1

theorem end_fault {w wr : World} (hb : Below (w.heap.size + 1) (w.alloc F0) wr) (x y : Value) : Below w.heap.size w ((wr.setCell ⟨w.heap.size, 0, none⟩ x).setCell ⟨w.heap.size, 1, none⟩ y) :=
  ((((Below.refl w.heap.size w).alloc (Nat.le_refl _) _).trans (hb.mono (Nat.le_succ _))).setCell (Nat.le_refl _) _).setCell (Nat.le_refl _) _

set_option maxHeartbeats 1000000 in
theorem bitsFault_any (a : Option Addr) (len cap : Nat) (t n : Int) (w : World) (hl : len ≤ 100000) :
    Calls Try.prog 48 #[.slice a len cap, .int .i64 t, .int .i64 n] w fun e w' => e = .returned (.agg #[.int .i64 (codeOf len t n), .int .i64 (atOf (codeOf len t n))]) ∧ Below w.heap.size w w' := by
  unfold codeOf
  split
  · rename_i h
    have e6 : atOf 6 = -1 := rfl
    rw [e6]
    by_cases h1 : n < 1
    · go_enter Try.func48, Try.ntmps48
      go_wp2_with fail
      refine (fault_any _ _ _).mono ?_
      rintro e w1 ⟨rfl, hb1⟩
      have hb1' : Below (w.heap.size + 1) (w.alloc F0) w1 := by simpa using hb1
      obtain ⟨c0, c1, f0, f1, hsz⟩ := fault_cells hb1'
      go_wp2
      exact bodyPost_ret (v := .agg #[.int .i64 6, .int .i64 (-1)]) (by simp [results, Try.results48, go_sem, c0, c1]) rfl ⟨rfl, end_fault hb1' _ _⟩
    · have h2 : 64 < n := by omega
      go_enter Try.func48, Try.ntmps48
      go_wp2_with fail
      refine (fault_any _ _ _).mono ?_
      rintro e w1 ⟨rfl, hb1⟩
      have hb1' : Below (w.heap.size + 1) (w.alloc F0) w1 := by simpa using hb1
      obtain ⟨c0, c1, f0, f1, hsz⟩ := fault_cells hb1'
      go_wp2
      exact bodyPost_ret (v := .agg #[.int .i64 6, .int .i64 (-1)]) (by simp [results, Try.results48, go_sem, c0, c1]) rfl ⟨rfl, end_fault hb1' _ _⟩
  · rename_i h
    have g1 : ¬ n < 1 := by omega
    have g2 : ¬ 64 < n := by omega
    split
    · rename_i h'
      have e1 : atOf 1 = -1 := rfl
      rw [e1]
      by_cases h1 : t < 0
      · go_enter Try.func48, Try.ntmps48
        go_wp2_with fail
        refine (fault_any _ _ _).mono ?_
        rintro e w1 ⟨rfl, hb1⟩
        have hb1' : Below (w.heap.size + 1) (w.alloc F0) w1 := by simpa using hb1
        obtain ⟨c0, c1, f0, f1, hsz⟩ := fault_cells hb1'
        go_wp2
        exact bodyPost_ret (v := .agg #[.int .i64 1, .int .i64 (-1)]) (by simp [results, Try.results48, go_sem, c0, c1]) rfl ⟨rfl, end_fault hb1' _ _⟩
      · by_cases h2 : (len : Int) * 8 < t
        · go_enter Try.func48, Try.ntmps48
          go_wp2_with fail
          refine (fault_any _ _ _).mono ?_
          rintro e w1 ⟨rfl, hb1⟩
          have hb1' : Below (w.heap.size + 1) (w.alloc F0) w1 := by simpa using hb1
          obtain ⟨c0, c1, f0, f1, hsz⟩ := fault_cells hb1'
          go_wp2
          exact bodyPost_ret (v := .agg #[.int .i64 1, .int .i64 (-1)]) (by simp [results, Try.results48, go_sem, c0, c1]) rfl ⟨rfl, end_fault hb1' _ _⟩
        · have h3 : (len : Int) * 8 - t < n := by omega
          go_enter Try.func48, Try.ntmps48
          go_wp2_with fail
          refine (fault_any _ _ _).mono ?_
          rintro e w1 ⟨rfl, hb1⟩
          have hb1' : Below (w.heap.size + 1) (w.alloc F0) w1 := by simpa using hb1
          obtain ⟨c0, c1, f0, f1, hsz⟩ := fault_cells hb1'
          go_wp2
          exact bodyPost_ret (v := .agg #[.int .i64 1, .int .i64 (-1)]) (by simp [results, Try.results48, go_sem, c0, c1]) rfl ⟨rfl, end_fault hb1' _ _⟩
    · rename_i h'
      have e0 : atOf 0 = 0 := rfl
      rw [e0]
      have h1 : ¬ t < 0 := by omega
      have h2 : ¬ (len : Int) * 8 < t := by omega
      have h3 : ¬ (len : Int) * 8 - t < n := by omega
      go_enter Try.func48, Try.ntmps48
      go_wp2
      exact bodyPost_ret (v := .agg #[.int .i64 0, .int .i64 0]) (by simp [results, Try.results48, go_sem]) rfl ⟨rfl, (Below.refl _ _).alloc (Nat.le_refl _) _⟩

theorem ones_step (k : Nat) (h : k < 64) : IntKind.u64.wrap (IntKind.u64.wrap (2 * ((2 ^ k - 1 : Nat) : Int)) + 1) = ((2 ^ (k + 1) - 1 : Nat) : Int) := by
  have h1 : 2 ^ k ≤ 2 ^ 63 := Nat.pow_le_pow_right (by decide) (by omega)
  have h2 : 1 ≤ 2 ^ k := Nat.one_le_two_pow
  rw [IntKind.wrap_u64, IntKind.wrap_u64, Nat.pow_succ]
  omega

set_option maxHeartbeats 1000000 in
theorem ones_any (n : Int) (w : World) :
    Calls Try.prog 41 #[.int .i64 n] w fun e w' => e = .returned (.int .u64 (maskN n)) ∧ w' = w := by
  by_cases h64 : n ≤ 64
  · by_cases h1 : 1 ≤ n
    · have hm : Hid (maskN n = ((2 ^ n.toNat - 1 : Nat) : Int)) := by unfold maskN; rw [if_pos ⟨h1, h64⟩]; rfl
      generalize maskN n = M at *
      go_enter Try.func41, Try.ntmps41
      go_wp2
      go_loop [3, 4] (fun v q => ∃ k : Nat, k ≤ n.toNat ∧ q = .int .i64 k ∧ v = .int .u64 ((2 ^ k - 1 : Nat) : Int)) (fun _ q => n.toNat - (intOf q).toNat)
      case atStart => exact ⟨0, Nat.zero_le _, rfl, rfl⟩
      case round =>
        obtain ⟨k, hk, rfl, rfl⟩ := hrel
        have hst : Hid (k < 64 → IntKind.u64.wrap (IntKind.u64.wrap (2 * ((2 ^ k - 1 : Nat) : Int)) + 1) = ((2 ^ (k + 1) - 1 : Nat) : Int)) := ones_step k
        generalize hV : ((2 ^ k - 1 : Nat) : Int) = V at *
        have HV : Hid (((2 ^ k - 1 : Nat) : Int) = V) := hV
        clear hV
        by_cases hlt : (k : Int) < n
        · go_wp2
          go_round
          case rel => exact ⟨k + 1, by omega, by go_num, vint (hst.out (by omega))⟩
          case measure => simp [intOf]; omega
        · go_wp2
          go_ret
          exact ⟨ret_int (by rw [hm.out, ← HV.out, show k = n.toNat from by omega]), rfl⟩
    · have hm : Hid (maskN n = 0) := by unfold maskN; rw [if_neg (by omega)]; rfl
      generalize maskN n = M at *
      go_enter Try.func41, Try.ntmps41
      go_wp2
      go_loop [3, 4] (fun v q => q = .int .i64 0 ∧ v = .int .u64 0) (fun _ _ => 0)
      case atStart => exact ⟨rfl, rfl⟩
      case round =>
        obtain ⟨rfl, rfl⟩ := hrel
        have h0 : ¬ 0 < n := by omega
        go_wp2
        go_ret
        exact ⟨ret_int (by rw [hm.out]), rfl⟩
  · have hm : Hid (maskN n = 0) := by unfold maskN; rw [if_neg (by omega)]; rfl
    generalize maskN n = M at *
    go_enter Try.func41, Try.ntmps41
    go_wp2
    go_loop [3, 4] (fun v q => q = .int .i64 0 ∧ v = .int .u64 0) (fun _ _ => 0)
    case atStart => exact ⟨rfl, rfl⟩
    case round =>
      obtain ⟨rfl, rfl⟩ := hrel
      have h0 : 0 < n := by omega
      go_wp2
      go_ret
      exact ⟨ret_int (by rw [hm.out]), rfl⟩

set_option maxHeartbeats 1000000 in
theorem same_nums {w : World} {a b : Option Addr} {m : Nat} {ps : List Int} (c d : Nat) (hm : m ≤ 1000) (ha : Has .u64 w a m ps) (hb : Has .u64 w b m ps) :
    Calls Try.prog 18 #[.slice a m c, .slice b m d] w fun e w' => e = .returned (.bool true) ∧ ∃ s, w' = w.drewN s := by
  have hne : ((m : Int) != (m : Int)) = false := by simp
  go_enter Try.func18, Try.ntmps18
  go_wp2
  go_loopw [5] (fun q wr => ∃ k : Nat, k ≤ m ∧ q = .int .i64 k ∧ Hid (∃ s, wr = w.drewN s)) (fun q _ => m - (intOf q).toNat)
  case atStart => exact ⟨0, Nat.zero_le _, rfl, 0, rfl⟩
  case round =>
    obtain ⟨k, hk, rfl, hq⟩ := hrel
    by_cases hlt : k < m
    · obtain ⟨p1, o1, rfl, hp1, hc1⟩ := ha.some (by omega)
      obtain ⟨p2, o2, rfl, hp2, hc2⟩ := hb.some (by omega)
      have q1 : wr.cell? ⟨p1, o1 + k, none⟩ = some (.int .u64 (ps.getD k 0)) := by obtain ⟨s, e⟩ := hq; rw [e]; exact hc1 k hlt
      have q2 : wr.cell? ⟨p2, o2 + k, none⟩ = some (.int .u64 (ps.getD k 0)) := by obtain ⟨s, e⟩ := hq; rw [e]; exact hc2 k hlt
      clear hc1 hc2 hp1 hp2 ha hb
      have hki : (k : Int) < (m : Int) := by omega
      simp only [List.getD_eq_getElem?_getD] at q1 q2
      generalize ps[k]?.getD 0 = x at *
      have hx : (x != x) = false := by simp
      go_wp2
      go_big_quiet (fail)
      go_wp2
      go_roundw
      case rel => exact ⟨k + 1, by omega, by go_num, by obtain ⟨s, e⟩ := hq; rw [e]; exact ⟨_, World.drewN_drewN _ _ _⟩⟩
      case measure => simp [intOf]; omega
    · go_wp2
      go_ret
      exact ⟨rfl, hq⟩

theorem num_step (l : List Int) (k : Nat) (h : k < 64) (hb : Mth.IsBits l) : IntKind.u64.wrap (IntKind.u64.wrap (2 * (Mth.num l k : Int)) + (l.getD k 0)) = (Mth.num l (k + 1) : Int) := by
  have h1 := Mth.num_lt l k hb
  have h2 : 2 ^ k ≤ 2 ^ 63 := Nat.pow_le_pow_right (by decide) (by omega)
  have h3 := hb k
  rw [IntKind.wrap_u64, IntKind.wrap_u64, Mth.num]
  omega

set_option maxHeartbeats 1000000 in
theorem bitsNum_any (a : Option Addr) (len cap : Nat) (l : List Int) (w : World) (hl : len ≤ 64) (hz : Has .u8 w a len l) (hb : Mth.IsBits l) :
    Calls Try.prog 49 #[.slice a len cap] w fun e w' => e = .returned (.int .u64 (Mth.num l len)) ∧ w' = w := by
  go_enter Try.func49, Try.ntmps49
  go_wp2
  go_loop [3, 4] (fun v q => ∃ k : Nat, k ≤ len ∧ q = .int .i64 k ∧ v = .int .u64 (Mth.num l k)) (fun _ q => len - (intOf q).toNat)
  case atStart => exact ⟨0, Nat.zero_le _, rfl, rfl⟩
  case round =>
    obtain ⟨k, hk, rfl, rfl⟩ := hrel
    by_cases hlt : k < len
    · obtain ⟨p1, o1, rfl, hp1, hc1⟩ := hz.some (by omega)
      have q1 := hc1 k hlt
      have hst : Hid (IntKind.u64.wrap (IntKind.u64.wrap (2 * (Mth.num l k : Int)) + (l.getD k 0)) = (Mth.num l (k + 1) : Int)) := num_step l k (by omega) hb
      have hbk := hb k
      clear hc1 hz
      have hki : (k : Int) < (len : Int) := by omega
      simp only [List.getD_eq_getElem?_getD] at q1 hst hbk
      generalize l[k]?.getD 0 = x at *
      generalize (Mth.num l k : Int) = V at *
      have hx0 : 0 ≤ x := by omega
      have hx1 : x ≤ 1 := by omega
      clear hbk
      go_wp2
      go_round
      case rel => exact ⟨k + 1, by omega, by go_num, vint hst.out⟩
      case measure => simp [intOf]; omega
    · go_wp2
      go_ret
      exact ⟨ret_int (by rw [show k = len from by omega]), rfl⟩
end Go.Proofs.Ytehejhpgehlifab
