/- What bits.read does: it tells the number of the bits. -/
import Derived.Test.YtehejhpgehlifabMath
import Derived.Test.YtehejhpgehlifabSmall
import Derived.Deep.QuietTactic
import Derived.BigQuiet
import Derived.Laws.ShiftsVarLaws
namespace Go.Proofs.Ytehejhpgehlifab
open Go.RowKit

theorem and_test (x : Int) (p : Nat) (h0 : 0 ≤ x) (h1 : x < 256) (hp : p < 8) : (bits BinOp.and IntKind.u8 x (2 ^ p) != 0) = x.toNat.testBit p := by
  have hq : ((2 : Int) ^ p) < 256 := by
    have := Nat.pow_lt_pow_right (a := 2) (by decide) hp
    have e : ((2 ^ p : Nat) : Int) = (2 : Int) ^ p := by simp
    omega
  have hq0 : (0 : Int) ≤ 2 ^ p := Int.le_of_lt (Int.pow_pos (by decide))
  rw [u8_and x (2 ^ p) h0 h1 hq0 hq, toNat_two_pow, nat_bit, Nat.testBit_eq_decide_div_mod_eq]
  have : 0 < 2 ^ p := Nat.two_pow_pos p
  have h2 : x.toNat / 2 ^ p % 2 = 0 ∨ x.toNat / 2 ^ p % 2 = 1 := by omega
  rcases h2 with h2 | h2
  · simp [h2]
  · have hpos : (0 : Int) < 2 ^ p := Int.pow_pos (by decide)
    rw [h2]; simp; omega

theorem wrap_rd (zs : List Int) (t k : Nat) (hk : k < 64) : IntKind.u64.wrap ((Mth.rd zs t k : Int) * 2) = ((2 * Mth.rd zs t k : Nat) : Int) := by
  rw [IntKind.wrap_u64]
  have h := Mth.rd_lt zs t k
  have h2 : 2 ^ k ≤ 2 ^ 63 := Nat.pow_le_pow_right (by decide) (by omega)
  omega

theorem or_rd (zs : List Int) (t k : Nat) (hk : k < 64) : bits BinOp.or IntKind.u64 (IntKind.u64.wrap ((Mth.rd zs t k : Int) * 2)) 1 = ((2 * Mth.rd zs t k + 1 : Nat) : Int) := by
  rw [wrap_rd zs t k hk]
  have h := Mth.rd_lt zs t k
  have h2 : 2 ^ k ≤ 2 ^ 63 := Nat.pow_le_pow_right (by decide) (by omega)
  rw [show (1 : Int) = ((1 : Nat) : Int) from rfl, u64_or_nat _ _ (by omega) (by omega)]
  have := Nat.two_pow_add_eq_or_of_lt (i := 1) (b := 1) (by decide) (Mth.rd zs t k)
  simp only [Nat.pow_one] at this
  rw [← this]

/-- a round that meets a bit that is 1, or 0 -/
theorem rd_step (zs : List Int) (t k : Nat) (hb : Mth.Bytes zs) (c : Bool) (h : (bits BinOp.and IntKind.u8 (zs[(t + k) / 8]?.getD 0) (2 ^ (7 - (t + k) % 8)) != 0) = c) :
    Mth.rd zs t (k + 1) = 2 * Mth.rd zs t k + c.toNat := by
  have e := hb ((t + k) / 8)
  simp only [List.getD_eq_getElem?_getD] at e
  rw [and_test _ _ e.1 e.2 (by omega)] at h
  rw [Mth.rd, Mth.bit, List.getD_eq_getElem?_getD, h]

set_option maxHeartbeats 1000000 in
theorem read_any (b off len cap t n : Nat) (zs : List Int) (w : World) (hlen : zs.length = len) (hb : Mth.Bytes zs) (hl : len ≤ 100000) (hn : n ≤ 64) (htn : t + n ≤ 8 * len)
    (hc : ∀ i, i < len → w.cell? ⟨b, off + i, none⟩ = some (.int .u8 (zs.getD i 0))) :
    Calls Try.prog 47 #[.slice (some ⟨b, off, none⟩) len cap, .int .i64 t, .int .i64 n] w fun e w' => e = .returned (.int .u64 (Mth.rd zs t n)) ∧ ∃ q, w' = w.drewN q := by
  go_enter Try.func47, Try.ntmps47
  go_wp2
  go_loopw [7, 10] (fun v i wr => ∃ k : Nat, k ≤ n ∧ i = .int .i64 k ∧ v = .int .u64 (Mth.rd zs t k) ∧ Hid (∃ q, wr = w.drewN q)) (fun _ i _ => n - (intOf i).toNat)
  case atStart => exact ⟨0, Nat.zero_le _, rfl, rfl, 0, rfl⟩
  case round =>
    obtain ⟨k, hk, rfl, rfl, hq⟩ := hrel
    by_cases hlt : k < n
    · have hcx : wr.cell? ⟨b, off + (t + k) / 8, none⟩ = some (.int .u8 (zs.getD ((t + k) / 8) 0)) := by
        obtain ⟨q, e⟩ := hq; rw [e]; exact hc ((t + k) / 8) (by omega)
      have hi : (((t : Int) + (k : Int)) / 8).toNat = (t + k) / 8 := by omega
      have h8 : ((t : Int) + (k : Int)) / 8 < (len : Int) := by omega
      have h9 : 0 ≤ ((t : Int) + (k : Int)) / 8 := by omega
      go_wp2
      go_big_quiet ((go_at_call 51; exact Calls.quiet_of_same (place_any _ _ (by omega))))
      go_wp2
      all_goals
        go_roundw
        case measure => simp [intOf]; omega
      case rel =>
        refine ⟨k + 1, by omega, by go_num, vint ?_, ?_⟩
        · rw [or_rd zs t k (by omega), rd_step zs t k hb true ‹_›]; rfl
        · obtain ⟨q, e⟩ := hq; rw [e]; exact ⟨_, World.drewN_drewN _ _ _⟩
      case rel =>
        refine ⟨k + 1, by omega, by go_num, vint ?_, ?_⟩
        · rw [wrap_rd zs t k (by omega), rd_step zs t k hb false ‹_›]; rfl
        · obtain ⟨q, e⟩ := hq; rw [e]; exact ⟨_, World.drewN_drewN _ _ _⟩
    · go_wp2
      go_ret
      exact ⟨ret_int (by rw [show k = n from by omega]), hq⟩
end Go.Proofs.Ytehejhpgehlifab
