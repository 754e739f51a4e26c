/- What bits.write does: the bits of a row of the caller's own become those of the number. -/
import Derived.Test.YtehejhpgehlifabRead
import Derived.Deep.RegionWith
namespace Go.Proofs.Ytehejhpgehlifab
open Go.RowKit

theorem two_pow_byte (p : Nat) (hp : p < 8) : (0 : Int) ≤ 2 ^ p ∧ (2 : Int) ^ p < 256 := by
  have h := Nat.pow_lt_pow_right (a := 2) (by decide) hp
  have e : ((2 ^ p : Nat) : Int) = (2 : Int) ^ p := by simp
  have e0 : (0 : Int) < 2 ^ p := Int.pow_pos (by decide)
  omega

theorem or_num (x : Int) (p : Nat) (h : 0 ≤ x ∧ x < 256) (hp : p < 8) : bits BinOp.or IntKind.u8 x (2 ^ p) = ((Mth.one x.toNat p true : Nat) : Int) := by
  have h2 := two_pow_byte p hp
  rw [u8_or x (2 ^ p) h.1 h.2 h2.1 h2.2, toNat_two_pow]
  rfl

theorem andNot_num (x : Int) (p : Nat) (h : 0 ≤ x ∧ x < 256) (hp : p < 8) : bits BinOp.andNot IntKind.u8 x (2 ^ p) = ((Mth.one x.toNat p false : Nat) : Int) := by
  have h2 := two_pow_byte p hp
  rw [u8_andNot x (2 ^ p) h.1 h.2 h2.1 h2.2, toNat_two_pow]
  rfl

theorem v_bit (v m : Nat) (hv : v < 18446744073709551616) (c : Bool) (h : (bits BinOp.and IntKind.u64 ((v : Int) / 2 ^ m) 1 != 0) = c) : v.testBit m = c := by
  have e : ((v : Int) / 2 ^ m) = ((v / 2 ^ m : Nat) : Int) := by simp
  have hd : v / 2 ^ m ≤ v := Nat.div_le_self _ _
  rw [e, and_one_u64 _ (Int.natCast_nonneg _) (by omega)] at h
  rw [Nat.testBit_eq_decide_div_mod_eq]
  rw [← h]
  generalize v / 2 ^ m = u
  have : u % 2 = 0 ∨ u % 2 = 1 := by omega
  rcases this with e | e
  · have e' : (u : Int) % 2 = 0 := by omega
    rw [e, e']; decide
  · have e' : (u : Int) % 2 = 1 := by omega
    rw [e, e']; decide

theorem row_step {base g len cap i : Nat} {ys : List Int} {w wr : World} {x : Int} {c d : Bool}
    (hown : wr.ownsRow base 5 1 (.slice (some ⟨g, 0, none⟩) len cap) len (BB ys)) (hgr : w.grownBy wr (some g))
    (hx : x = ((Mth.one (ys.getD (i / 8) 0).toNat (7 - i % 8) c : Nat) : Int)) (hd : d = c) :
    (wr.setCell ⟨g, i / 8, none⟩ (.int .u8 x)).drew.ownsRow base 5 1 (.slice (some ⟨g, 0, none⟩) len cap) len (BB (Mth.put1 ys i d)) ∧ w.grownBy (wr.setCell ⟨g, i / 8, none⟩ (.int .u8 x)).drew (some g) := by
  subst hd
  have h := hown.stored (i / 8) (.int .u8 x)
  refine ⟨?_, ?_⟩
  · have e : BB (Mth.put1 ys i d) = (BB ys).set (i / 8) (.int .u8 x) := by
      simp only [BB, Mth.put1, List.map_set, hx]
    rw [e]
    exact h.1.drew
  · exact ⟨h.2.os.trans hgr.os, h.2.tape.trans hgr.tape, h.2.output.trans hgr.output, Nat.le_trans hgr.size h.2.size, fun k hk hne => (h.2.block k (Nat.lt_of_lt_of_le hk hgr.size) hne).trans (hgr.block k hk hne)⟩

set_option maxHeartbeats 1000000 in
theorem write_any (base g len cap t n v : Nat) (zs : List Int) (w : World) (hlen : zs.length = len) (hb : Mth.Bytes zs) (hl : len ≤ 100000) (hn : n ≤ 64) (hv : v < 18446744073709551616) (htn : t + n ≤ 8 * len)
    (hown : w.ownsRow base 5 1 (.slice (some ⟨g, 0, none⟩) len cap) len (BB zs)) :
    Calls Try.prog 40 #[.slice (some ⟨g, 0, none⟩) len cap, .int .i64 t, .int .i64 n, .int .u64 v] w fun e w' => e = .returned (.tuple #[]) ∧
      w'.ownsRow base 5 1 (.slice (some ⟨g, 0, none⟩) len cap) len (BB (Mth.wr zs t n v n)) ∧ w.grownBy w' (some g) := by
  go_enter Try.func40, Try.ntmps40
  go_wp2
  go_loopw [11] (fun i wr => ∃ k : Nat, k ≤ n ∧ i = .int .i64 k ∧ wr.ownsRow base 5 1 (.slice (some ⟨g, 0, none⟩) len cap) len (BB (Mth.wr zs t n v k)) ∧ w.grownBy wr (some g)) (fun i _ => n - (intOf i).toNat)
  case atStart => exact ⟨0, Nat.zero_le _, rfl, hown, ⟨rfl, rfl, rfl, Nat.le_refl _, fun _ _ _ => rfl⟩⟩
  case round =>
    obtain ⟨k, hk, rfl, hown', hgr⟩ := hrel
    by_cases hlt : k < n
    · have hbk := Mth.wr_bytes zs t n v k hb
      have hlk := Mth.wr_length zs t n v k
      generalize hys : Mth.wr zs t n v k = ys at *
      have hcx : wr.cell? ⟨g, (t + k) / 8, none⟩ = some (.int .u8 (ys.getD ((t + k) / 8) 0)) := by
        rw [hown'.cellAt ((t + k) / 8) (by omega)]
        simp only [BB, List.getElem?_map, List.getD_eq_getElem?_getD]
        rw [List.getElem?_eq_getElem (by omega)]; rfl
      have hfx : wr.frozen? ⟨g, (t + k) / 8, none⟩ = false := hown'.frozenAt _
      have hi : (((t : Int) + (k : Int)) / 8).toNat = (t + k) / 8 := by omega
      have h8 : ((t : Int) + (k : Int)) / 8 < (len : Int) := by omega
      have h9 : 0 ≤ ((t : Int) + (k : Int)) / 8 := by omega
      have hwr : IntKind.i64.wrap ((t : Int) + (k : Int)) = (t : Int) + (k : Int) := wrap_small _ (by omega) (by omega)
      have hbx := hbk ((t + k) / 8)
      have HY : Hid (Mth.wr zs t n v k = ys) := hys
      clear hys
      go_wp2
      all_goals go_region_with (go_at_call 51; refine (place_any _ _ (by omega)).mono ?_; rintro e w' ⟨rfl, rfl⟩)
      all_goals go_wp2
      all_goals
        go_roundw
        case measure => simp [intOf]; omega
      · case rel => exact ⟨k + 1, by omega, by go_num, by rw [Mth.wr, HY.out]; exact row_step hown' hgr (or_num _ _ hbx (by omega)) (v_bit v (n - 1 - k) hv true ‹_›)⟩
      · case rel => exact ⟨k + 1, by omega, by go_num, by rw [Mth.wr, HY.out]; exact row_step hown' hgr (or_num _ _ hbx (by omega)) (v_bit v (n - 1 - k) hv true ‹_›)⟩
      · case rel => exact ⟨k + 1, by omega, by go_num, by rw [Mth.wr, HY.out]; exact row_step hown' hgr (andNot_num _ _ hbx (by omega)) (v_bit v (n - 1 - k) hv false ‹_›)⟩
      · case rel => exact ⟨k + 1, by omega, by go_num, by rw [Mth.wr, HY.out]; exact row_step hown' hgr (andNot_num _ _ hbx (by omega)) (v_bit v (n - 1 - k) hv false ‹_›)⟩
    · go_wp2
      go_end0
      have e : k = n := by omega
      subst e
      exact ⟨rfl, hown', hgr⟩
end Go.Proofs.Ytehejhpgehlifab
