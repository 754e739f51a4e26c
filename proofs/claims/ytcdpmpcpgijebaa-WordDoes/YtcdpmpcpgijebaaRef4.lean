/- What the document's bytesOf does. -/
import Derived.Test.YtcdpmpcpgijebaaRef3
namespace Go.Proofs.Ytcdpmpcpgijebaa
open Go.RowKit

theorem px_in (l : List Int) (i k : Nat) (hk : k < 8) (hb : Mth.IsBits l) : IntKind.u8.wrap (IntKind.u8.wrap ((Mth.px l i k : Int) * 2) + l.getD (i + k) 0) = (Mth.px l i (k + 1) : Int) := by
  have h1 := Mth.px_lt l i k hb
  have h2 : 2 ^ k ≤ 2 ^ 7 := Nat.pow_le_pow_right (by decide) (by omega)
  have h3 := hb (i + k)
  rw [IntKind.wrap_u8', IntKind.wrap_u8', Mth.px]
  omega

theorem px_out (l : List Int) (i k : Nat) (hk : k < 8) (hb : Mth.IsBits l) (h : l.length ≤ i + k) : IntKind.u8.wrap ((Mth.px l i k : Int) * 2) = (Mth.px l i (k + 1) : Int) := by
  have h1 := Mth.px_lt l i k hb
  have h2 : 2 ^ k ≤ 2 ^ 7 := Nat.pow_le_pow_right (by decide) (by omega)
  rw [IntKind.wrap_u8', Mth.px, Mth.getD_ge _ _ h]
  simp only [Int.toNat_zero, Nat.add_zero]
  omega

set_option maxHeartbeats 2000000 in
set_option maxRecDepth 20000 in
theorem bytesOf_any (a : Option Addr) (len cap : Nat) (l : List Int) (w : World) (hl : len ≤ 1000000) (hz : Has .u8 w a len l) (hbits : Mth.IsBits l) :
    Calls Try.prog 28 #[.slice a len cap] w fun e w' => ∃ x, e = .returned x ∧ w'.ownsRow w.heap.size 5 1 x ((len + 7) / 8) (BB (Mth.by8 l ((len + 7) / 8))) ∧ Below w.heap.size w w' := by
  obtain ⟨i0, hi, hz0, hz1, hz2⟩ := info_parts Try.info5
  have HLn : Hid (l.length = len) := hz.1
  have HB : Hid (Mth.IsBits l) := hbits
  clear hbits
  go_enter Try.func28, Try.ntmps28
  go_wp2
  go_loopw [3, 4, 5, 6] (fun x q _ _ wr => ∃ i : Nat, i ≤ (len + 7) / 8 ∧ q = .int .i64 (8 * (i : Int)) ∧ wr.ownsRow w.heap.size 5 1 x i (BB (Mth.by8 l i)) ∧ Below w.heap.size w wr) (fun _ q _ _ _ => len + 8 - (intOf q).toNat)
  case atStart => exact ⟨0, Nat.zero_le _, rfl, World.ownsRow_nil _ _ _ _, Below.refl _ _⟩
  case round =>
    obtain ⟨i, hi', rfl, hown, hb⟩ := hrel
    by_cases hlt : 8 * (i : Int) < (len : Int)
    · obtain ⟨p1, o1, rfl, hp1, hc1⟩ := hz.some (by omega)
      go_wp2
      go_loop [5, 6] (fun x q => ∃ k : Nat, k ≤ 8 ∧ q = .int .i64 k ∧ x = .int .u8 (Mth.px l (8 * i) k)) (fun _ q => 8 - (intOf q).toNat)
      case atStart => exact ⟨0, Nat.zero_le _, rfl, rfl⟩
      case round =>
        obtain ⟨k, hk, rfl, rfl⟩ := hrel
        by_cases hk8 : k < 8
        · by_cases hin : 8 * (i : Int) + (k : Int) < (len : Int)
          · have q1 := (hb.cell (p := ⟨p1, o1 + (8 * i + k), none⟩) hp1).trans (hc1 (8 * i + k) (by omega))
            have hst : Hid (IntKind.u8.wrap (IntKind.u8.wrap ((Mth.px l (8 * i) k : Int) * 2) + l.getD (8 * i + k) 0) = (Mth.px l (8 * i) (k + 1) : Int)) := px_in l (8 * i) k hk8 HB.out
            have hidx : (8 * (i : Int) + (k : Int)).toNat = 8 * i + k := by omega
            have h00 : 0 ≤ 8 * (i : Int) + (k : Int) := by omega
            simp only [List.getD_eq_getElem?_getD] at q1 hst
            generalize l[8 * i + k]?.getD 0 = z at *
            generalize (Mth.px l (8 * i) k : Int) = V at *
            go_wp2
            go_round
            case rel => exact ⟨k + 1, by omega, by go_num, vint hst.out⟩
            case measure => simp [intOf]; omega
          · have hst : Hid (IntKind.u8.wrap ((Mth.px l (8 * i) k : Int) * 2) = (Mth.px l (8 * i) (k + 1) : Int)) := px_out l (8 * i) k hk8 HB.out (by rw [HLn.out]; omega)
            generalize (Mth.px l (8 * i) k : Int) = V at *
            go_wp2
            go_round
            case rel => exact ⟨k + 1, by omega, by go_num, vint hst.out⟩
            case measure => simp [intOf]; omega
        · have e : k = 8 := by omega
          subst e
          go_wp2_with (at_builtin; refine wpList_append_own _ rfl _ _ 26 rfl w.heap.size 5 i0 (.int .u8 0) 1 1 Try.underlying26 hi hz0 hz1 hz2 rfl (by decide) _ i (BB (Mth.by8 l i)) rfl ?c0 ⟨wr.heap.size, 0, none⟩ 1 1 [.int .u8 (Mth.px l (8 * i) 8)] rfl rfl ?c1 ?c2 ?c3 ?c4 ?c5 ?_)
          case c0 => exact hown.alloc _
          case c2 => rfl
          case c3 => unfold maxLen; omega
          case c4 => omega
          case c5 => have := hb.size; simp; omega
          intro v' w2 hown2 hgr2 _
          have hb2 := (bl_alloc hb).grown hgr2 (by have := hb.size; simp; omega) (fun q hq => (hown.lt q hq).1)
          have hown3 := push8 hown2 rfl
          rw [← Mth.by8_succ] at hown3
          clear hown hown2 hgr2 hb
          go_wp2
          go_roundw
          case rel => exact ⟨i + 1, by omega, by go_num, hown3, hb2⟩
          case measure => simp [intOf]; omega
    · have e : i = (len + 7) / 8 := by omega
      go_wp2
      go_ret
      exact ⟨_, rfl, by rw [← e]; exact hown, hb⟩
end Go.Proofs.Ytcdpmpcpgijebaa
