/- What the document's bitsOf does. -/
import Derived.Test.YtcdpmpcpgijebaaRef2
namespace Go.Proofs.Ytcdpmpcpgijebaa
open Go.RowKit

theorem bit_cell8 (zs : List Int) (i j : Nat) (hj : j < 8) (h : 0 ≤ zs[i]?.getD 0 ∧ zs[i]?.getD 0 < 256) : bits BinOp.and IntKind.u8 (zs[i]?.getD 0 / 2 ^ (7 - j)) 1 = ((Mth.bit zs (8 * i + j)).toNat : Int) := by
  unfold Mth.bit
  rw [show (8 * i + j) / 8 = i from by omega, show (8 * i + j) % 8 = j from by omega, List.getD_eq_getElem?_getD, Nat.testBit_eq_decide_div_mod_eq]
  generalize zs[i]?.getD 0 = z at *
  obtain ⟨x, rfl⟩ := Int.eq_ofNat_of_zero_le h.1
  have e : ((x : Int) / 2 ^ (7 - j)) = ((x / 2 ^ (7 - j) : Nat) : Int) := by simp
  have hd : x / 2 ^ (7 - j) ≤ x := Nat.div_le_self _ _
  rw [e, Int.toNat_natCast]
  generalize x / 2 ^ (7 - j) = u at *
  rw [show (1 : Int) = ((1 : Nat) : Int) from rfl, u8_and_nat u 1 (by omega) (by omega), Nat.and_one_is_mod]
  have : u % 2 = 0 ∨ u % 2 = 1 := by omega
  rcases this with e | e <;> rw [e] <;> decide

set_option maxHeartbeats 2000000 in
set_option maxRecDepth 20000 in
theorem bitsOf_any (a : Option Addr) (len cap : Nat) (zs : List Int) (w : World) (hl : len ≤ 100000) (hz : Has .u8 w a len zs) :
    Calls Try.prog 25 #[.slice a len cap] w fun e w' => ∃ x, e = .returned x ∧ w'.ownsRow w.heap.size 5 1 x (8 * len) (BB (Mth.bo zs (8 * len))) ∧ Below w.heap.size w w' := by
  obtain ⟨i0, hi, hz0, hz1, hz2⟩ := info_parts Try.info5
  go_enter Try.func25, Try.ntmps25
  go_wp2
  go_loopw [3, 4, 5] (fun x q _ wr => ∃ i : Nat, i ≤ len ∧ q = .int .i64 i ∧ wr.ownsRow w.heap.size 5 1 x (8 * i) (BB (Mth.bo zs (8 * i))) ∧ Below w.heap.size w wr) (fun _ q _ _ => len - (intOf q).toNat)
  case atStart => exact ⟨0, Nat.zero_le _, rfl, World.ownsRow_nil _ _ _ _, Below.refl _ _⟩
  case round =>
    obtain ⟨i, hi', rfl, hown, hb⟩ := hrel
    by_cases hlt : i < len
    · obtain ⟨p1, o1, rfl, hp1, hc1⟩ := hz.some (by omega)
      have hbx := hz.bytes i
      have hki : (i : Int) < (len : Int) := by omega
      go_wp2
      go_loopw [3, 5] (fun x q ws => ∃ j : Nat, j ≤ 8 ∧ q = .int .i64 ((7 : Int) - j) ∧ ws.ownsRow w.heap.size 5 1 x (8 * i + j) (BB (Mth.bo zs (8 * i + j))) ∧ Below w.heap.size w ws) (fun _ q _ => (intOf q + 1).toNat)
      case atStart => exact ⟨0, Nat.zero_le _, rfl, hown, hb⟩
      case round =>
        obtain ⟨j, hj, rfl, hown', hb'⟩ := hrel
        clear hown hb
        by_cases hj8 : j < 8
        · have h0 : 0 ≤ (7 : Int) - j := by omega
          have q1 := (hb'.cell (p := ⟨p1, o1 + i, none⟩) hp1).trans (hc1 i hlt)
          simp only [List.getD_eq_getElem?_getD] at q1 hbx
          have hcell : Hid (bits BinOp.and IntKind.u8 (zs[i]?.getD 0 / 2 ^ (7 - j)) 1 = ((Mth.bit zs (8 * i + j)).toNat : Int)) := bit_cell8 zs i j hj8 hbx
          generalize zs[i]?.getD 0 = z at *
          go_wp2_with (at_builtin; refine wpList_append_own _ rfl _ _ 26 rfl w.heap.size 5 i0 (.int .u8 0) 1 1 Try.underlying26 hi hz0 hz1 hz2 rfl (by decide) _ (8 * i + j) (BB (Mth.bo zs (8 * i + j))) rfl ?c0 ⟨wr.heap.size, 0, none⟩ 1 1 [.int .u8 (bits BinOp.and IntKind.u8 (z / 2 ^ (7 - j)) 1)] rfl rfl ?c1 ?c2 ?c3 ?c4 ?c5 ?_)
          case c0 => exact hown'.alloc _
          case c1 => exact one_cell8 _ _
          case c2 => intro u hu; simp at hu; subst hu; rfl
          case c3 => unfold maxLen; omega
          case c4 => omega
          case c5 => have := hb'.size; simp; omega
          intro v' w2 hown2 hgr2 _
          have hb2 := (bl_alloc hb').grown hgr2 (by have := hb'.size; simp; omega) (fun q hq => (hown'.lt q hq).1)
          have hown3 := push8 hown2 hcell.out
          rw [← Mth.bo_succ] at hown3
          clear hown' hown2 hgr2 hb'
          go_wp2
          go_roundw
          case rel => exact ⟨j + 1, by omega, by go_num, hown3, hb2⟩
          case measure => simp [intOf]; omega
        · have e : j = 8 := by omega
          subst e
          go_wp2
          go_roundw
          case rel => exact ⟨i + 1, by omega, by go_num, hown', hb'⟩
          case measure => simp [intOf]; omega
    · have e : i = len := by omega
      subst e
      go_wp2
      go_ret
      exact ⟨_, rfl, hown, hb⟩
end Go.Proofs.Ytcdpmpcpgijebaa
