/- Texts of one chain, joined: ZRdG, ZRdH. -/
import Derived.Test.YtedeiaokohdhpaaGreatG9
namespace Go.Proofs.YtedeiaokohdhpaaGreat
open Go.RowKit
theorem DeedsV.keep {w w1 w2 : World} {xs : List DeedX} {v : Value} (h : DeedsV w xs w1 v) (hb : ∀ g, w.heap.size ≤ g → w2.heap[g]? = w1.heap[g]? ∨ w1.heap.size ≤ g) : DeedsV w xs w2 v := by
  obtain ⟨g, ys, e, hg, hm, hr, hw⟩ := h
  have hl : g < w1.heap.size := hr.lt
  exact ⟨g, ys, e, hg, hm, hr.blk ((hb g hg).resolve_right (by omega)), fun y hy => (hw y hy).keep hb⟩
theorem DeedsV.low {w w0 w1 : World} {xs : List DeedX} {v : Value} (h : DeedsV w xs w1 v) (hb : w0.heap.size ≤ w.heap.size) : DeedsV w0 xs w1 v := by
  obtain ⟨g, ys, e, hg, hm, hr, hw⟩ := h
  exact ⟨g, ys, e, Nat.le_trans hb hg, hm, hr, fun y hy => (hw y hy).low hb⟩
theorem DeedsV.sl {w w1 : World} {xs : List DeedX} {v : Value} (h : DeedsV w xs w1 v) : ∃ b l c, v = .slice b l c := by
  obtain ⟨g, ys, e, _⟩ := h; exact ⟨_, _, _, e⟩
structure ActX where
  w : List Int
  ops : List DeedX
def actR (zs : List Int) (t : Nat) : Except (Int × Int) (ActX × Nat) := thenR (listC zs (numR zs) t) fun x1 u1 => thenR (listC zs (deedR zs) u1) fun x2 u2 => .ok (⟨x1, x2⟩, u2)
def ActV (w : World) (x : ActX) (w' : World) (v : Value) : Prop := ∃ vw vo, v = .agg #[vw, vo] ∧ IntsV w x.w w' vw ∧ DeedsV w x.ops w' vo
set_option maxHeartbeats 4000000 in
set_option maxRecDepth 20000 in
theorem raction {p : Nat} {a : Option Addr} {c : Nat} {zs : List Int} {t : Nat} {w : World} (h : Rd p a c zs t w) :
    Calls Tryz.prog 120 #[.pointer (some ⟨p, 0, none⟩)] w (RDone p a c zs (ActV w) (actR zs t) w) := by
  obtain ⟨W1, eW⟩ : ∃ W1, W1 = w.alloc (.cells #[.slice none 0 0, .slice none 0 0] 56) := ⟨_, rfl⟩
  obtain ⟨bx, ebx⟩ : ∃ b, b = w.heap.size := ⟨_, rfl⟩
  have hpw : p < w.heap.size := World.block_lt_of_cell? _ _ h.c0
  have S0 : Hid (RSt p a c zs 56 bx w t [.slice none 0 0, .slice none 0 0] W1) := by rw [eW, ebx]; exact RSt.start h _ _
  have HBX : Hid (bx < W1.heap.size ∧ p < W1.heap.size ∧ w.heap.size ≤ W1.heap.size) := ⟨S0.out.box.lt, Nat.lt_of_lt_of_le hpw S0.out.rn.size, S0.out.rn.size⟩
  have HF0 := hid (rlist_int S0.out.rd)
  have EW := hid eW
  have EB := hid ebx
  clear h eW ebx hpw
  go_enter Tryz.func120, Tryz.ntmps120
  go_wp2_with fail
  rw [← EW.out, ← EB.out]
  clear EW EB
  refine HF0.out.mono ?_
  rintro e w2 ⟨hn, hr⟩
  cases hq : listC zs (numR zs) t with
  | error e =>
    rw [hq] at hr
    obtain rfl := hr
    exact panic_out (P := Tryz.prog) (fn := Tryz.f120) (by unfold actR; rw [hq]; exact ⟨S0.out.rn.trans hn, rfl⟩) rfl
  | ok y =>
    obtain ⟨x1, u1⟩ := y
    rw [hq] at hr
    obtain ⟨_, rfl, ⟨g1, rfl, hv1⟩, hr⟩ := hr
    have hv1 : IntsV W1 x1 w2 (.slice (some ⟨g1, 0, none⟩) x1.length x1.length) := ⟨g1, rfl, hv1⟩
    have T0 := S0.out.read hn hr
    have b0 := T0.box.cell (i := 0) rfl
    have z0 := T0.box.fz 0
    have l0 := T0.box.lt
    obtain ⟨W3, eW3⟩ : ∃ W, W = w2.setCell ⟨bx, 0, none⟩ (.slice (some ⟨g1, 0, none⟩) x1.length x1.length) := ⟨_, rfl⟩
    have HS1 : Hid (W1.heap.size ≤ W3.heap.size) := by
      show W1.heap.size ≤ W3.heap.size
      rw [eW3, World.size_setCell]
      exact hn.size
    have S1 : Hid (RSt p a c zs 56 bx w u1 [.slice (some ⟨g1, 0, none⟩) x1.length x1.length, .slice none 0 0] W3) := by rw [eW3]; exact T0.put 0 _ rfl (fun n h => by cases h)
    have K1 : Hid (IntsV W1 x1 W3 (.slice (some ⟨g1, 0, none⟩) x1.length x1.length)) := by rw [eW3]; exact hv1.keep (set_keep HBX.out.1 _ _)
    have Q1 := hid hq
    have EW3 := hid eW3
    have HF1 := hid (rlist_deed S1.out.rd)
    clear HF0 hn hr hq T0 eW3 S0 hv1
    go_wp2_with fail
    rw [← EW3.out]
    clear EW3 b0 z0 l0
    refine HF1.out.mono ?_
    rintro e w4 ⟨hn, hr⟩
    cases hq : listC zs (deedR zs) u1 with
    | error e =>
      rw [hq] at hr
      obtain rfl := hr
      exact panic_out (P := Tryz.prog) (fn := Tryz.f120) (by unfold actR; rw [Q1.out]; unfold thenR; dsimp only; rw [hq]; exact ⟨S1.out.rn.trans hn, rfl⟩) rfl
    | ok y =>
      obtain ⟨x2, u2⟩ := y
      rw [hq] at hr
      obtain ⟨_, rfl, ⟨g2, ys, rfl, hv2⟩, hr⟩ := hr
      have hv2 : DeedsV W3 x2 w4 (.slice (some ⟨g2, 0, none⟩) x2.length x2.length) := ⟨g2, ys, rfl, hv2⟩
      have T1 := S1.out.read hn hr
      have K1 := hid (K1.out.keep (rn_keep hn HBX.out.2.1))
      have K2 := hid (hv2.low (w0 := W1) HS1.out)
      have b1 := T1.box.cell (i := 1) rfl
      have z1 := T1.box.fz 1
      have l1 := T1.box.lt
      obtain ⟨W5, eW5⟩ : ∃ W, W = w4.setCell ⟨bx, 1, none⟩ (.slice (some ⟨g2, 0, none⟩) x2.length x2.length) := ⟨_, rfl⟩
      have S2 : Hid (RSt p a c zs 56 bx w u2 [.slice (some ⟨g1, 0, none⟩) x1.length x1.length, .slice (some ⟨g2, 0, none⟩) x2.length x2.length] W5) := by rw [eW5]; exact T1.put 1 _ rfl (fun n h => by cases h)
      have K1 : Hid (IntsV W1 x1 W5 (.slice (some ⟨g1, 0, none⟩) x1.length x1.length)) := by rw [eW5]; exact K1.out.keep (set_keep HBX.out.1 _ _)
      have K2 : Hid (DeedsV W1 x2 W5 (.slice (some ⟨g2, 0, none⟩) x2.length x2.length)) := by rw [eW5]; exact K2.out.keep (set_keep HBX.out.1 _ _)
      have Q2 := hid hq
      have EW5 := hid eW5
      clear HF1 hn hr hq T1 eW5 S1 hv2
      go_upto_region 3 with fail
      rw [← EW5.out]
      clear EW5 b1 z1 l1
      have S7 := ((S2.out.put 0 (.slice (some ⟨g1, 0, none⟩) x1.length x1.length) rfl (fun n h => by cases h)).put 1 (.slice (some ⟨g2, 0, none⟩) x2.length x2.length) rfl (fun n h => by cases h))
      have HE : Hid (RDone p a c zs (ActV w) (actR zs t) w (.returned (.agg #[.slice (some ⟨g1, 0, none⟩) x1.length x1.length, .slice (some ⟨g2, 0, none⟩) x2.length x2.length])) ((W5.setCell ⟨bx, 0, none⟩ (.slice (some ⟨g1, 0, none⟩) x1.length x1.length)).setCell ⟨bx, 1, none⟩ (.slice (some ⟨g2, 0, none⟩) x2.length x2.length))) := by
        show RDone _ _ _ _ _ _ _ _ _
        unfold actR
        rw [Q1.out]
        unfold thenR
        dsimp only
        rw [Q2.out]
        dsimp only
        exact ⟨S7.rn, _, rfl, ⟨_, _, rfl, (((K1.out.keep (set_keep HBX.out.1 0 (.slice (some ⟨g1, 0, none⟩) x1.length x1.length))).keep (set_keep HBX.out.1 1 (.slice (some ⟨g2, 0, none⟩) x2.length x2.length))).low HBX.out.2.2), (((K2.out.keep (set_keep HBX.out.1 0 (.slice (some ⟨g1, 0, none⟩) x1.length x1.length))).keep (set_keep HBX.out.1 1 (.slice (some ⟨g2, 0, none⟩) x2.length x2.length))).low HBX.out.2.2)⟩, S7.rd⟩
      have b0 := S2.out.box.cell (i := 0) rfl
      have z0 := S2.out.box.fz 0
      have b1 := S2.out.box.cell (i := 1) rfl
      have z1 := S2.out.box.fz 1
      have l0 := S2.out.box.lt
      clear S2 S7 K1 K2 Q1 Q2
      go_wp2
      exact bodyPost_ret (v := .agg #[.slice (some ⟨g1, 0, none⟩) x1.length x1.length, .slice (some ⟨g2, 0, none⟩) x2.length x2.length]) (by simp [results, Tryz.results120, go_sem, *]) rfl HE.out
end Go.Proofs.YtedeiaokohdhpaaGreat

namespace Go.Proofs.YtedeiaokohdhpaaGreat
open Go.RowKit
theorem Tryz.infoActR : (Tryz.prog.info? 56).map (fun i => (i.zero, i.size, i.bytes)) = some (some (.agg #[.slice none 0 0, .slice none 0 0]), 2, 48) := by kernel_rfl
def kActE (y : ActX × Value × Value) : List Value := [y.2.1, y.2.2]
def ActP (w : World) (y : ActX × Value × Value) (w' : World) : Prop := IntsV w y.1.w w' y.2.1 ∧ DeedsV w y.1.ops w' y.2.2
theorem ActP.keep {w w1 w2 : World} {y : ActX × Value × Value} (h : ActP w y w1) (hb : ∀ g, w.heap.size ≤ g → w2.heap[g]? = w1.heap[g]? ∨ w1.heap.size ≤ g) : ActP w y w2 := by
  obtain ⟨h0, h1⟩ := h
  exact ⟨h0.keep hb, h1.keep hb⟩
theorem ActP.low {w w0 w1 : World} {y : ActX × Value × Value} (h : ActP w y w1) (hb : w0.heap.size ≤ w.heap.size) : ActP w0 y w1 := by
  obtain ⟨h0, h1⟩ := h
  exact ⟨h0.low hb, h1.low hb⟩
def ActsV (w : World) (xs : List ActX) (w' : World) (v : Value) : Prop := ∃ g, ∃ ys : List (ActX × Value × Value), v = .slice (some ⟨g, 0, none⟩) xs.length xs.length ∧ w.heap.size ≤ g ∧ ys.map (·.1) = xs ∧ RowK kActE 2 56 xs.length w' g ys ∧ ∀ y ∈ ys, ActP w y w'
set_option maxHeartbeats 4000000 in
set_option maxRecDepth 20000 in
theorem rlist_act {p : Nat} {a : Option Addr} {c : Nat} {zs : List Int} {t : Nat} {w : World} (h : Rd p a c zs t w) :
    Calls Tryz.prog 119 #[.pointer (some ⟨p, 0, none⟩), .func (.func 120) #[.pointer (some ⟨p, 0, none⟩)] #[]] w (RDone p a c zs (ActsV w) (listC zs (actR zs) t) w) := by
  have HP := hid (rcount h)
  clear h
  go_enter Tryz.func119, Tryz.ntmps119
  go_wp2_with fail
  refine HP.out.mono ?_
  rintro e w1 ⟨hn, hr⟩
  cases hp : cntR zs t with
  | error e =>
    have e1 : listC zs (actR zs) t = .error e := by unfold listC; rw [hp]
    rw [hp] at hr
    obtain rfl := hr
    exact panic_out (P := Tryz.prog) (fn := Tryz.f119) (by rw [e1]; exact ⟨hn, rfl⟩) rfl
  | ok x =>
    obtain ⟨m, t1⟩ := x
    have e1 : listC zs (actR zs) t = listR (actR zs) m t1 := by unfold listC; rw [hp]
    rw [hp] at hr
    obtain ⟨_, rfl, ⟨rfl, hm⟩, hr1⟩ := hr
    obtain ⟨i0, hi, hz0, hz1, hz2⟩ := info_parts Tryz.infoActR
    have hmle : m ≤ 100000 := Nat.le_trans hm hr1.few
    have hmk : ∀ W : World, (Instr.makeSlice 25 (.int .i64 (m : Int)) (.int .i64 (m : Int))).run Tryz.prog W = .ok (.slice (some ⟨W.heap.size, 0, none⟩) m m) (W.alloc (.cells (madeCells #[.slice none 0 0, .slice none 0 0] (m * 2)) 56)) := fun W => by
      have h := run_make (P := Tryz.prog) W 25 56 i0 _ Tryz.underlying25 hi hz0 .i64 .i64 (m : Int) (m : Int) (by omega) (by omega) (by rw [hz2]; omega) (by omega)
      rw [show ((m : Int)).toNat = m by omega, hz1] at h
      exact h
    obtain ⟨W2, hW⟩ : ∃ W2, W2 = w1.alloc (.cells (madeCells #[.slice none 0 0, .slice none 0 0] (m * 2)) 56) := ⟨_, rfl⟩
    obtain ⟨g, hg⟩ : ∃ g, g = w1.heap.size := ⟨_, rfl⟩
    have b2 : Below w1.heap.size w1 W2 := by rw [hW]; exact bl_alloc (Below.refl _ _)
    have R0 : RowK kActE 2 56 m W2 g [] := by
      rw [hW, hg]
      exact RowK.new kActE 2 _ m w1 _ (by simp [madeCells])
    have HR := hid (hr1.step b2)
    have HN := hid (hn.trans (Rn.of b2))
    have hpg : p < g := by rw [hg]; exact World.block_lt_of_cell? _ _ hr1.c0
    have HGW : Hid (w.heap.size ≤ g) := by show w.heap.size ≤ g; rw [hg]; exact hn.size
    have HLT : Hid (p < g) := hpg
    have HW2 : Hid (w.heap.size ≤ W2.heap.size) := HN.out.size
    have HPG : Hid (g ≠ p) := by show g ≠ p; omega
    have HRow := hid R0
    have HG2 := hid (R0.lt)
    have HP2 : Hid (p < W2.heap.size) := Nat.lt_trans hpg R0.lt
    have EW := hid hW
    have EG := hid hg
    have E1 := hid e1
    have HML := hid hmle
    clear HP hp hr1 hn e1 hm hi hz0 hz1 hz2 hW hg b2 R0 hpg hmle
    go_wp2
    rw [← EW.out, ← EG.out]
    clear EW EG hmk
    go_loopw [12, 6] (fun q _ wr => ∃ (i u : Nat) (xs : List (ActX × Value × Value)), q = .int .i64 (i : Int) ∧ Hid (i ≤ m) ∧ Hid (xs.length = i) ∧ Hid (∀ y ∈ xs, ActP W2 y wr) ∧ Hid (W2.heap.size ≤ wr.heap.size) ∧ Hid (behindL (xs.map (·.1)) (listR (actR zs) (m - i) u) = listC zs (actR zs) t) ∧ Hid (Rd p a c zs u wr) ∧ Hid (Rn p w wr) ∧ Hid (RowK kActE 2 56 m wr g xs)) (fun q _ _ => m - (intOf q).toNat)
    case atStart =>
      refine ⟨0, t1, [], rfl, Nat.zero_le _, rfl, fun x hx => (by simp at hx), Nat.le_refl _, ?_, HR, HN, HRow⟩
      show behindL [] (listR (actR zs) m t1) = _
      rw [E1.out]
      cases listR (actR zs) m t1 with
      | error e => rfl
      | ok y => rfl
    case round =>
      obtain ⟨i, u, xs, rfl, HI, HX, HWF, HS, HL, HR, HN, HRow⟩ := hrel
      by_cases hlt : i < m
      · have hli : (i : Int) < (m : Int) := by omega
        have HF := hid (raction HR.out)
        go_wp2_with fail
        refine HF.out.mono ?_
        rintro e w3 ⟨hn3, hr3⟩
        have hL := HL.out
        rw [show m - i = (m - i - 1) + 1 by omega] at hL
        cases hq : actR zs u with
        | error e =>
          rw [behind_stop _ _ _ _ e hq] at hL
          rw [hq] at hr3
          obtain rfl := hr3
          exact panic_out (P := Tryz.prog) (fn := Tryz.f119) (by rw [← hL]; exact ⟨HN.out.trans hn3, rfl⟩) rfl
        | ok y =>
          obtain ⟨x, u'⟩ := y
          rw [behind_next _ _ _ _ x u' hq] at hL
          rw [hq] at hr3
          obtain ⟨_, rfl, ⟨ve0, ve1, rfl, hwf⟩, hr3⟩ := hr3
          have hwf : ActP wr (x, ve0, ve1) w3 := hwf
          obtain ⟨b0, l0, c0, rfl⟩ := hwf.1.sl
          obtain ⟨b1, l1, c1, rfl⟩ := hwf.2.sl
          have row3 := HRow.out.rn hn3 HPG.out
          have hxl := HX.out
          have hb : i * 2 + 2 ≤ m * 2 := by omega
          obtain ⟨o0, k0⟩ := row3.some (o := i * 2) (by omega)
          obtain ⟨o1, k1⟩ := row3.some (o := i * 2 + 1) (by omega)
          have z0 := row3.fz (i * 2)
          have z1 := row3.fz (i * 2 + 1)
          have kl := row3.lt
          have p1 := row3.put (fun _ => rfl) (i * 2) (.slice b0 l0 c0) (by omega) (by omega)
          have p2 := p1.1.put (fun _ => rfl) (i * 2 + 1) (.slice b1 l1 c1) (by omega) (by omega)
          have HR4 := hid ((hr3.put_far HLT.out (i * 2) (.slice b0 l0 c0)).put_far HLT.out (i * 2 + 1) (.slice b1 l1 c1))
          have HN4 := hid (((HN.out.trans hn3).put_new HGW.out (i * 2) (.slice b0 l0 c0)).put_new HGW.out (i * 2 + 1) (.slice b1 l1 c1))
          have HRow4 : Hid (RowK kActE 2 56 m ((w3.setCell ⟨g, i * 2, none⟩ (.slice b0 l0 c0)).setCell ⟨g, i * 2 + 1, none⟩ (.slice b1 l1 c1)) g (xs ++ [(x, (Value.slice b0 l0 c0), (Value.slice b1 l1 c1))])) := by
            refine p2.1.more (x, (Value.slice b0 l0 c0), (Value.slice b1 l1 c1)) fun l u hu => ?_
            rw [hxl]
            match l, hu with
            | 0, hu => cases hu; exact ((World.cell?_setCell_other _ _ _ _ (by intro e; simp only [Addr.mk.injEq] at e; omega)).trans p1.2)
            | 1, hu => cases hu; exact p2.2
          have HS4 : Hid (W2.heap.size ≤ ((w3.setCell ⟨g, i * 2, none⟩ (.slice b0 l0 c0)).setCell ⟨g, i * 2 + 1, none⟩ (.slice b1 l1 c1)).heap.size) := by
            have h1 : W2.heap.size ≤ w3.heap.size := Nat.le_trans HS.out hn3.size
            show W2.heap.size ≤ ((w3.setCell ⟨g, i * 2, none⟩ (.slice b0 l0 c0)).setCell ⟨g, i * 2 + 1, none⟩ (.slice b1 l1 c1)).heap.size
            simpa [World.setCell] using h1
          have HWF4 : Hid (∀ y ∈ xs ++ [(x, (Value.slice b0 l0 c0), (Value.slice b1 l1 c1))], ActP W2 y ((w3.setCell ⟨g, i * 2, none⟩ (.slice b0 l0 c0)).setCell ⟨g, i * 2 + 1, none⟩ (.slice b1 l1 c1))) := fun y hy => by
            have HH : ActP W2 y w3 := by
              rcases List.mem_append.1 hy with h | h
              · exact (HWF.out y h).keep (rn_keep hn3 HP2.out)
              · simp only [List.mem_cons, List.not_mem_nil, or_false] at h; rw [h]; exact hwf.low HS.out
            exact ((HH.keep (set_keep HG2.out (i * 2) (.slice b0 l0 c0))).keep (set_keep HG2.out (i * 2 + 1) (.slice b1 l1 c1)))
          have HL4 : Hid (behindL ((xs ++ [(x, (Value.slice b0 l0 c0), (Value.slice b1 l1 c1))]).map (·.1)) (listR (actR zs) (m - (i + 1)) u') = listC zs (actR zs) t) := by
            show _ = _
            rw [← hL, show m - (i + 1) = m - i - 1 by omega, List.map_append]; rfl
          have HX4 : Hid ((xs ++ [(x, (Value.slice b0 l0 c0), (Value.slice b1 l1 c1))]).length = i + 1) := by show _ = _; rw [List.length_append, HX.out]; rfl
          have hml := HML.out
          clear HF hn3 hr3 hL hq row3 HL HX HWF HRow HR HN hwf p1 p2 hxl HS
          go_wp2
          go_roundw
          case rel => exact ⟨i + 1, u', xs ++ [(x, (Value.slice b0 l0 c0), (Value.slice b1 l1 c1))], vint (by omega), hid hlt, HX4, HWF4, HS4, HL4, HR4, HN4, HRow4⟩
          case measure => simp [intOf]; omega
      · have hli : ¬ (i : Int) < (m : Int) := by omega
        have e3 : m - i = 0 := by omega
        have HE : Hid (RDone p a c zs (ActsV w) (listC zs (actR zs) t) w (.returned (.slice (some ⟨g, 0, none⟩) m m)) wr) := by
          show RDone _ _ _ _ _ _ _ _ _
          rw [← HL.out, e3]
          have hxl : xs.length = m := by have h1 := HX.out; have h2 := HI.out; omega
          have hrow := HRow.out
          refine ⟨HN.out, _, rfl, ⟨g, xs, ?_, HGW.out, ?_, ?_, ?_⟩, HR.out⟩
          · rw [List.append_nil, List.length_map, hxl]
          · rw [List.append_nil]
          · rw [List.append_nil, List.length_map, hxl]; exact hrow
          · exact fun y hy => (HWF.out y hy).low HW2.out
        clear HL HX HWF HRow HR HN
        go_wp2
        go_ret
        exact HE.out
end Go.Proofs.YtedeiaokohdhpaaGreat
