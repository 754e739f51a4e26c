/- Texts of one chain, joined: ZRdF. -/
import Derived.Test.YtedeiaokohdhpaaGreatG8
namespace Go.Proofs.YtedeiaokohdhpaaGreat
open Go.RowKit
theorem TreeV.keep {w w1 w2 : World} {e : Option (List (Int × Int × Int × Int))} {v : Value} (h : TreeV w e w1 v) (hb : ∀ g, w.heap.size ≤ g → w2.heap[g]? = w1.heap[g]? ∨ w1.heap.size ≤ g) : TreeV w e w2 v := by
  cases e with
  | none => exact h
  | some xs => exact PushsV.keep h hb
theorem TreeV.low {w w0 w1 : World} {e : Option (List (Int × Int × Int × Int))} {v : Value} (h : TreeV w e w1 v) (hb : w0.heap.size ≤ w.heap.size) : TreeV w0 e w1 v := by
  cases e with
  | none => exact h
  | some xs => exact PushsV.low h hb
theorem TreeV.sl {w w1 : World} {e : Option (List (Int × Int × Int × Int))} {v : Value} (h : TreeV w e w1 v) : ∃ b l c, v = .slice b l c := by
  cases e with
  | none => exact ⟨_, _, _, h⟩
  | some xs => obtain ⟨g, e, _⟩ := h; exact ⟨_, _, _, e⟩
theorem RefsV.sl {w w1 : World} {xs : List (Int × Int)} {v : Value} (h : RefsV w xs w1 v) : ∃ b l c, v = .slice b l c := by
  obtain ⟨g, e, _⟩ := h; exact ⟨_, _, _, e⟩
theorem IntsV.sl {w w1 : World} {xs : List Int} {v : Value} (h : IntsV w xs w1 v) : ∃ b l c, v = .slice b l c := by
  obtain ⟨g, e, _⟩ := h; exact ⟨_, _, _, e⟩
theorem NumsV.sl {w w1 : World} {xs : List Int} {v : Value} (h : NumsV w xs w1 v) : ∃ b l c, v = .slice b l c := by
  obtain ⟨g, e, _⟩ := h; exact ⟨_, _, _, e⟩
theorem Tryz.infoNodeR : (Tryz.prog.info? 65).map (fun i => (i.zero, i.size, i.bytes)) = some (some (.agg #[.int .i64 0, .int .i64 0, .slice none 0 0, .int .i64 0, .int .i64 0]), 5, 56) := by kernel_rfl
def kNodeE (y : NodeX × Value) : List Value := [.int .i64 y.1.kind, .int .i64 y.1.n, y.2, .int .i64 y.1.yes, .int .i64 y.1.no]
def NodeP (w : World) (y : NodeX × Value) (w' : World) : Prop := TreeV w y.1.e w' y.2 ∧ (Lit.int .i64 y.1.kind).wf = true ∧ (Lit.int .i64 y.1.n).wf = true ∧ (Lit.int .i64 y.1.yes).wf = true ∧ (Lit.int .i64 y.1.no).wf = true
theorem NodeP.keep {w w1 w2 : World} {y : NodeX × Value} (h : NodeP w y w1) (hb : ∀ g, w.heap.size ≤ g → w2.heap[g]? = w1.heap[g]? ∨ w1.heap.size ≤ g) : NodeP w y w2 := by
  obtain ⟨h0, hr⟩ := h
  exact ⟨h0.keep hb, hr⟩
theorem NodeP.low {w w0 w1 : World} {y : NodeX × Value} (h : NodeP w y w1) (hb : w0.heap.size ≤ w.heap.size) : NodeP w0 y w1 := by
  obtain ⟨h0, hr⟩ := h
  exact ⟨h0.low hb, hr⟩
def NodesV (w : World) (xs : List NodeX) (w' : World) (v : Value) : Prop := ∃ g, ∃ ys : List (NodeX × Value), v = .slice (some ⟨g, 0, none⟩) xs.length xs.length ∧ w.heap.size ≤ g ∧ ys.map (·.1) = xs ∧ RowK kNodeE 5 65 xs.length w' g ys ∧ ∀ y ∈ ys, NodeP w y w'
set_option maxHeartbeats 4000000 in
set_option maxRecDepth 20000 in
theorem rlist_node {p : Nat} {a : Option Addr} {c : Nat} {zs : List Int} {t : Nat} {w : World} (h : Rd p a c zs t w) :
    Calls Tryz.prog 123 #[.pointer (some ⟨p, 0, none⟩), .func (.func 124) #[.pointer (some ⟨p, 0, none⟩)] #[]] w (RDone p a c zs (NodesV w) (listC zs (nodeR zs) t) w) := by
  have HP := hid (rcount h)
  clear h
  go_enter Tryz.func123, Tryz.ntmps123
  go_wp2_with fail
  refine HP.out.mono ?_
  rintro e w1 ⟨hn, hr⟩
  cases hp : cntR zs t with
  | error e =>
    have e1 : listC zs (nodeR zs) t = .error e := by unfold listC; rw [hp]
    rw [hp] at hr
    obtain rfl := hr
    exact panic_out (P := Tryz.prog) (fn := Tryz.f123) (by rw [e1]; exact ⟨hn, rfl⟩) rfl
  | ok x =>
    obtain ⟨m, t1⟩ := x
    have e1 : listC zs (nodeR zs) t = listR (nodeR zs) m t1 := by unfold listC; rw [hp]
    rw [hp] at hr
    obtain ⟨_, rfl, ⟨rfl, hm⟩, hr1⟩ := hr
    obtain ⟨i0, hi, hz0, hz1, hz2⟩ := info_parts Tryz.infoNodeR
    have hmle : m ≤ 100000 := Nat.le_trans hm hr1.few
    have hmk : ∀ W : World, (Instr.makeSlice 27 (.int .i64 (m : Int)) (.int .i64 (m : Int))).run Tryz.prog W = .ok (.slice (some ⟨W.heap.size, 0, none⟩) m m) (W.alloc (.cells (madeCells #[.int .i64 0, .int .i64 0, .slice none 0 0, .int .i64 0, .int .i64 0] (m * 5)) 65)) := fun W => by
      have h := run_make (P := Tryz.prog) W 27 65 i0 _ Tryz.underlying27 hi hz0 .i64 .i64 (m : Int) (m : Int) (by omega) (by omega) (by rw [hz2]; omega) (by omega)
      rw [show ((m : Int)).toNat = m by omega, hz1] at h
      exact h
    obtain ⟨W2, hW⟩ : ∃ W2, W2 = w1.alloc (.cells (madeCells #[.int .i64 0, .int .i64 0, .slice none 0 0, .int .i64 0, .int .i64 0] (m * 5)) 65) := ⟨_, rfl⟩
    obtain ⟨g, hg⟩ : ∃ g, g = w1.heap.size := ⟨_, rfl⟩
    have b2 : Below w1.heap.size w1 W2 := by rw [hW]; exact bl_alloc (Below.refl _ _)
    have R0 : RowK kNodeE 5 65 m W2 g [] := by
      rw [hW, hg]
      exact RowK.new kNodeE 5 _ m w1 _ (by simp [madeCells])
    have HR := hid (hr1.step b2)
    have HN := hid (hn.trans (Rn.of b2))
    have hpg : p < g := by rw [hg]; exact World.block_lt_of_cell? _ _ hr1.c0
    have HGW : Hid (w.heap.size ≤ g) := by show w.heap.size ≤ g; rw [hg]; exact hn.size
    have HLT : Hid (p < g) := hpg
    have HW2 : Hid (w.heap.size ≤ W2.heap.size) := HN.out.size
    have HPG : Hid (g ≠ p) := by show g ≠ p; omega
    have HRow := hid R0
    have HG2 := hid (R0.lt)
    have HP2 : Hid (p < W2.heap.size) := Nat.lt_trans hpg R0.lt
    have EW := hid hW
    have EG := hid hg
    have E1 := hid e1
    have HML := hid hmle
    clear HP hp hr1 hn e1 hm hi hz0 hz1 hz2 hW hg b2 R0 hpg hmle
    go_wp2
    rw [← EW.out, ← EG.out]
    clear EW EG hmk
    go_loopw [12, 6] (fun q _ wr => ∃ (i u : Nat) (xs : List (NodeX × Value)), q = .int .i64 (i : Int) ∧ Hid (i ≤ m) ∧ Hid (xs.length = i) ∧ Hid (∀ y ∈ xs, NodeP W2 y wr) ∧ Hid (W2.heap.size ≤ wr.heap.size) ∧ Hid (behindL (xs.map (·.1)) (listR (nodeR zs) (m - i) u) = listC zs (nodeR zs) t) ∧ Hid (Rd p a c zs u wr) ∧ Hid (Rn p w wr) ∧ Hid (RowK kNodeE 5 65 m wr g xs)) (fun q _ _ => m - (intOf q).toNat)
    case atStart =>
      refine ⟨0, t1, [], rfl, Nat.zero_le _, rfl, fun x hx => (by simp at hx), Nat.le_refl _, ?_, HR, HN, HRow⟩
      show behindL [] (listR (nodeR zs) m t1) = _
      rw [E1.out]
      cases listR (nodeR zs) m t1 with
      | error e => rfl
      | ok y => rfl
    case round =>
      obtain ⟨i, u, xs, rfl, HI, HX, HWF, HS, HL, HR, HN, HRow⟩ := hrel
      by_cases hlt : i < m
      · have hli : (i : Int) < (m : Int) := by omega
        have HF := hid (rnode HR.out)
        go_wp2_with fail
        refine HF.out.mono ?_
        rintro e w3 ⟨hn3, hr3⟩
        have hL := HL.out
        rw [show m - i = (m - i - 1) + 1 by omega] at hL
        cases hq : nodeR zs u with
        | error e =>
          rw [behind_stop _ _ _ _ e hq] at hL
          rw [hq] at hr3
          obtain rfl := hr3
          exact panic_out (P := Tryz.prog) (fn := Tryz.f123) (by rw [← hL]; exact ⟨HN.out.trans hn3, rfl⟩) rfl
        | ok y =>
          obtain ⟨x, u'⟩ := y
          rw [behind_next _ _ _ _ x u' hq] at hL
          rw [hq] at hr3
          obtain ⟨_, rfl, ⟨ve0, rfl, hwf⟩, hr3⟩ := hr3
          have hwf : NodeP wr (x, ve0) w3 := hwf
          obtain ⟨b0, l0, c0, rfl⟩ := hwf.1.sl
          have row3 := HRow.out.rn hn3 HPG.out
          have hxl := HX.out
          have hb : i * 5 + 5 ≤ m * 5 := by omega
          obtain ⟨o0, k0⟩ := row3.some (o := i * 5) (by omega)
          obtain ⟨o1, k1⟩ := row3.some (o := i * 5 + 1) (by omega)
          obtain ⟨o2, k2⟩ := row3.some (o := i * 5 + 2) (by omega)
          obtain ⟨o3, k3⟩ := row3.some (o := i * 5 + 3) (by omega)
          obtain ⟨o4, k4⟩ := row3.some (o := i * 5 + 4) (by omega)
          have z0 := row3.fz (i * 5)
          have z1 := row3.fz (i * 5 + 1)
          have z2 := row3.fz (i * 5 + 2)
          have z3 := row3.fz (i * 5 + 3)
          have z4 := row3.fz (i * 5 + 4)
          have kl := row3.lt
          have p1 := row3.put (fun _ => rfl) (i * 5) (.int .i64 x.kind) (by omega) (by omega)
          have p2 := p1.1.put (fun _ => rfl) (i * 5 + 1) (.int .i64 x.n) (by omega) (by omega)
          have p3 := p2.1.put (fun _ => rfl) (i * 5 + 2) (.slice b0 l0 c0) (by omega) (by omega)
          have p4 := p3.1.put (fun _ => rfl) (i * 5 + 3) (.int .i64 x.yes) (by omega) (by omega)
          have p5 := p4.1.put (fun _ => rfl) (i * 5 + 4) (.int .i64 x.no) (by omega) (by omega)
          have HR4 := hid (((((hr3.put_far HLT.out (i * 5) (.int .i64 x.kind)).put_far HLT.out (i * 5 + 1) (.int .i64 x.n)).put_far HLT.out (i * 5 + 2) (.slice b0 l0 c0)).put_far HLT.out (i * 5 + 3) (.int .i64 x.yes)).put_far HLT.out (i * 5 + 4) (.int .i64 x.no))
          have HN4 := hid ((((((HN.out.trans hn3).put_new HGW.out (i * 5) (.int .i64 x.kind)).put_new HGW.out (i * 5 + 1) (.int .i64 x.n)).put_new HGW.out (i * 5 + 2) (.slice b0 l0 c0)).put_new HGW.out (i * 5 + 3) (.int .i64 x.yes)).put_new HGW.out (i * 5 + 4) (.int .i64 x.no))
          have HRow4 : Hid (RowK kNodeE 5 65 m (((((w3.setCell ⟨g, i * 5, none⟩ (.int .i64 x.kind)).setCell ⟨g, i * 5 + 1, none⟩ (.int .i64 x.n)).setCell ⟨g, i * 5 + 2, none⟩ (.slice b0 l0 c0)).setCell ⟨g, i * 5 + 3, none⟩ (.int .i64 x.yes)).setCell ⟨g, i * 5 + 4, none⟩ (.int .i64 x.no)) g (xs ++ [(x, (Value.slice b0 l0 c0))])) := by
            refine p5.1.more (x, (Value.slice b0 l0 c0)) fun l u hu => ?_
            rw [hxl]
            match l, hu with
            | 0, hu => cases hu; exact ((World.cell?_setCell_other _ _ _ _ (by intro e; simp only [Addr.mk.injEq] at e; omega)).trans ((World.cell?_setCell_other _ _ _ _ (by intro e; simp only [Addr.mk.injEq] at e; omega)).trans ((World.cell?_setCell_other _ _ _ _ (by intro e; simp only [Addr.mk.injEq] at e; omega)).trans ((World.cell?_setCell_other _ _ _ _ (by intro e; simp only [Addr.mk.injEq] at e; omega)).trans p1.2))))
            | 1, hu => cases hu; exact ((World.cell?_setCell_other _ _ _ _ (by intro e; simp only [Addr.mk.injEq] at e; omega)).trans ((World.cell?_setCell_other _ _ _ _ (by intro e; simp only [Addr.mk.injEq] at e; omega)).trans ((World.cell?_setCell_other _ _ _ _ (by intro e; simp only [Addr.mk.injEq] at e; omega)).trans p2.2)))
            | 2, hu => cases hu; exact ((World.cell?_setCell_other _ _ _ _ (by intro e; simp only [Addr.mk.injEq] at e; omega)).trans ((World.cell?_setCell_other _ _ _ _ (by intro e; simp only [Addr.mk.injEq] at e; omega)).trans p3.2))
            | 3, hu => cases hu; exact ((World.cell?_setCell_other _ _ _ _ (by intro e; simp only [Addr.mk.injEq] at e; omega)).trans p4.2)
            | 4, hu => cases hu; exact p5.2
          have HS4 : Hid (W2.heap.size ≤ (((((w3.setCell ⟨g, i * 5, none⟩ (.int .i64 x.kind)).setCell ⟨g, i * 5 + 1, none⟩ (.int .i64 x.n)).setCell ⟨g, i * 5 + 2, none⟩ (.slice b0 l0 c0)).setCell ⟨g, i * 5 + 3, none⟩ (.int .i64 x.yes)).setCell ⟨g, i * 5 + 4, none⟩ (.int .i64 x.no)).heap.size) := by
            have h1 : W2.heap.size ≤ w3.heap.size := Nat.le_trans HS.out hn3.size
            show W2.heap.size ≤ (((((w3.setCell ⟨g, i * 5, none⟩ (.int .i64 x.kind)).setCell ⟨g, i * 5 + 1, none⟩ (.int .i64 x.n)).setCell ⟨g, i * 5 + 2, none⟩ (.slice b0 l0 c0)).setCell ⟨g, i * 5 + 3, none⟩ (.int .i64 x.yes)).setCell ⟨g, i * 5 + 4, none⟩ (.int .i64 x.no)).heap.size
            simpa [World.setCell] using h1
          have HWF4 : Hid (∀ y ∈ xs ++ [(x, (Value.slice b0 l0 c0))], NodeP W2 y (((((w3.setCell ⟨g, i * 5, none⟩ (.int .i64 x.kind)).setCell ⟨g, i * 5 + 1, none⟩ (.int .i64 x.n)).setCell ⟨g, i * 5 + 2, none⟩ (.slice b0 l0 c0)).setCell ⟨g, i * 5 + 3, none⟩ (.int .i64 x.yes)).setCell ⟨g, i * 5 + 4, none⟩ (.int .i64 x.no))) := fun y hy => by
            have HH : NodeP W2 y w3 := by
              rcases List.mem_append.1 hy with h | h
              · exact (HWF.out y h).keep (rn_keep hn3 HP2.out)
              · simp only [List.mem_cons, List.not_mem_nil, or_false] at h; rw [h]; exact hwf.low HS.out
            exact (((((HH.keep (set_keep HG2.out (i * 5) (.int .i64 x.kind))).keep (set_keep HG2.out (i * 5 + 1) (.int .i64 x.n))).keep (set_keep HG2.out (i * 5 + 2) (.slice b0 l0 c0))).keep (set_keep HG2.out (i * 5 + 3) (.int .i64 x.yes))).keep (set_keep HG2.out (i * 5 + 4) (.int .i64 x.no)))
          have HL4 : Hid (behindL ((xs ++ [(x, (Value.slice b0 l0 c0))]).map (·.1)) (listR (nodeR zs) (m - (i + 1)) u') = listC zs (nodeR zs) t) := by
            show _ = _
            rw [← hL, show m - (i + 1) = m - i - 1 by omega, List.map_append]; rfl
          have HX4 : Hid ((xs ++ [(x, (Value.slice b0 l0 c0))]).length = i + 1) := by show _ = _; rw [List.length_append, HX.out]; rfl
          have hml := HML.out
          clear HF hn3 hr3 hL hq row3 HL HX HWF HRow HR HN hwf p1 p2 p3 p4 p5 hxl HS
          go_wp2
          go_roundw
          case rel => exact ⟨i + 1, u', xs ++ [(x, (Value.slice b0 l0 c0))], vint (by omega), hid hlt, HX4, HWF4, HS4, HL4, HR4, HN4, HRow4⟩
          case measure => simp [intOf]; omega
      · have hli : ¬ (i : Int) < (m : Int) := by omega
        have e3 : m - i = 0 := by omega
        have HE : Hid (RDone p a c zs (NodesV w) (listC zs (nodeR zs) t) w (.returned (.slice (some ⟨g, 0, none⟩) m m)) wr) := by
          show RDone _ _ _ _ _ _ _ _ _
          rw [← HL.out, e3]
          have hxl : xs.length = m := by have h1 := HX.out; have h2 := HI.out; omega
          have hrow := HRow.out
          refine ⟨HN.out, _, rfl, ⟨g, xs, ?_, HGW.out, ?_, ?_, ?_⟩, HR.out⟩
          · rw [List.append_nil, List.length_map, hxl]
          · rw [List.append_nil]
          · rw [List.append_nil, List.length_map, hxl]; exact hrow
          · exact fun y hy => (HWF.out y hy).low HW2.out
        clear HL HX HWF HRow HR HN
        go_wp2
        go_ret
        exact HE.out
theorem Tryz.infoDeedR : (Tryz.prog.info? 59).map (fun i => (i.zero, i.size, i.bytes)) = some (some (.agg #[.int .i64 0, .int .i64 0, .int .i64 0, .int .i64 0, .slice none 0 0]), 5, 56) := by kernel_rfl
def kDeedE (y : DeedX × Value) : List Value := [.int .i64 y.1.kind, .int .i64 y.1.h, .int .i64 y.1.f, .int .i64 y.1.head, y.2]
def DeedP (w : World) (y : DeedX × Value) (w' : World) : Prop := TreeV w y.1.e w' y.2 ∧ (Lit.int .i64 y.1.kind).wf = true ∧ (Lit.int .i64 y.1.h).wf = true ∧ (Lit.int .i64 y.1.f).wf = true ∧ (Lit.int .i64 y.1.head).wf = true
theorem DeedP.keep {w w1 w2 : World} {y : DeedX × Value} (h : DeedP w y w1) (hb : ∀ g, w.heap.size ≤ g → w2.heap[g]? = w1.heap[g]? ∨ w1.heap.size ≤ g) : DeedP w y w2 := by
  obtain ⟨h0, hr⟩ := h
  exact ⟨h0.keep hb, hr⟩
theorem DeedP.low {w w0 w1 : World} {y : DeedX × Value} (h : DeedP w y w1) (hb : w0.heap.size ≤ w.heap.size) : DeedP w0 y w1 := by
  obtain ⟨h0, hr⟩ := h
  exact ⟨h0.low hb, hr⟩
def DeedsV (w : World) (xs : List DeedX) (w' : World) (v : Value) : Prop := ∃ g, ∃ ys : List (DeedX × Value), v = .slice (some ⟨g, 0, none⟩) xs.length xs.length ∧ w.heap.size ≤ g ∧ ys.map (·.1) = xs ∧ RowK kDeedE 5 59 xs.length w' g ys ∧ ∀ y ∈ ys, DeedP w y w'
set_option maxHeartbeats 4000000 in
set_option maxRecDepth 20000 in
theorem rlist_deed {p : Nat} {a : Option Addr} {c : Nat} {zs : List Int} {t : Nat} {w : World} (h : Rd p a c zs t w) :
    Calls Tryz.prog 150 #[.pointer (some ⟨p, 0, none⟩), .func (.func 151) #[.pointer (some ⟨p, 0, none⟩)] #[]] w (RDone p a c zs (DeedsV w) (listC zs (deedR zs) t) w) := by
  have HP := hid (rcount h)
  clear h
  go_enter Tryz.func150, Tryz.ntmps150
  go_wp2_with fail
  refine HP.out.mono ?_
  rintro e w1 ⟨hn, hr⟩
  cases hp : cntR zs t with
  | error e =>
    have e1 : listC zs (deedR zs) t = .error e := by unfold listC; rw [hp]
    rw [hp] at hr
    obtain rfl := hr
    exact panic_out (P := Tryz.prog) (fn := Tryz.f150) (by rw [e1]; exact ⟨hn, rfl⟩) rfl
  | ok x =>
    obtain ⟨m, t1⟩ := x
    have e1 : listC zs (deedR zs) t = listR (deedR zs) m t1 := by unfold listC; rw [hp]
    rw [hp] at hr
    obtain ⟨_, rfl, ⟨rfl, hm⟩, hr1⟩ := hr
    obtain ⟨i0, hi, hz0, hz1, hz2⟩ := info_parts Tryz.infoDeedR
    have hmle : m ≤ 100000 := Nat.le_trans hm hr1.few
    have hmk : ∀ W : World, (Instr.makeSlice 54 (.int .i64 (m : Int)) (.int .i64 (m : Int))).run Tryz.prog W = .ok (.slice (some ⟨W.heap.size, 0, none⟩) m m) (W.alloc (.cells (madeCells #[.int .i64 0, .int .i64 0, .int .i64 0, .int .i64 0, .slice none 0 0] (m * 5)) 59)) := fun W => by
      have h := run_make (P := Tryz.prog) W 54 59 i0 _ Tryz.underlying54 hi hz0 .i64 .i64 (m : Int) (m : Int) (by omega) (by omega) (by rw [hz2]; omega) (by omega)
      rw [show ((m : Int)).toNat = m by omega, hz1] at h
      exact h
    obtain ⟨W2, hW⟩ : ∃ W2, W2 = w1.alloc (.cells (madeCells #[.int .i64 0, .int .i64 0, .int .i64 0, .int .i64 0, .slice none 0 0] (m * 5)) 59) := ⟨_, rfl⟩
    obtain ⟨g, hg⟩ : ∃ g, g = w1.heap.size := ⟨_, rfl⟩
    have b2 : Below w1.heap.size w1 W2 := by rw [hW]; exact bl_alloc (Below.refl _ _)
    have R0 : RowK kDeedE 5 59 m W2 g [] := by
      rw [hW, hg]
      exact RowK.new kDeedE 5 _ m w1 _ (by simp [madeCells])
    have HR := hid (hr1.step b2)
    have HN := hid (hn.trans (Rn.of b2))
    have hpg : p < g := by rw [hg]; exact World.block_lt_of_cell? _ _ hr1.c0
    have HGW : Hid (w.heap.size ≤ g) := by show w.heap.size ≤ g; rw [hg]; exact hn.size
    have HLT : Hid (p < g) := hpg
    have HW2 : Hid (w.heap.size ≤ W2.heap.size) := HN.out.size
    have HPG : Hid (g ≠ p) := by show g ≠ p; omega
    have HRow := hid R0
    have HG2 := hid (R0.lt)
    have HP2 : Hid (p < W2.heap.size) := Nat.lt_trans hpg R0.lt
    have EW := hid hW
    have EG := hid hg
    have E1 := hid e1
    have HML := hid hmle
    clear HP hp hr1 hn e1 hm hi hz0 hz1 hz2 hW hg b2 R0 hpg hmle
    go_wp2
    rw [← EW.out, ← EG.out]
    clear EW EG hmk
    go_loopw [12, 6] (fun q _ wr => ∃ (i u : Nat) (xs : List (DeedX × Value)), q = .int .i64 (i : Int) ∧ Hid (i ≤ m) ∧ Hid (xs.length = i) ∧ Hid (∀ y ∈ xs, DeedP W2 y wr) ∧ Hid (W2.heap.size ≤ wr.heap.size) ∧ Hid (behindL (xs.map (·.1)) (listR (deedR zs) (m - i) u) = listC zs (deedR zs) t) ∧ Hid (Rd p a c zs u wr) ∧ Hid (Rn p w wr) ∧ Hid (RowK kDeedE 5 59 m wr g xs)) (fun q _ _ => m - (intOf q).toNat)
    case atStart =>
      refine ⟨0, t1, [], rfl, Nat.zero_le _, rfl, fun x hx => (by simp at hx), Nat.le_refl _, ?_, HR, HN, HRow⟩
      show behindL [] (listR (deedR zs) m t1) = _
      rw [E1.out]
      cases listR (deedR zs) m t1 with
      | error e => rfl
      | ok y => rfl
    case round =>
      obtain ⟨i, u, xs, rfl, HI, HX, HWF, HS, HL, HR, HN, HRow⟩ := hrel
      by_cases hlt : i < m
      · have hli : (i : Int) < (m : Int) := by omega
        have HF := hid (rdeed HR.out)
        go_wp2_with fail
        refine HF.out.mono ?_
        rintro e w3 ⟨hn3, hr3⟩
        have hL := HL.out
        rw [show m - i = (m - i - 1) + 1 by omega] at hL
        cases hq : deedR zs u with
        | error e =>
          rw [behind_stop _ _ _ _ e hq] at hL
          rw [hq] at hr3
          obtain rfl := hr3
          exact panic_out (P := Tryz.prog) (fn := Tryz.f150) (by rw [← hL]; exact ⟨HN.out.trans hn3, rfl⟩) rfl
        | ok y =>
          obtain ⟨x, u'⟩ := y
          rw [behind_next _ _ _ _ x u' hq] at hL
          rw [hq] at hr3
          obtain ⟨_, rfl, ⟨ve0, rfl, hwf⟩, hr3⟩ := hr3
          have hwf : DeedP wr (x, ve0) w3 := hwf
          obtain ⟨b0, l0, c0, rfl⟩ := hwf.1.sl
          have row3 := HRow.out.rn hn3 HPG.out
          have hxl := HX.out
          have hb : i * 5 + 5 ≤ m * 5 := by omega
          obtain ⟨o0, k0⟩ := row3.some (o := i * 5) (by omega)
          obtain ⟨o1, k1⟩ := row3.some (o := i * 5 + 1) (by omega)
          obtain ⟨o2, k2⟩ := row3.some (o := i * 5 + 2) (by omega)
          obtain ⟨o3, k3⟩ := row3.some (o := i * 5 + 3) (by omega)
          obtain ⟨o4, k4⟩ := row3.some (o := i * 5 + 4) (by omega)
          have z0 := row3.fz (i * 5)
          have z1 := row3.fz (i * 5 + 1)
          have z2 := row3.fz (i * 5 + 2)
          have z3 := row3.fz (i * 5 + 3)
          have z4 := row3.fz (i * 5 + 4)
          have kl := row3.lt
          have p1 := row3.put (fun _ => rfl) (i * 5) (.int .i64 x.kind) (by omega) (by omega)
          have p2 := p1.1.put (fun _ => rfl) (i * 5 + 1) (.int .i64 x.h) (by omega) (by omega)
          have p3 := p2.1.put (fun _ => rfl) (i * 5 + 2) (.int .i64 x.f) (by omega) (by omega)
          have p4 := p3.1.put (fun _ => rfl) (i * 5 + 3) (.int .i64 x.head) (by omega) (by omega)
          have p5 := p4.1.put (fun _ => rfl) (i * 5 + 4) (.slice b0 l0 c0) (by omega) (by omega)
          have HR4 := hid (((((hr3.put_far HLT.out (i * 5) (.int .i64 x.kind)).put_far HLT.out (i * 5 + 1) (.int .i64 x.h)).put_far HLT.out (i * 5 + 2) (.int .i64 x.f)).put_far HLT.out (i * 5 + 3) (.int .i64 x.head)).put_far HLT.out (i * 5 + 4) (.slice b0 l0 c0))
          have HN4 := hid ((((((HN.out.trans hn3).put_new HGW.out (i * 5) (.int .i64 x.kind)).put_new HGW.out (i * 5 + 1) (.int .i64 x.h)).put_new HGW.out (i * 5 + 2) (.int .i64 x.f)).put_new HGW.out (i * 5 + 3) (.int .i64 x.head)).put_new HGW.out (i * 5 + 4) (.slice b0 l0 c0))
          have HRow4 : Hid (RowK kDeedE 5 59 m (((((w3.setCell ⟨g, i * 5, none⟩ (.int .i64 x.kind)).setCell ⟨g, i * 5 + 1, none⟩ (.int .i64 x.h)).setCell ⟨g, i * 5 + 2, none⟩ (.int .i64 x.f)).setCell ⟨g, i * 5 + 3, none⟩ (.int .i64 x.head)).setCell ⟨g, i * 5 + 4, none⟩ (.slice b0 l0 c0)) g (xs ++ [(x, (Value.slice b0 l0 c0))])) := by
            refine p5.1.more (x, (Value.slice b0 l0 c0)) fun l u hu => ?_
            rw [hxl]
            match l, hu with
            | 0, hu => cases hu; exact ((World.cell?_setCell_other _ _ _ _ (by intro e; simp only [Addr.mk.injEq] at e; omega)).trans ((World.cell?_setCell_other _ _ _ _ (by intro e; simp only [Addr.mk.injEq] at e; omega)).trans ((World.cell?_setCell_other _ _ _ _ (by intro e; simp only [Addr.mk.injEq] at e; omega)).trans ((World.cell?_setCell_other _ _ _ _ (by intro e; simp only [Addr.mk.injEq] at e; omega)).trans p1.2))))
            | 1, hu => cases hu; exact ((World.cell?_setCell_other _ _ _ _ (by intro e; simp only [Addr.mk.injEq] at e; omega)).trans ((World.cell?_setCell_other _ _ _ _ (by intro e; simp only [Addr.mk.injEq] at e; omega)).trans ((World.cell?_setCell_other _ _ _ _ (by intro e; simp only [Addr.mk.injEq] at e; omega)).trans p2.2)))
            | 2, hu => cases hu; exact ((World.cell?_setCell_other _ _ _ _ (by intro e; simp only [Addr.mk.injEq] at e; omega)).trans ((World.cell?_setCell_other _ _ _ _ (by intro e; simp only [Addr.mk.injEq] at e; omega)).trans p3.2))
            | 3, hu => cases hu; exact ((World.cell?_setCell_other _ _ _ _ (by intro e; simp only [Addr.mk.injEq] at e; omega)).trans p4.2)
            | 4, hu => cases hu; exact p5.2
          have HS4 : Hid (W2.heap.size ≤ (((((w3.setCell ⟨g, i * 5, none⟩ (.int .i64 x.kind)).setCell ⟨g, i * 5 + 1, none⟩ (.int .i64 x.h)).setCell ⟨g, i * 5 + 2, none⟩ (.int .i64 x.f)).setCell ⟨g, i * 5 + 3, none⟩ (.int .i64 x.head)).setCell ⟨g, i * 5 + 4, none⟩ (.slice b0 l0 c0)).heap.size) := by
            have h1 : W2.heap.size ≤ w3.heap.size := Nat.le_trans HS.out hn3.size
            show W2.heap.size ≤ (((((w3.setCell ⟨g, i * 5, none⟩ (.int .i64 x.kind)).setCell ⟨g, i * 5 + 1, none⟩ (.int .i64 x.h)).setCell ⟨g, i * 5 + 2, none⟩ (.int .i64 x.f)).setCell ⟨g, i * 5 + 3, none⟩ (.int .i64 x.head)).setCell ⟨g, i * 5 + 4, none⟩ (.slice b0 l0 c0)).heap.size
            simpa [World.setCell] using h1
          have HWF4 : Hid (∀ y ∈ xs ++ [(x, (Value.slice b0 l0 c0))], DeedP W2 y (((((w3.setCell ⟨g, i * 5, none⟩ (.int .i64 x.kind)).setCell ⟨g, i * 5 + 1, none⟩ (.int .i64 x.h)).setCell ⟨g, i * 5 + 2, none⟩ (.int .i64 x.f)).setCell ⟨g, i * 5 + 3, none⟩ (.int .i64 x.head)).setCell ⟨g, i * 5 + 4, none⟩ (.slice b0 l0 c0))) := fun y hy => by
            have HH : DeedP W2 y w3 := by
              rcases List.mem_append.1 hy with h | h
              · exact (HWF.out y h).keep (rn_keep hn3 HP2.out)
              · simp only [List.mem_cons, List.not_mem_nil, or_false] at h; rw [h]; exact hwf.low HS.out
            exact (((((HH.keep (set_keep HG2.out (i * 5) (.int .i64 x.kind))).keep (set_keep HG2.out (i * 5 + 1) (.int .i64 x.h))).keep (set_keep HG2.out (i * 5 + 2) (.int .i64 x.f))).keep (set_keep HG2.out (i * 5 + 3) (.int .i64 x.head))).keep (set_keep HG2.out (i * 5 + 4) (.slice b0 l0 c0)))
          have HL4 : Hid (behindL ((xs ++ [(x, (Value.slice b0 l0 c0))]).map (·.1)) (listR (deedR zs) (m - (i + 1)) u') = listC zs (deedR zs) t) := by
            show _ = _
            rw [← hL, show m - (i + 1) = m - i - 1 by omega, List.map_append]; rfl
          have HX4 : Hid ((xs ++ [(x, (Value.slice b0 l0 c0))]).length = i + 1) := by show _ = _; rw [List.length_append, HX.out]; rfl
          have hml := HML.out
          clear HF hn3 hr3 hL hq row3 HL HX HWF HRow HR HN hwf p1 p2 p3 p4 p5 hxl HS
          go_wp2
          go_roundw
          case rel => exact ⟨i + 1, u', xs ++ [(x, (Value.slice b0 l0 c0))], vint (by omega), hid hlt, HX4, HWF4, HS4, HL4, HR4, HN4, HRow4⟩
          case measure => simp [intOf]; omega
      · have hli : ¬ (i : Int) < (m : Int) := by omega
        have e3 : m - i = 0 := by omega
        have HE : Hid (RDone p a c zs (DeedsV w) (listC zs (deedR zs) t) w (.returned (.slice (some ⟨g, 0, none⟩) m m)) wr) := by
          show RDone _ _ _ _ _ _ _ _ _
          rw [← HL.out, e3]
          have hxl : xs.length = m := by have h1 := HX.out; have h2 := HI.out; omega
          have hrow := HRow.out
          refine ⟨HN.out, _, rfl, ⟨g, xs, ?_, HGW.out, ?_, ?_, ?_⟩, HR.out⟩
          · rw [List.append_nil, List.length_map, hxl]
          · rw [List.append_nil]
          · rw [List.append_nil, List.length_map, hxl]; exact hrow
          · exact fun y hy => (HWF.out y hy).low HW2.out
        clear HL HX HWF HRow HR HN
        go_wp2
        go_ret
        exact HE.out
theorem Tryz.infoHeadR : (Tryz.prog.info? 53).map (fun i => (i.zero, i.size, i.bytes)) = some (some (.agg #[.slice none 0 0]), 1, 24) := by kernel_rfl
def kHeadE (y : (List Int) × Value) : List Value := [y.2]
def HeadP (w : World) (y : (List Int) × Value) (w' : World) : Prop := IntsV w y.1 w' y.2
theorem HeadP.keep {w w1 w2 : World} {y : (List Int) × Value} (h : HeadP w y w1) (hb : ∀ g, w.heap.size ≤ g → w2.heap[g]? = w1.heap[g]? ∨ w1.heap.size ≤ g) : HeadP w y w2 := by
  have h0 : IntsV _ _ _ _ := h
  exact h0.keep hb
theorem HeadP.low {w w0 w1 : World} {y : (List Int) × Value} (h : HeadP w y w1) (hb : w0.heap.size ≤ w.heap.size) : HeadP w0 y w1 := by
  have h0 : IntsV _ _ _ _ := h
  exact h0.low hb
def HeadsV (w : World) (xs : List (List Int)) (w' : World) (v : Value) : Prop := ∃ g, ∃ ys : List ((List Int) × Value), v = .slice (some ⟨g, 0, none⟩) xs.length xs.length ∧ w.heap.size ≤ g ∧ ys.map (·.1) = xs ∧ RowK kHeadE 1 53 xs.length w' g ys ∧ ∀ y ∈ ys, HeadP w y w'
set_option maxHeartbeats 4000000 in
set_option maxRecDepth 20000 in
theorem rlist_head {p : Nat} {a : Option Addr} {c : Nat} {zs : List Int} {t : Nat} {w : World} (h : Rd p a c zs t w) :
    Calls Tryz.prog 113 #[.pointer (some ⟨p, 0, none⟩), .func (.func 114) #[.pointer (some ⟨p, 0, none⟩)] #[]] w (RDone p a c zs (HeadsV w) (listC zs (listC zs (numR zs)) t) w) := by
  have HP := hid (rcount h)
  clear h
  go_enter Tryz.func113, Tryz.ntmps113
  go_wp2_with fail
  refine HP.out.mono ?_
  rintro e w1 ⟨hn, hr⟩
  cases hp : cntR zs t with
  | error e =>
    have e1 : listC zs (listC zs (numR zs)) t = .error e := by unfold listC; rw [hp]
    rw [hp] at hr
    obtain rfl := hr
    exact panic_out (P := Tryz.prog) (fn := Tryz.f113) (by rw [e1]; exact ⟨hn, rfl⟩) rfl
  | ok x =>
    obtain ⟨m, t1⟩ := x
    have e1 : listC zs (listC zs (numR zs)) t = listR (listC zs (numR zs)) m t1 := by unfold listC; rw [hp]
    rw [hp] at hr
    obtain ⟨_, rfl, ⟨rfl, hm⟩, hr1⟩ := hr
    obtain ⟨i0, hi, hz0, hz1, hz2⟩ := info_parts Tryz.infoHeadR
    have hmle : m ≤ 100000 := Nat.le_trans hm hr1.few
    have hmk : ∀ W : World, (Instr.makeSlice 22 (.int .i64 (m : Int)) (.int .i64 (m : Int))).run Tryz.prog W = .ok (.slice (some ⟨W.heap.size, 0, none⟩) m m) (W.alloc (.cells (madeCells #[.slice none 0 0] m) 53)) := fun W => by
      have h := run_make (P := Tryz.prog) W 22 53 i0 _ Tryz.underlying22 hi hz0 .i64 .i64 (m : Int) (m : Int) (by omega) (by omega) (by rw [hz2]; omega) (by omega)
      rw [show ((m : Int)).toNat = m by omega, hz1, Nat.mul_one] at h
      exact h
    obtain ⟨W2, hW⟩ : ∃ W2, W2 = w1.alloc (.cells (madeCells #[.slice none 0 0] m) 53) := ⟨_, rfl⟩
    obtain ⟨g, hg⟩ : ∃ g, g = w1.heap.size := ⟨_, rfl⟩
    have b2 : Below w1.heap.size w1 W2 := by rw [hW]; exact bl_alloc (Below.refl _ _)
    have R0 : RowK kHeadE 1 53 m W2 g [] := by
      rw [hW, hg]
      exact RowK.new kHeadE 1 _ m w1 _ (by simp [madeCells])
    have HR := hid (hr1.step b2)
    have HN := hid (hn.trans (Rn.of b2))
    have hpg : p < g := by rw [hg]; exact World.block_lt_of_cell? _ _ hr1.c0
    have HGW : Hid (w.heap.size ≤ g) := by show w.heap.size ≤ g; rw [hg]; exact hn.size
    have HLT : Hid (p < g) := hpg
    have HW2 : Hid (w.heap.size ≤ W2.heap.size) := HN.out.size
    have HPG : Hid (g ≠ p) := by show g ≠ p; omega
    have HRow := hid R0
    have HG2 := hid (R0.lt)
    have HP2 : Hid (p < W2.heap.size) := Nat.lt_trans hpg R0.lt
    have EW := hid hW
    have EG := hid hg
    have E1 := hid e1
    have HML := hid hmle
    clear HP hp hr1 hn e1 hm hi hz0 hz1 hz2 hW hg b2 R0 hpg hmle
    go_wp2
    rw [← EW.out, ← EG.out]
    clear EW EG hmk
    go_loopw [12, 6] (fun q _ wr => ∃ (i u : Nat) (xs : List ((List Int) × Value)), q = .int .i64 (i : Int) ∧ Hid (i ≤ m) ∧ Hid (xs.length = i) ∧ Hid (∀ y ∈ xs, HeadP W2 y wr) ∧ Hid (W2.heap.size ≤ wr.heap.size) ∧ Hid (behindL (xs.map (·.1)) (listR (listC zs (numR zs)) (m - i) u) = listC zs (listC zs (numR zs)) t) ∧ Hid (Rd p a c zs u wr) ∧ Hid (Rn p w wr) ∧ Hid (RowK kHeadE 1 53 m wr g xs)) (fun q _ _ => m - (intOf q).toNat)
    case atStart =>
      refine ⟨0, t1, [], rfl, Nat.zero_le _, rfl, fun x hx => (by simp at hx), Nat.le_refl _, ?_, HR, HN, HRow⟩
      show behindL [] (listR (listC zs (numR zs)) m t1) = _
      rw [E1.out]
      cases listR (listC zs (numR zs)) m t1 with
      | error e => rfl
      | ok y => rfl
    case round =>
      obtain ⟨i, u, xs, rfl, HI, HX, HWF, HS, HL, HR, HN, HRow⟩ := hrel
      by_cases hlt : i < m
      · have hli : (i : Int) < (m : Int) := by omega
        have HF := hid (rheader HR.out)
        go_wp2_with fail
        refine HF.out.mono ?_
        rintro e w3 ⟨hn3, hr3⟩
        have hL := HL.out
        rw [show m - i = (m - i - 1) + 1 by omega] at hL
        cases hq : listC zs (numR zs) u with
        | error e =>
          rw [behind_stop _ _ _ _ e hq] at hL
          rw [hq] at hr3
          obtain rfl := hr3
          exact panic_out (P := Tryz.prog) (fn := Tryz.f113) (by rw [← hL]; exact ⟨HN.out.trans hn3, rfl⟩) rfl
        | ok y =>
          obtain ⟨x, u'⟩ := y
          rw [behind_next _ _ _ _ x u' hq] at hL
          rw [hq] at hr3
          obtain ⟨_, rfl, ⟨ve0, rfl, hwf⟩, hr3⟩ := hr3
          have hwf : HeadP wr (x, ve0) w3 := hwf
          obtain ⟨b0, l0, c0, rfl⟩ := hwf.sl
          have row3 := HRow.out.rn hn3 HPG.out
          have hxl := HX.out
          have hb : i * 1 + 1 ≤ m * 1 := by omega
          obtain ⟨o0, k0⟩ := row3.some (o := i) (by omega)
          have z0 := row3.fz (i)
          have kl := row3.lt
          have p1 := row3.put (fun _ => rfl) (i) (.slice b0 l0 c0) (by omega) (by omega)
          have HR4 := hid (hr3.put_far HLT.out (i) (.slice b0 l0 c0))
          have HN4 := hid ((HN.out.trans hn3).put_new HGW.out (i) (.slice b0 l0 c0))
          have HRow4 : Hid (RowK kHeadE 1 53 m (w3.setCell ⟨g, i, none⟩ (.slice b0 l0 c0)) g (xs ++ [(x, (Value.slice b0 l0 c0))])) := by
            refine p1.1.more (x, (Value.slice b0 l0 c0)) fun l u hu => ?_
            rw [hxl, Nat.mul_one]
            match l, hu with
            | 0, hu => cases hu; exact p1.2
          have HS4 : Hid (W2.heap.size ≤ (w3.setCell ⟨g, i, none⟩ (.slice b0 l0 c0)).heap.size) := by
            have h1 : W2.heap.size ≤ w3.heap.size := Nat.le_trans HS.out hn3.size
            show W2.heap.size ≤ (w3.setCell ⟨g, i, none⟩ (.slice b0 l0 c0)).heap.size
            simpa [World.setCell] using h1
          have HWF4 : Hid (∀ y ∈ xs ++ [(x, (Value.slice b0 l0 c0))], HeadP W2 y (w3.setCell ⟨g, i, none⟩ (.slice b0 l0 c0))) := fun y hy => by
            have HH : HeadP W2 y w3 := by
              rcases List.mem_append.1 hy with h | h
              · exact (HWF.out y h).keep (rn_keep hn3 HP2.out)
              · simp only [List.mem_cons, List.not_mem_nil, or_false] at h; rw [h]; exact hwf.low HS.out
            exact (HH.keep (set_keep HG2.out (i) (.slice b0 l0 c0)))
          have HL4 : Hid (behindL ((xs ++ [(x, (Value.slice b0 l0 c0))]).map (·.1)) (listR (listC zs (numR zs)) (m - (i + 1)) u') = listC zs (listC zs (numR zs)) t) := by
            show _ = _
            rw [← hL, show m - (i + 1) = m - i - 1 by omega, List.map_append]; rfl
          have HX4 : Hid ((xs ++ [(x, (Value.slice b0 l0 c0))]).length = i + 1) := by show _ = _; rw [List.length_append, HX.out]; rfl
          have hml := HML.out
          clear HF hn3 hr3 hL hq row3 HL HX HWF HRow HR HN hwf p1 hxl HS
          go_wp2
          go_roundw
          case rel => exact ⟨i + 1, u', xs ++ [(x, (Value.slice b0 l0 c0))], vint (by omega), hid hlt, HX4, HWF4, HS4, HL4, HR4, HN4, HRow4⟩
          case measure => simp [intOf]; omega
      · have hli : ¬ (i : Int) < (m : Int) := by omega
        have e3 : m - i = 0 := by omega
        have HE : Hid (RDone p a c zs (HeadsV w) (listC zs (listC zs (numR zs)) t) w (.returned (.slice (some ⟨g, 0, none⟩) m m)) wr) := by
          show RDone _ _ _ _ _ _ _ _ _
          rw [← HL.out, e3]
          have hxl : xs.length = m := by have h1 := HX.out; have h2 := HI.out; omega
          have hrow := HRow.out
          refine ⟨HN.out, _, rfl, ⟨g, xs, ?_, HGW.out, ?_, ?_, ?_⟩, HR.out⟩
          · rw [List.append_nil, List.length_map, hxl]
          · rw [List.append_nil]
          · rw [List.append_nil, List.length_map, hxl]; exact hrow
          · exact fun y hy => (HWF.out y hy).low HW2.out
        clear HL HX HWF HRow HR HN
        go_wp2
        go_ret
        exact HE.out
theorem Tryz.infoTabR : (Tryz.prog.info? 63).map (fun i => (i.zero, i.size, i.bytes)) = some (some (.agg #[.int .i64 0, .slice none 0 0, .slice none 0 0, .int .i64 0, .int .i64 0, .slice none 0 0]), 6, 96) := by kernel_rfl
def kTabE (y : TabX × Value × Value × Value) : List Value := [.int .i64 y.1.kind, y.2.1, y.2.2.1, .int .i64 y.1.cap, .int .i64 y.1.dflt, y.2.2.2]
def TabP (w : World) (y : TabX × Value × Value × Value) (w' : World) : Prop := RefsV w y.1.keys w' y.2.1 ∧ IntsV w y.1.acts w' y.2.2.1 ∧ NumsV w y.1.args w' y.2.2.2 ∧ (Lit.int .i64 y.1.kind).wf = true ∧ (Lit.int .i64 y.1.cap).wf = true ∧ (Lit.int .i64 y.1.dflt).wf = true
theorem TabP.keep {w w1 w2 : World} {y : TabX × Value × Value × Value} (h : TabP w y w1) (hb : ∀ g, w.heap.size ≤ g → w2.heap[g]? = w1.heap[g]? ∨ w1.heap.size ≤ g) : TabP w y w2 := by
  obtain ⟨h0, h1, h2, hr⟩ := h
  exact ⟨h0.keep hb, h1.keep hb, h2.keep hb, hr⟩
theorem TabP.low {w w0 w1 : World} {y : TabX × Value × Value × Value} (h : TabP w y w1) (hb : w0.heap.size ≤ w.heap.size) : TabP w0 y w1 := by
  obtain ⟨h0, h1, h2, hr⟩ := h
  exact ⟨h0.low hb, h1.low hb, h2.low hb, hr⟩
def TabsV (w : World) (xs : List TabX) (w' : World) (v : Value) : Prop := ∃ g, ∃ ys : List (TabX × Value × Value × Value), v = .slice (some ⟨g, 0, none⟩) xs.length xs.length ∧ w.heap.size ≤ g ∧ ys.map (·.1) = xs ∧ RowK kTabE 6 63 xs.length w' g ys ∧ ∀ y ∈ ys, TabP w y w'
set_option maxHeartbeats 4000000 in
set_option maxRecDepth 20000 in
theorem rlist_tab {p : Nat} {a : Option Addr} {c : Nat} {zs : List Int} {t : Nat} {w : World} (h : Rd p a c zs t w) :
    Calls Tryz.prog 121 #[.pointer (some ⟨p, 0, none⟩), .func (.func 122) #[.pointer (some ⟨p, 0, none⟩)] #[]] w (RDone p a c zs (TabsV w) (listC zs (tabR zs) t) w) := by
  have HP := hid (rcount h)
  clear h
  go_enter Tryz.func121, Tryz.ntmps121
  go_wp2_with fail
  refine HP.out.mono ?_
  rintro e w1 ⟨hn, hr⟩
  cases hp : cntR zs t with
  | error e =>
    have e1 : listC zs (tabR zs) t = .error e := by unfold listC; rw [hp]
    rw [hp] at hr
    obtain rfl := hr
    exact panic_out (P := Tryz.prog) (fn := Tryz.f121) (by rw [e1]; exact ⟨hn, rfl⟩) rfl
  | ok x =>
    obtain ⟨m, t1⟩ := x
    have e1 : listC zs (tabR zs) t = listR (tabR zs) m t1 := by unfold listC; rw [hp]
    rw [hp] at hr
    obtain ⟨_, rfl, ⟨rfl, hm⟩, hr1⟩ := hr
    obtain ⟨i0, hi, hz0, hz1, hz2⟩ := info_parts Tryz.infoTabR
    have hmle : m ≤ 100000 := Nat.le_trans hm hr1.few
    have hmk : ∀ W : World, (Instr.makeSlice 26 (.int .i64 (m : Int)) (.int .i64 (m : Int))).run Tryz.prog W = .ok (.slice (some ⟨W.heap.size, 0, none⟩) m m) (W.alloc (.cells (madeCells #[.int .i64 0, .slice none 0 0, .slice none 0 0, .int .i64 0, .int .i64 0, .slice none 0 0] (m * 6)) 63)) := fun W => by
      have h := run_make (P := Tryz.prog) W 26 63 i0 _ Tryz.underlying26 hi hz0 .i64 .i64 (m : Int) (m : Int) (by omega) (by omega) (by rw [hz2]; omega) (by omega)
      rw [show ((m : Int)).toNat = m by omega, hz1] at h
      exact h
    obtain ⟨W2, hW⟩ : ∃ W2, W2 = w1.alloc (.cells (madeCells #[.int .i64 0, .slice none 0 0, .slice none 0 0, .int .i64 0, .int .i64 0, .slice none 0 0] (m * 6)) 63) := ⟨_, rfl⟩
    obtain ⟨g, hg⟩ : ∃ g, g = w1.heap.size := ⟨_, rfl⟩
    have b2 : Below w1.heap.size w1 W2 := by rw [hW]; exact bl_alloc (Below.refl _ _)
    have R0 : RowK kTabE 6 63 m W2 g [] := by
      rw [hW, hg]
      exact RowK.new kTabE 6 _ m w1 _ (by simp [madeCells])
    have HR := hid (hr1.step b2)
    have HN := hid (hn.trans (Rn.of b2))
    have hpg : p < g := by rw [hg]; exact World.block_lt_of_cell? _ _ hr1.c0
    have HGW : Hid (w.heap.size ≤ g) := by show w.heap.size ≤ g; rw [hg]; exact hn.size
    have HLT : Hid (p < g) := hpg
    have HW2 : Hid (w.heap.size ≤ W2.heap.size) := HN.out.size
    have HPG : Hid (g ≠ p) := by show g ≠ p; omega
    have HRow := hid R0
    have HG2 := hid (R0.lt)
    have HP2 : Hid (p < W2.heap.size) := Nat.lt_trans hpg R0.lt
    have EW := hid hW
    have EG := hid hg
    have E1 := hid e1
    have HML := hid hmle
    clear HP hp hr1 hn e1 hm hi hz0 hz1 hz2 hW hg b2 R0 hpg hmle
    go_wp2
    rw [← EW.out, ← EG.out]
    clear EW EG hmk
    go_loopw [12, 6] (fun q _ wr => ∃ (i u : Nat) (xs : List (TabX × Value × Value × Value)), q = .int .i64 (i : Int) ∧ Hid (i ≤ m) ∧ Hid (xs.length = i) ∧ Hid (∀ y ∈ xs, TabP W2 y wr) ∧ Hid (W2.heap.size ≤ wr.heap.size) ∧ Hid (behindL (xs.map (·.1)) (listR (tabR zs) (m - i) u) = listC zs (tabR zs) t) ∧ Hid (Rd p a c zs u wr) ∧ Hid (Rn p w wr) ∧ Hid (RowK kTabE 6 63 m wr g xs)) (fun q _ _ => m - (intOf q).toNat)
    case atStart =>
      refine ⟨0, t1, [], rfl, Nat.zero_le _, rfl, fun x hx => (by simp at hx), Nat.le_refl _, ?_, HR, HN, HRow⟩
      show behindL [] (listR (tabR zs) m t1) = _
      rw [E1.out]
      cases listR (tabR zs) m t1 with
      | error e => rfl
      | ok y => rfl
    case round =>
      obtain ⟨i, u, xs, rfl, HI, HX, HWF, HS, HL, HR, HN, HRow⟩ := hrel
      by_cases hlt : i < m
      · have hli : (i : Int) < (m : Int) := by omega
        have HF := hid (rtable HR.out)
        go_wp2_with fail
        refine HF.out.mono ?_
        rintro e w3 ⟨hn3, hr3⟩
        have hL := HL.out
        rw [show m - i = (m - i - 1) + 1 by omega] at hL
        cases hq : tabR zs u with
        | error e =>
          rw [behind_stop _ _ _ _ e hq] at hL
          rw [hq] at hr3
          obtain rfl := hr3
          exact panic_out (P := Tryz.prog) (fn := Tryz.f121) (by rw [← hL]; exact ⟨HN.out.trans hn3, rfl⟩) rfl
        | ok y =>
          obtain ⟨x, u'⟩ := y
          rw [behind_next _ _ _ _ x u' hq] at hL
          rw [hq] at hr3
          obtain ⟨_, rfl, ⟨ve0, ve1, ve2, rfl, hwf⟩, hr3⟩ := hr3
          have hwf : TabP wr (x, ve0, ve1, ve2) w3 := hwf
          obtain ⟨b0, l0, c0, rfl⟩ := hwf.1.sl
          obtain ⟨b1, l1, c1, rfl⟩ := hwf.2.1.sl
          obtain ⟨b2, l2, c2, rfl⟩ := hwf.2.2.1.sl
          have row3 := HRow.out.rn hn3 HPG.out
          have hxl := HX.out
          have hb : i * 6 + 6 ≤ m * 6 := by omega
          obtain ⟨o0, k0⟩ := row3.some (o := i * 6) (by omega)
          obtain ⟨o1, k1⟩ := row3.some (o := i * 6 + 1) (by omega)
          obtain ⟨o2, k2⟩ := row3.some (o := i * 6 + 2) (by omega)
          obtain ⟨o3, k3⟩ := row3.some (o := i * 6 + 3) (by omega)
          obtain ⟨o4, k4⟩ := row3.some (o := i * 6 + 4) (by omega)
          obtain ⟨o5, k5⟩ := row3.some (o := i * 6 + 5) (by omega)
          have z0 := row3.fz (i * 6)
          have z1 := row3.fz (i * 6 + 1)
          have z2 := row3.fz (i * 6 + 2)
          have z3 := row3.fz (i * 6 + 3)
          have z4 := row3.fz (i * 6 + 4)
          have z5 := row3.fz (i * 6 + 5)
          have kl := row3.lt
          have p1 := row3.put (fun _ => rfl) (i * 6) (.int .i64 x.kind) (by omega) (by omega)
          have p2 := p1.1.put (fun _ => rfl) (i * 6 + 1) (.slice b0 l0 c0) (by omega) (by omega)
          have p3 := p2.1.put (fun _ => rfl) (i * 6 + 2) (.slice b1 l1 c1) (by omega) (by omega)
          have p4 := p3.1.put (fun _ => rfl) (i * 6 + 3) (.int .i64 x.cap) (by omega) (by omega)
          have p5 := p4.1.put (fun _ => rfl) (i * 6 + 4) (.int .i64 x.dflt) (by omega) (by omega)
          have p6 := p5.1.put (fun _ => rfl) (i * 6 + 5) (.slice b2 l2 c2) (by omega) (by omega)
          have HR4 := hid ((((((hr3.put_far HLT.out (i * 6) (.int .i64 x.kind)).put_far HLT.out (i * 6 + 1) (.slice b0 l0 c0)).put_far HLT.out (i * 6 + 2) (.slice b1 l1 c1)).put_far HLT.out (i * 6 + 3) (.int .i64 x.cap)).put_far HLT.out (i * 6 + 4) (.int .i64 x.dflt)).put_far HLT.out (i * 6 + 5) (.slice b2 l2 c2))
          have HN4 := hid (((((((HN.out.trans hn3).put_new HGW.out (i * 6) (.int .i64 x.kind)).put_new HGW.out (i * 6 + 1) (.slice b0 l0 c0)).put_new HGW.out (i * 6 + 2) (.slice b1 l1 c1)).put_new HGW.out (i * 6 + 3) (.int .i64 x.cap)).put_new HGW.out (i * 6 + 4) (.int .i64 x.dflt)).put_new HGW.out (i * 6 + 5) (.slice b2 l2 c2))
          have HRow4 : Hid (RowK kTabE 6 63 m ((((((w3.setCell ⟨g, i * 6, none⟩ (.int .i64 x.kind)).setCell ⟨g, i * 6 + 1, none⟩ (.slice b0 l0 c0)).setCell ⟨g, i * 6 + 2, none⟩ (.slice b1 l1 c1)).setCell ⟨g, i * 6 + 3, none⟩ (.int .i64 x.cap)).setCell ⟨g, i * 6 + 4, none⟩ (.int .i64 x.dflt)).setCell ⟨g, i * 6 + 5, none⟩ (.slice b2 l2 c2)) g (xs ++ [(x, (Value.slice b0 l0 c0), (Value.slice b1 l1 c1), (Value.slice b2 l2 c2))])) := by
            refine p6.1.more (x, (Value.slice b0 l0 c0), (Value.slice b1 l1 c1), (Value.slice b2 l2 c2)) fun l u hu => ?_
            rw [hxl]
            match l, hu with
            | 0, hu => cases hu; exact ((World.cell?_setCell_other _ _ _ _ (by intro e; simp only [Addr.mk.injEq] at e; omega)).trans ((World.cell?_setCell_other _ _ _ _ (by intro e; simp only [Addr.mk.injEq] at e; omega)).trans ((World.cell?_setCell_other _ _ _ _ (by intro e; simp only [Addr.mk.injEq] at e; omega)).trans ((World.cell?_setCell_other _ _ _ _ (by intro e; simp only [Addr.mk.injEq] at e; omega)).trans ((World.cell?_setCell_other _ _ _ _ (by intro e; simp only [Addr.mk.injEq] at e; omega)).trans p1.2)))))
            | 1, hu => cases hu; exact ((World.cell?_setCell_other _ _ _ _ (by intro e; simp only [Addr.mk.injEq] at e; omega)).trans ((World.cell?_setCell_other _ _ _ _ (by intro e; simp only [Addr.mk.injEq] at e; omega)).trans ((World.cell?_setCell_other _ _ _ _ (by intro e; simp only [Addr.mk.injEq] at e; omega)).trans ((World.cell?_setCell_other _ _ _ _ (by intro e; simp only [Addr.mk.injEq] at e; omega)).trans p2.2))))
            | 2, hu => cases hu; exact ((World.cell?_setCell_other _ _ _ _ (by intro e; simp only [Addr.mk.injEq] at e; omega)).trans ((World.cell?_setCell_other _ _ _ _ (by intro e; simp only [Addr.mk.injEq] at e; omega)).trans ((World.cell?_setCell_other _ _ _ _ (by intro e; simp only [Addr.mk.injEq] at e; omega)).trans p3.2)))
            | 3, hu => cases hu; exact ((World.cell?_setCell_other _ _ _ _ (by intro e; simp only [Addr.mk.injEq] at e; omega)).trans ((World.cell?_setCell_other _ _ _ _ (by intro e; simp only [Addr.mk.injEq] at e; omega)).trans p4.2))
            | 4, hu => cases hu; exact ((World.cell?_setCell_other _ _ _ _ (by intro e; simp only [Addr.mk.injEq] at e; omega)).trans p5.2)
            | 5, hu => cases hu; exact p6.2
          have HS4 : Hid (W2.heap.size ≤ ((((((w3.setCell ⟨g, i * 6, none⟩ (.int .i64 x.kind)).setCell ⟨g, i * 6 + 1, none⟩ (.slice b0 l0 c0)).setCell ⟨g, i * 6 + 2, none⟩ (.slice b1 l1 c1)).setCell ⟨g, i * 6 + 3, none⟩ (.int .i64 x.cap)).setCell ⟨g, i * 6 + 4, none⟩ (.int .i64 x.dflt)).setCell ⟨g, i * 6 + 5, none⟩ (.slice b2 l2 c2)).heap.size) := by
            have h1 : W2.heap.size ≤ w3.heap.size := Nat.le_trans HS.out hn3.size
            show W2.heap.size ≤ ((((((w3.setCell ⟨g, i * 6, none⟩ (.int .i64 x.kind)).setCell ⟨g, i * 6 + 1, none⟩ (.slice b0 l0 c0)).setCell ⟨g, i * 6 + 2, none⟩ (.slice b1 l1 c1)).setCell ⟨g, i * 6 + 3, none⟩ (.int .i64 x.cap)).setCell ⟨g, i * 6 + 4, none⟩ (.int .i64 x.dflt)).setCell ⟨g, i * 6 + 5, none⟩ (.slice b2 l2 c2)).heap.size
            simpa [World.setCell] using h1
          have HWF4 : Hid (∀ y ∈ xs ++ [(x, (Value.slice b0 l0 c0), (Value.slice b1 l1 c1), (Value.slice b2 l2 c2))], TabP W2 y ((((((w3.setCell ⟨g, i * 6, none⟩ (.int .i64 x.kind)).setCell ⟨g, i * 6 + 1, none⟩ (.slice b0 l0 c0)).setCell ⟨g, i * 6 + 2, none⟩ (.slice b1 l1 c1)).setCell ⟨g, i * 6 + 3, none⟩ (.int .i64 x.cap)).setCell ⟨g, i * 6 + 4, none⟩ (.int .i64 x.dflt)).setCell ⟨g, i * 6 + 5, none⟩ (.slice b2 l2 c2))) := fun y hy => by
            have HH : TabP W2 y w3 := by
              rcases List.mem_append.1 hy with h | h
              · exact (HWF.out y h).keep (rn_keep hn3 HP2.out)
              · simp only [List.mem_cons, List.not_mem_nil, or_false] at h; rw [h]; exact hwf.low HS.out
            exact ((((((HH.keep (set_keep HG2.out (i * 6) (.int .i64 x.kind))).keep (set_keep HG2.out (i * 6 + 1) (.slice b0 l0 c0))).keep (set_keep HG2.out (i * 6 + 2) (.slice b1 l1 c1))).keep (set_keep HG2.out (i * 6 + 3) (.int .i64 x.cap))).keep (set_keep HG2.out (i * 6 + 4) (.int .i64 x.dflt))).keep (set_keep HG2.out (i * 6 + 5) (.slice b2 l2 c2)))
          have HL4 : Hid (behindL ((xs ++ [(x, (Value.slice b0 l0 c0), (Value.slice b1 l1 c1), (Value.slice b2 l2 c2))]).map (·.1)) (listR (tabR zs) (m - (i + 1)) u') = listC zs (tabR zs) t) := by
            show _ = _
            rw [← hL, show m - (i + 1) = m - i - 1 by omega, List.map_append]; rfl
          have HX4 : Hid ((xs ++ [(x, (Value.slice b0 l0 c0), (Value.slice b1 l1 c1), (Value.slice b2 l2 c2))]).length = i + 1) := by show _ = _; rw [List.length_append, HX.out]; rfl
          have hml := HML.out
          clear HF hn3 hr3 hL hq row3 HL HX HWF HRow HR HN hwf p1 p2 p3 p4 p5 p6 hxl HS
          go_wp2
          go_roundw
          case rel => exact ⟨i + 1, u', xs ++ [(x, (Value.slice b0 l0 c0), (Value.slice b1 l1 c1), (Value.slice b2 l2 c2))], vint (by omega), hid hlt, HX4, HWF4, HS4, HL4, HR4, HN4, HRow4⟩
          case measure => simp [intOf]; omega
      · have hli : ¬ (i : Int) < (m : Int) := by omega
        have e3 : m - i = 0 := by omega
        have HE : Hid (RDone p a c zs (TabsV w) (listC zs (tabR zs) t) w (.returned (.slice (some ⟨g, 0, none⟩) m m)) wr) := by
          show RDone _ _ _ _ _ _ _ _ _
          rw [← HL.out, e3]
          have hxl : xs.length = m := by have h1 := HX.out; have h2 := HI.out; omega
          have hrow := HRow.out
          refine ⟨HN.out, _, rfl, ⟨g, xs, ?_, HGW.out, ?_, ?_, ?_⟩, HR.out⟩
          · rw [List.append_nil, List.length_map, hxl]
          · rw [List.append_nil]
          · rw [List.append_nil, List.length_map, hxl]; exact hrow
          · exact fun y hy => (HWF.out y hy).low HW2.out
        clear HL HX HWF HRow HR HN
        go_wp2
        go_ret
        exact HE.out
end Go.Proofs.YtedeiaokohdhpaaGreat
