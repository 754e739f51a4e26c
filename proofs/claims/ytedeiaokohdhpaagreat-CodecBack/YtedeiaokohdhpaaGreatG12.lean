/- Texts of one chain, joined: ZRdK, ZRdL. -/
import Derived.Test.YtedeiaokohdhpaaGreatG11
import Derived.Defers
import Derived.Recover
namespace Go.Proofs.YtedeiaokohdhpaaGreat
open Go.RowKit
theorem HeadsV.keep {w w1 w2 : World} {xs : List (List Int)} {v : Value} (h : HeadsV w xs w1 v) (hb : ∀ g, w.heap.size ≤ g → w2.heap[g]? = w1.heap[g]? ∨ w1.heap.size ≤ g) : HeadsV w xs w2 v := by
  obtain ⟨g, ys, e, hg, hm, hr, hw⟩ := h
  have hl : g < w1.heap.size := hr.lt
  exact ⟨g, ys, e, hg, hm, hr.blk ((hb g hg).resolve_right (by omega)), fun y hy => (hw y hy).keep hb⟩
theorem HeadsV.low {w w0 w1 : World} {xs : List (List Int)} {v : Value} (h : HeadsV w xs w1 v) (hb : w0.heap.size ≤ w.heap.size) : HeadsV w0 xs w1 v := by
  obtain ⟨g, ys, e, hg, hm, hr, hw⟩ := h
  exact ⟨g, ys, e, Nat.le_trans hb hg, hm, hr, fun y hy => (hw y hy).low hb⟩
theorem StatesV.keep {w w1 w2 : World} {xs : List (StateX)} {v : Value} (h : StatesV w xs w1 v) (hb : ∀ g, w.heap.size ≤ g → w2.heap[g]? = w1.heap[g]? ∨ w1.heap.size ≤ g) : StatesV w xs w2 v := by
  obtain ⟨g, ys, e, hg, hm, hr, hw⟩ := h
  have hl : g < w1.heap.size := hr.lt
  exact ⟨g, ys, e, hg, hm, hr.blk ((hb g hg).resolve_right (by omega)), fun y hy => (hw y hy).keep hb⟩
theorem StatesV.low {w w0 w1 : World} {xs : List (StateX)} {v : Value} (h : StatesV w xs w1 v) (hb : w0.heap.size ≤ w.heap.size) : StatesV w0 xs w1 v := by
  obtain ⟨g, ys, e, hg, hm, hr, hw⟩ := h
  exact ⟨g, ys, e, Nat.le_trans hb hg, hm, hr, fun y hy => (hw y hy).low hb⟩
theorem ActsV.keep {w w1 w2 : World} {xs : List (ActX)} {v : Value} (h : ActsV w xs w1 v) (hb : ∀ g, w.heap.size ≤ g → w2.heap[g]? = w1.heap[g]? ∨ w1.heap.size ≤ g) : ActsV w xs w2 v := by
  obtain ⟨g, ys, e, hg, hm, hr, hw⟩ := h
  have hl : g < w1.heap.size := hr.lt
  exact ⟨g, ys, e, hg, hm, hr.blk ((hb g hg).resolve_right (by omega)), fun y hy => (hw y hy).keep hb⟩
theorem ActsV.low {w w0 w1 : World} {xs : List (ActX)} {v : Value} (h : ActsV w xs w1 v) (hb : w0.heap.size ≤ w.heap.size) : ActsV w0 xs w1 v := by
  obtain ⟨g, ys, e, hg, hm, hr, hw⟩ := h
  exact ⟨g, ys, e, Nat.le_trans hb hg, hm, hr, fun y hy => (hw y hy).low hb⟩
theorem TabsV.keep {w w1 w2 : World} {xs : List (TabX)} {v : Value} (h : TabsV w xs w1 v) (hb : ∀ g, w.heap.size ≤ g → w2.heap[g]? = w1.heap[g]? ∨ w1.heap.size ≤ g) : TabsV w xs w2 v := by
  obtain ⟨g, ys, e, hg, hm, hr, hw⟩ := h
  have hl : g < w1.heap.size := hr.lt
  exact ⟨g, ys, e, hg, hm, hr.blk ((hb g hg).resolve_right (by omega)), fun y hy => (hw y hy).keep hb⟩
theorem TabsV.low {w w0 w1 : World} {xs : List (TabX)} {v : Value} (h : TabsV w xs w1 v) (hb : w0.heap.size ≤ w.heap.size) : TabsV w0 xs w1 v := by
  obtain ⟨g, ys, e, hg, hm, hr, hw⟩ := h
  exact ⟨g, ys, e, Nat.le_trans hb hg, hm, hr, fun y hy => (hw y hy).low hb⟩
theorem NodesV.keep {w w1 w2 : World} {xs : List (NodeX)} {v : Value} (h : NodesV w xs w1 v) (hb : ∀ g, w.heap.size ≤ g → w2.heap[g]? = w1.heap[g]? ∨ w1.heap.size ≤ g) : NodesV w xs w2 v := by
  obtain ⟨g, ys, e, hg, hm, hr, hw⟩ := h
  have hl : g < w1.heap.size := hr.lt
  exact ⟨g, ys, e, hg, hm, hr.blk ((hb g hg).resolve_right (by omega)), fun y hy => (hw y hy).keep hb⟩
theorem NodesV.low {w w0 w1 : World} {xs : List (NodeX)} {v : Value} (h : NodesV w xs w1 v) (hb : w0.heap.size ≤ w.heap.size) : NodesV w0 xs w1 v := by
  obtain ⟨g, ys, e, hg, hm, hr, hw⟩ := h
  exact ⟨g, ys, e, Nat.le_trans hb hg, hm, hr, fun y hy => (hw y hy).low hb⟩
structure PlanX where
  heads : List (List Int)
  mt : List (Int)
  states : List (StateX)
  acts : List (ActX)
  tabs : List (TabX)
  nodes : List (NodeX)
  out : List (Int)
def planR (zs : List Int) (t : Nat) : Except (Int × Int) (PlanX × Nat) := thenR (listC zs (listC zs (numR zs)) t) fun x1 u1 => thenR (listC zs (numR zs) u1) fun x2 u2 => thenR (listC zs (stateR zs) u2) fun x3 u3 => thenR (listC zs (actR zs) u3) fun x4 u4 => thenR (listC zs (tabR zs) u4) fun x5 u5 => thenR (listC zs (nodeR zs) u5) fun x6 u6 => thenR (listC zs (numR zs) u6) fun x7 u7 => .ok (⟨x1, x2, x3, x4, x5, x6, x7⟩, u7)
def PlanV (w : World) (x : PlanX) (w' : World) (v : Value) : Prop := ∃ v1 v2 v3 v4 v5 v6 v7, v = .agg #[v1, v2, v3, v4, v5, v6, v7] ∧ HeadsV w x.heads w' v1 ∧ IntsV w x.mt w' v2 ∧ StatesV w x.states w' v3 ∧ ActsV w x.acts w' v4 ∧ TabsV w x.tabs w' v5 ∧ NodesV w x.nodes w' v6 ∧ IntsV w x.out w' v7
set_option maxHeartbeats 4000000 in
set_option maxRecDepth 20000 in
theorem rplan {p : Nat} {a : Option Addr} {c : Nat} {zs : List Int} {t : Nat} {w : World} (h : Rd p a c zs t w) :
    Calls Tryz.prog 74 #[.pointer (some ⟨p, 0, none⟩)] w (RDone p a c zs (PlanV w) (planR zs t) w) := by
  obtain ⟨W1, eW⟩ : ∃ W1, W1 = w.alloc (.cells #[.slice none 0 0, .slice none 0 0, .slice none 0 0, .slice none 0 0, .slice none 0 0, .slice none 0 0, .slice none 0 0] 29) := ⟨_, rfl⟩
  obtain ⟨bx, ebx⟩ : ∃ b, b = w.heap.size := ⟨_, rfl⟩
  have hpw : p < w.heap.size := World.block_lt_of_cell? _ _ h.c0
  have S0 : Hid (RSt p a c zs 29 bx w t [.slice none 0 0, .slice none 0 0, .slice none 0 0, .slice none 0 0, .slice none 0 0, .slice none 0 0, .slice none 0 0] W1) := by rw [eW, ebx]; exact RSt.start h _ _
  have HBX : Hid (bx < W1.heap.size ∧ p < W1.heap.size ∧ w.heap.size ≤ W1.heap.size) := ⟨S0.out.box.lt, Nat.lt_of_lt_of_le hpw S0.out.rn.size, S0.out.rn.size⟩
  have HS0 : Hid (W1.heap.size ≤ W1.heap.size) := Nat.le_refl _
  have HF0 := hid (rlist_head S0.out.rd)
  have EW := hid eW
  have EB := hid ebx
  clear h eW ebx hpw
  go_enter Tryz.func74, Tryz.ntmps74
  go_wp2_with fail
  rw [← EW.out, ← EB.out]
  clear EW EB
  refine HF0.out.mono ?_
  rintro e w1 ⟨hn, hr⟩
  cases hq : listC zs (listC zs (numR zs)) t with
  | error e =>
    rw [hq] at hr
    obtain rfl := hr
    exact panic_out (P := Tryz.prog) (fn := Tryz.f74) (by unfold planR; rw [hq]; exact ⟨S0.out.rn.trans hn, rfl⟩) rfl
  | ok y =>
    obtain ⟨x1, u1⟩ := y
    rw [hq] at hr
    obtain ⟨_, rfl, ⟨g1, ys1, rfl, hv⟩, hr⟩ := hr
    have hv : HeadsV W1 x1 w1 (.slice (some ⟨g1, 0, none⟩) x1.length x1.length) := ⟨g1, ys1, rfl, hv⟩
    have T := S0.out.read hn hr
    have K1 := hid (hv.low (w0 := W1) HS0.out)
    have b0 := T.box.cell (i := 0) rfl
    have z0 := T.box.fz 0
    have l0 := T.box.lt
    obtain ⟨V1, eV⟩ : ∃ W, W = w1.setCell ⟨bx, 0, none⟩ (.slice (some ⟨g1, 0, none⟩) x1.length x1.length) := ⟨_, rfl⟩
    have HS1 : Hid (W1.heap.size ≤ V1.heap.size) := by
      show W1.heap.size ≤ V1.heap.size
      rw [eV, World.size_setCell]
      exact Nat.le_trans HS0.out hn.size
    have S1 : Hid (RSt p a c zs 29 bx w u1 [.slice (some ⟨g1, 0, none⟩) x1.length x1.length, .slice none 0 0, .slice none 0 0, .slice none 0 0, .slice none 0 0, .slice none 0 0, .slice none 0 0] V1) := by rw [eV]; exact T.put 0 _ rfl (fun n h => by cases h)
    have K1 : Hid (HeadsV W1 x1 V1 (.slice (some ⟨g1, 0, none⟩) x1.length x1.length)) := by rw [eV]; exact K1.out.keep (set_keep HBX.out.1 _ _)
    have Q1 := hid hq
    have EV := hid eV
    have HF1 := hid (rlist_int S1.out.rd)
    clear HF0 hn hr hq T eV S0 hv HS0
    go_wp2_with fail
    rw [← EV.out]
    clear EV b0 z0 l0
    refine HF1.out.mono ?_
    rintro e w2 ⟨hn, hr⟩
    cases hq : listC zs (numR zs) u1 with
    | error e =>
      rw [hq] at hr
      obtain rfl := hr
      exact panic_out (P := Tryz.prog) (fn := Tryz.f74) (by unfold planR; rw [Q1.out]; unfold thenR; dsimp only; rw [hq]; exact ⟨S1.out.rn.trans hn, rfl⟩) rfl
    | ok y =>
      obtain ⟨x2, u2⟩ := y
      rw [hq] at hr
      obtain ⟨_, rfl, ⟨g2, rfl, hv⟩, hr⟩ := hr
      have hv : IntsV V1 x2 w2 (.slice (some ⟨g2, 0, none⟩) x2.length x2.length) := ⟨g2, rfl, hv⟩
      have T := S1.out.read hn hr
      have K1 := hid (K1.out.keep (rn_keep hn HBX.out.2.1))
      have K2 := hid (hv.low (w0 := W1) HS1.out)
      have b0 := T.box.cell (i := 1) rfl
      have z0 := T.box.fz 1
      have l0 := T.box.lt
      obtain ⟨V2, eV⟩ : ∃ W, W = w2.setCell ⟨bx, 1, none⟩ (.slice (some ⟨g2, 0, none⟩) x2.length x2.length) := ⟨_, rfl⟩
      have HS2 : Hid (W1.heap.size ≤ V2.heap.size) := by
        show W1.heap.size ≤ V2.heap.size
        rw [eV, World.size_setCell]
        exact Nat.le_trans HS1.out hn.size
      have S2 : Hid (RSt p a c zs 29 bx w u2 [.slice (some ⟨g1, 0, none⟩) x1.length x1.length, .slice (some ⟨g2, 0, none⟩) x2.length x2.length, .slice none 0 0, .slice none 0 0, .slice none 0 0, .slice none 0 0, .slice none 0 0] V2) := by rw [eV]; exact T.put 1 _ rfl (fun n h => by cases h)
      have K1 : Hid (HeadsV W1 x1 V2 (.slice (some ⟨g1, 0, none⟩) x1.length x1.length)) := by rw [eV]; exact K1.out.keep (set_keep HBX.out.1 _ _)
      have K2 : Hid (IntsV W1 x2 V2 (.slice (some ⟨g2, 0, none⟩) x2.length x2.length)) := by rw [eV]; exact K2.out.keep (set_keep HBX.out.1 _ _)
      have Q2 := hid hq
      have EV := hid eV
      have HF2 := hid (rlist_state S2.out.rd)
      clear HF1 hn hr hq T eV S1 hv HS1
      go_wp2_with fail
      rw [← EV.out]
      clear EV b0 z0 l0
      refine HF2.out.mono ?_
      rintro e w3 ⟨hn, hr⟩
      cases hq : listC zs (stateR zs) u2 with
      | error e =>
        rw [hq] at hr
        obtain rfl := hr
        exact panic_out (P := Tryz.prog) (fn := Tryz.f74) (by unfold planR; rw [Q1.out]; unfold thenR; dsimp only; rw [Q2.out]; dsimp only; rw [hq]; exact ⟨S2.out.rn.trans hn, rfl⟩) rfl
      | ok y =>
        obtain ⟨x3, u3⟩ := y
        rw [hq] at hr
        obtain ⟨_, rfl, ⟨g3, ys3, rfl, hv⟩, hr⟩ := hr
        have hv : StatesV V2 x3 w3 (.slice (some ⟨g3, 0, none⟩) x3.length x3.length) := ⟨g3, ys3, rfl, hv⟩
        have T := S2.out.read hn hr
        have K1 := hid (K1.out.keep (rn_keep hn HBX.out.2.1))
        have K2 := hid (K2.out.keep (rn_keep hn HBX.out.2.1))
        have K3 := hid (hv.low (w0 := W1) HS2.out)
        have b0 := T.box.cell (i := 2) rfl
        have z0 := T.box.fz 2
        have l0 := T.box.lt
        obtain ⟨V3, eV⟩ : ∃ W, W = w3.setCell ⟨bx, 2, none⟩ (.slice (some ⟨g3, 0, none⟩) x3.length x3.length) := ⟨_, rfl⟩
        have HS3 : Hid (W1.heap.size ≤ V3.heap.size) := by
          show W1.heap.size ≤ V3.heap.size
          rw [eV, World.size_setCell]
          exact Nat.le_trans HS2.out hn.size
        have S3 : Hid (RSt p a c zs 29 bx w u3 [.slice (some ⟨g1, 0, none⟩) x1.length x1.length, .slice (some ⟨g2, 0, none⟩) x2.length x2.length, .slice (some ⟨g3, 0, none⟩) x3.length x3.length, .slice none 0 0, .slice none 0 0, .slice none 0 0, .slice none 0 0] V3) := by rw [eV]; exact T.put 2 _ rfl (fun n h => by cases h)
        have K1 : Hid (HeadsV W1 x1 V3 (.slice (some ⟨g1, 0, none⟩) x1.length x1.length)) := by rw [eV]; exact K1.out.keep (set_keep HBX.out.1 _ _)
        have K2 : Hid (IntsV W1 x2 V3 (.slice (some ⟨g2, 0, none⟩) x2.length x2.length)) := by rw [eV]; exact K2.out.keep (set_keep HBX.out.1 _ _)
        have K3 : Hid (StatesV W1 x3 V3 (.slice (some ⟨g3, 0, none⟩) x3.length x3.length)) := by rw [eV]; exact K3.out.keep (set_keep HBX.out.1 _ _)
        have Q3 := hid hq
        have EV := hid eV
        have HF3 := hid (rlist_act S3.out.rd)
        clear HF2 hn hr hq T eV S2 hv HS2
        go_wp2_with fail
        rw [← EV.out]
        clear EV b0 z0 l0
        refine HF3.out.mono ?_
        rintro e w4 ⟨hn, hr⟩
        cases hq : listC zs (actR zs) u3 with
        | error e =>
          rw [hq] at hr
          obtain rfl := hr
          exact panic_out (P := Tryz.prog) (fn := Tryz.f74) (by unfold planR; rw [Q1.out]; unfold thenR; dsimp only; rw [Q2.out]; dsimp only; rw [Q3.out]; dsimp only; rw [hq]; exact ⟨S3.out.rn.trans hn, rfl⟩) rfl
        | ok y =>
          obtain ⟨x4, u4⟩ := y
          rw [hq] at hr
          obtain ⟨_, rfl, ⟨g4, ys4, rfl, hv⟩, hr⟩ := hr
          have hv : ActsV V3 x4 w4 (.slice (some ⟨g4, 0, none⟩) x4.length x4.length) := ⟨g4, ys4, rfl, hv⟩
          have T := S3.out.read hn hr
          have K1 := hid (K1.out.keep (rn_keep hn HBX.out.2.1))
          have K2 := hid (K2.out.keep (rn_keep hn HBX.out.2.1))
          have K3 := hid (K3.out.keep (rn_keep hn HBX.out.2.1))
          have K4 := hid (hv.low (w0 := W1) HS3.out)
          have b0 := T.box.cell (i := 3) rfl
          have z0 := T.box.fz 3
          have l0 := T.box.lt
          obtain ⟨V4, eV⟩ : ∃ W, W = w4.setCell ⟨bx, 3, none⟩ (.slice (some ⟨g4, 0, none⟩) x4.length x4.length) := ⟨_, rfl⟩
          have HS4 : Hid (W1.heap.size ≤ V4.heap.size) := by
            show W1.heap.size ≤ V4.heap.size
            rw [eV, World.size_setCell]
            exact Nat.le_trans HS3.out hn.size
          have S4 : Hid (RSt p a c zs 29 bx w u4 [.slice (some ⟨g1, 0, none⟩) x1.length x1.length, .slice (some ⟨g2, 0, none⟩) x2.length x2.length, .slice (some ⟨g3, 0, none⟩) x3.length x3.length, .slice (some ⟨g4, 0, none⟩) x4.length x4.length, .slice none 0 0, .slice none 0 0, .slice none 0 0] V4) := by rw [eV]; exact T.put 3 _ rfl (fun n h => by cases h)
          have K1 : Hid (HeadsV W1 x1 V4 (.slice (some ⟨g1, 0, none⟩) x1.length x1.length)) := by rw [eV]; exact K1.out.keep (set_keep HBX.out.1 _ _)
          have K2 : Hid (IntsV W1 x2 V4 (.slice (some ⟨g2, 0, none⟩) x2.length x2.length)) := by rw [eV]; exact K2.out.keep (set_keep HBX.out.1 _ _)
          have K3 : Hid (StatesV W1 x3 V4 (.slice (some ⟨g3, 0, none⟩) x3.length x3.length)) := by rw [eV]; exact K3.out.keep (set_keep HBX.out.1 _ _)
          have K4 : Hid (ActsV W1 x4 V4 (.slice (some ⟨g4, 0, none⟩) x4.length x4.length)) := by rw [eV]; exact K4.out.keep (set_keep HBX.out.1 _ _)
          have Q4 := hid hq
          have EV := hid eV
          have HF4 := hid (rlist_tab S4.out.rd)
          clear HF3 hn hr hq T eV S3 hv HS3
          go_wp2_with fail
          rw [← EV.out]
          clear EV b0 z0 l0
          refine HF4.out.mono ?_
          rintro e w5 ⟨hn, hr⟩
          cases hq : listC zs (tabR zs) u4 with
          | error e =>
            rw [hq] at hr
            obtain rfl := hr
            exact panic_out (P := Tryz.prog) (fn := Tryz.f74) (by unfold planR; rw [Q1.out]; unfold thenR; dsimp only; rw [Q2.out]; dsimp only; rw [Q3.out]; dsimp only; rw [Q4.out]; dsimp only; rw [hq]; exact ⟨S4.out.rn.trans hn, rfl⟩) rfl
          | ok y =>
            obtain ⟨x5, u5⟩ := y
            rw [hq] at hr
            obtain ⟨_, rfl, ⟨g5, ys5, rfl, hv⟩, hr⟩ := hr
            have hv : TabsV V4 x5 w5 (.slice (some ⟨g5, 0, none⟩) x5.length x5.length) := ⟨g5, ys5, rfl, hv⟩
            have T := S4.out.read hn hr
            have K1 := hid (K1.out.keep (rn_keep hn HBX.out.2.1))
            have K2 := hid (K2.out.keep (rn_keep hn HBX.out.2.1))
            have K3 := hid (K3.out.keep (rn_keep hn HBX.out.2.1))
            have K4 := hid (K4.out.keep (rn_keep hn HBX.out.2.1))
            have K5 := hid (hv.low (w0 := W1) HS4.out)
            have b0 := T.box.cell (i := 4) rfl
            have z0 := T.box.fz 4
            have l0 := T.box.lt
            obtain ⟨V5, eV⟩ : ∃ W, W = w5.setCell ⟨bx, 4, none⟩ (.slice (some ⟨g5, 0, none⟩) x5.length x5.length) := ⟨_, rfl⟩
            have HS5 : Hid (W1.heap.size ≤ V5.heap.size) := by
              show W1.heap.size ≤ V5.heap.size
              rw [eV, World.size_setCell]
              exact Nat.le_trans HS4.out hn.size
            have S5 : Hid (RSt p a c zs 29 bx w u5 [.slice (some ⟨g1, 0, none⟩) x1.length x1.length, .slice (some ⟨g2, 0, none⟩) x2.length x2.length, .slice (some ⟨g3, 0, none⟩) x3.length x3.length, .slice (some ⟨g4, 0, none⟩) x4.length x4.length, .slice (some ⟨g5, 0, none⟩) x5.length x5.length, .slice none 0 0, .slice none 0 0] V5) := by rw [eV]; exact T.put 4 _ rfl (fun n h => by cases h)
            have K1 : Hid (HeadsV W1 x1 V5 (.slice (some ⟨g1, 0, none⟩) x1.length x1.length)) := by rw [eV]; exact K1.out.keep (set_keep HBX.out.1 _ _)
            have K2 : Hid (IntsV W1 x2 V5 (.slice (some ⟨g2, 0, none⟩) x2.length x2.length)) := by rw [eV]; exact K2.out.keep (set_keep HBX.out.1 _ _)
            have K3 : Hid (StatesV W1 x3 V5 (.slice (some ⟨g3, 0, none⟩) x3.length x3.length)) := by rw [eV]; exact K3.out.keep (set_keep HBX.out.1 _ _)
            have K4 : Hid (ActsV W1 x4 V5 (.slice (some ⟨g4, 0, none⟩) x4.length x4.length)) := by rw [eV]; exact K4.out.keep (set_keep HBX.out.1 _ _)
            have K5 : Hid (TabsV W1 x5 V5 (.slice (some ⟨g5, 0, none⟩) x5.length x5.length)) := by rw [eV]; exact K5.out.keep (set_keep HBX.out.1 _ _)
            have Q5 := hid hq
            have EV := hid eV
            have HF5 := hid (rlist_node S5.out.rd)
            clear HF4 hn hr hq T eV S4 hv HS4
            go_wp2_with fail
            rw [← EV.out]
            clear EV b0 z0 l0
            refine HF5.out.mono ?_
            rintro e w6 ⟨hn, hr⟩
            cases hq : listC zs (nodeR zs) u5 with
            | error e =>
              rw [hq] at hr
              obtain rfl := hr
              exact panic_out (P := Tryz.prog) (fn := Tryz.f74) (by unfold planR; rw [Q1.out]; unfold thenR; dsimp only; rw [Q2.out]; dsimp only; rw [Q3.out]; dsimp only; rw [Q4.out]; dsimp only; rw [Q5.out]; dsimp only; rw [hq]; exact ⟨S5.out.rn.trans hn, rfl⟩) rfl
            | ok y =>
              obtain ⟨x6, u6⟩ := y
              rw [hq] at hr
              obtain ⟨_, rfl, ⟨g6, ys6, rfl, hv⟩, hr⟩ := hr
              have hv : NodesV V5 x6 w6 (.slice (some ⟨g6, 0, none⟩) x6.length x6.length) := ⟨g6, ys6, rfl, hv⟩
              have T := S5.out.read hn hr
              have K1 := hid (K1.out.keep (rn_keep hn HBX.out.2.1))
              have K2 := hid (K2.out.keep (rn_keep hn HBX.out.2.1))
              have K3 := hid (K3.out.keep (rn_keep hn HBX.out.2.1))
              have K4 := hid (K4.out.keep (rn_keep hn HBX.out.2.1))
              have K5 := hid (K5.out.keep (rn_keep hn HBX.out.2.1))
              have K6 := hid (hv.low (w0 := W1) HS5.out)
              have b0 := T.box.cell (i := 5) rfl
              have z0 := T.box.fz 5
              have l0 := T.box.lt
              obtain ⟨V6, eV⟩ : ∃ W, W = w6.setCell ⟨bx, 5, none⟩ (.slice (some ⟨g6, 0, none⟩) x6.length x6.length) := ⟨_, rfl⟩
              have HS6 : Hid (W1.heap.size ≤ V6.heap.size) := by
                show W1.heap.size ≤ V6.heap.size
                rw [eV, World.size_setCell]
                exact Nat.le_trans HS5.out hn.size
              have S6 : Hid (RSt p a c zs 29 bx w u6 [.slice (some ⟨g1, 0, none⟩) x1.length x1.length, .slice (some ⟨g2, 0, none⟩) x2.length x2.length, .slice (some ⟨g3, 0, none⟩) x3.length x3.length, .slice (some ⟨g4, 0, none⟩) x4.length x4.length, .slice (some ⟨g5, 0, none⟩) x5.length x5.length, .slice (some ⟨g6, 0, none⟩) x6.length x6.length, .slice none 0 0] V6) := by rw [eV]; exact T.put 5 _ rfl (fun n h => by cases h)
              have K1 : Hid (HeadsV W1 x1 V6 (.slice (some ⟨g1, 0, none⟩) x1.length x1.length)) := by rw [eV]; exact K1.out.keep (set_keep HBX.out.1 _ _)
              have K2 : Hid (IntsV W1 x2 V6 (.slice (some ⟨g2, 0, none⟩) x2.length x2.length)) := by rw [eV]; exact K2.out.keep (set_keep HBX.out.1 _ _)
              have K3 : Hid (StatesV W1 x3 V6 (.slice (some ⟨g3, 0, none⟩) x3.length x3.length)) := by rw [eV]; exact K3.out.keep (set_keep HBX.out.1 _ _)
              have K4 : Hid (ActsV W1 x4 V6 (.slice (some ⟨g4, 0, none⟩) x4.length x4.length)) := by rw [eV]; exact K4.out.keep (set_keep HBX.out.1 _ _)
              have K5 : Hid (TabsV W1 x5 V6 (.slice (some ⟨g5, 0, none⟩) x5.length x5.length)) := by rw [eV]; exact K5.out.keep (set_keep HBX.out.1 _ _)
              have K6 : Hid (NodesV W1 x6 V6 (.slice (some ⟨g6, 0, none⟩) x6.length x6.length)) := by rw [eV]; exact K6.out.keep (set_keep HBX.out.1 _ _)
              have Q6 := hid hq
              have EV := hid eV
              have HF6 := hid (rlist_int S6.out.rd)
              clear HF5 hn hr hq T eV S5 hv HS5
              go_wp2_with fail
              rw [← EV.out]
              clear EV b0 z0 l0
              refine HF6.out.mono ?_
              rintro e w7 ⟨hn, hr⟩
              cases hq : listC zs (numR zs) u6 with
              | error e =>
                rw [hq] at hr
                obtain rfl := hr
                exact panic_out (P := Tryz.prog) (fn := Tryz.f74) (by unfold planR; rw [Q1.out]; unfold thenR; dsimp only; rw [Q2.out]; dsimp only; rw [Q3.out]; dsimp only; rw [Q4.out]; dsimp only; rw [Q5.out]; dsimp only; rw [Q6.out]; dsimp only; rw [hq]; exact ⟨S6.out.rn.trans hn, rfl⟩) rfl
              | ok y =>
                obtain ⟨x7, u7⟩ := y
                rw [hq] at hr
                obtain ⟨_, rfl, ⟨g7, rfl, hv⟩, hr⟩ := hr
                have hv : IntsV V6 x7 w7 (.slice (some ⟨g7, 0, none⟩) x7.length x7.length) := ⟨g7, rfl, hv⟩
                have T := S6.out.read hn hr
                have K1 := hid (K1.out.keep (rn_keep hn HBX.out.2.1))
                have K2 := hid (K2.out.keep (rn_keep hn HBX.out.2.1))
                have K3 := hid (K3.out.keep (rn_keep hn HBX.out.2.1))
                have K4 := hid (K4.out.keep (rn_keep hn HBX.out.2.1))
                have K5 := hid (K5.out.keep (rn_keep hn HBX.out.2.1))
                have K6 := hid (K6.out.keep (rn_keep hn HBX.out.2.1))
                have K7 := hid (hv.low (w0 := W1) HS6.out)
                have b0 := T.box.cell (i := 6) rfl
                have z0 := T.box.fz 6
                have l0 := T.box.lt
                obtain ⟨V7, eV⟩ : ∃ W, W = w7.setCell ⟨bx, 6, none⟩ (.slice (some ⟨g7, 0, none⟩) x7.length x7.length) := ⟨_, rfl⟩
                have HS7 : Hid (W1.heap.size ≤ V7.heap.size) := by
                  show W1.heap.size ≤ V7.heap.size
                  rw [eV, World.size_setCell]
                  exact Nat.le_trans HS6.out hn.size
                have S7 : Hid (RSt p a c zs 29 bx w u7 [.slice (some ⟨g1, 0, none⟩) x1.length x1.length, .slice (some ⟨g2, 0, none⟩) x2.length x2.length, .slice (some ⟨g3, 0, none⟩) x3.length x3.length, .slice (some ⟨g4, 0, none⟩) x4.length x4.length, .slice (some ⟨g5, 0, none⟩) x5.length x5.length, .slice (some ⟨g6, 0, none⟩) x6.length x6.length, .slice (some ⟨g7, 0, none⟩) x7.length x7.length] V7) := by rw [eV]; exact T.put 6 _ rfl (fun n h => by cases h)
                have K1 : Hid (HeadsV W1 x1 V7 (.slice (some ⟨g1, 0, none⟩) x1.length x1.length)) := by rw [eV]; exact K1.out.keep (set_keep HBX.out.1 _ _)
                have K2 : Hid (IntsV W1 x2 V7 (.slice (some ⟨g2, 0, none⟩) x2.length x2.length)) := by rw [eV]; exact K2.out.keep (set_keep HBX.out.1 _ _)
                have K3 : Hid (StatesV W1 x3 V7 (.slice (some ⟨g3, 0, none⟩) x3.length x3.length)) := by rw [eV]; exact K3.out.keep (set_keep HBX.out.1 _ _)
                have K4 : Hid (ActsV W1 x4 V7 (.slice (some ⟨g4, 0, none⟩) x4.length x4.length)) := by rw [eV]; exact K4.out.keep (set_keep HBX.out.1 _ _)
                have K5 : Hid (TabsV W1 x5 V7 (.slice (some ⟨g5, 0, none⟩) x5.length x5.length)) := by rw [eV]; exact K5.out.keep (set_keep HBX.out.1 _ _)
                have K6 : Hid (NodesV W1 x6 V7 (.slice (some ⟨g6, 0, none⟩) x6.length x6.length)) := by rw [eV]; exact K6.out.keep (set_keep HBX.out.1 _ _)
                have K7 : Hid (IntsV W1 x7 V7 (.slice (some ⟨g7, 0, none⟩) x7.length x7.length)) := by rw [eV]; exact K7.out.keep (set_keep HBX.out.1 _ _)
                have Q7 := hid hq
                have EV := hid eV
                clear HF6 hn hr hq T eV S6 hv HS6
                go_upto_region 8 with fail
                rw [← EV.out]
                clear EV b0 z0 l0
                have S9 := (((((((S7.out.put 0 (.slice (some ⟨g1, 0, none⟩) x1.length x1.length) rfl (fun n h => by cases h)).put 1 (.slice (some ⟨g2, 0, none⟩) x2.length x2.length) rfl (fun n h => by cases h)).put 2 (.slice (some ⟨g3, 0, none⟩) x3.length x3.length) rfl (fun n h => by cases h)).put 3 (.slice (some ⟨g4, 0, none⟩) x4.length x4.length) rfl (fun n h => by cases h)).put 4 (.slice (some ⟨g5, 0, none⟩) x5.length x5.length) rfl (fun n h => by cases h)).put 5 (.slice (some ⟨g6, 0, none⟩) x6.length x6.length) rfl (fun n h => by cases h)).put 6 (.slice (some ⟨g7, 0, none⟩) x7.length x7.length) rfl (fun n h => by cases h))
                have HE : Hid (RDone p a c zs (PlanV w) (planR zs t) w (.returned (.agg #[.slice (some ⟨g1, 0, none⟩) x1.length x1.length, .slice (some ⟨g2, 0, none⟩) x2.length x2.length, .slice (some ⟨g3, 0, none⟩) x3.length x3.length, .slice (some ⟨g4, 0, none⟩) x4.length x4.length, .slice (some ⟨g5, 0, none⟩) x5.length x5.length, .slice (some ⟨g6, 0, none⟩) x6.length x6.length, .slice (some ⟨g7, 0, none⟩) x7.length x7.length])) (((((((V7.setCell ⟨bx, 0, none⟩ (.slice (some ⟨g1, 0, none⟩) x1.length x1.length)).setCell ⟨bx, 1, none⟩ (.slice (some ⟨g2, 0, none⟩) x2.length x2.length)).setCell ⟨bx, 2, none⟩ (.slice (some ⟨g3, 0, none⟩) x3.length x3.length)).setCell ⟨bx, 3, none⟩ (.slice (some ⟨g4, 0, none⟩) x4.length x4.length)).setCell ⟨bx, 4, none⟩ (.slice (some ⟨g5, 0, none⟩) x5.length x5.length)).setCell ⟨bx, 5, none⟩ (.slice (some ⟨g6, 0, none⟩) x6.length x6.length)).setCell ⟨bx, 6, none⟩ (.slice (some ⟨g7, 0, none⟩) x7.length x7.length))) := by
                  show RDone _ _ _ _ _ _ _ _ _
                  unfold planR; rw [Q1.out]; unfold thenR; dsimp only; rw [Q2.out]; dsimp only; rw [Q3.out]; dsimp only; rw [Q4.out]; dsimp only; rw [Q5.out]; dsimp only; rw [Q6.out]; dsimp only; rw [Q7.out]; dsimp only
                  exact ⟨S9.rn, _, rfl, ⟨_, _, _, _, _, _, _, rfl, ((((((((K1.out.keep (set_keep HBX.out.1 0 (.slice (some ⟨g1, 0, none⟩) x1.length x1.length))).keep (set_keep HBX.out.1 1 (.slice (some ⟨g2, 0, none⟩) x2.length x2.length))).keep (set_keep HBX.out.1 2 (.slice (some ⟨g3, 0, none⟩) x3.length x3.length))).keep (set_keep HBX.out.1 3 (.slice (some ⟨g4, 0, none⟩) x4.length x4.length))).keep (set_keep HBX.out.1 4 (.slice (some ⟨g5, 0, none⟩) x5.length x5.length))).keep (set_keep HBX.out.1 5 (.slice (some ⟨g6, 0, none⟩) x6.length x6.length))).keep (set_keep HBX.out.1 6 (.slice (some ⟨g7, 0, none⟩) x7.length x7.length))).low HBX.out.2.2), ((((((((K2.out.keep (set_keep HBX.out.1 0 (.slice (some ⟨g1, 0, none⟩) x1.length x1.length))).keep (set_keep HBX.out.1 1 (.slice (some ⟨g2, 0, none⟩) x2.length x2.length))).keep (set_keep HBX.out.1 2 (.slice (some ⟨g3, 0, none⟩) x3.length x3.length))).keep (set_keep HBX.out.1 3 (.slice (some ⟨g4, 0, none⟩) x4.length x4.length))).keep (set_keep HBX.out.1 4 (.slice (some ⟨g5, 0, none⟩) x5.length x5.length))).keep (set_keep HBX.out.1 5 (.slice (some ⟨g6, 0, none⟩) x6.length x6.length))).keep (set_keep HBX.out.1 6 (.slice (some ⟨g7, 0, none⟩) x7.length x7.length))).low HBX.out.2.2), ((((((((K3.out.keep (set_keep HBX.out.1 0 (.slice (some ⟨g1, 0, none⟩) x1.length x1.length))).keep (set_keep HBX.out.1 1 (.slice (some ⟨g2, 0, none⟩) x2.length x2.length))).keep (set_keep HBX.out.1 2 (.slice (some ⟨g3, 0, none⟩) x3.length x3.length))).keep (set_keep HBX.out.1 3 (.slice (some ⟨g4, 0, none⟩) x4.length x4.length))).keep (set_keep HBX.out.1 4 (.slice (some ⟨g5, 0, none⟩) x5.length x5.length))).keep (set_keep HBX.out.1 5 (.slice (some ⟨g6, 0, none⟩) x6.length x6.length))).keep (set_keep HBX.out.1 6 (.slice (some ⟨g7, 0, none⟩) x7.length x7.length))).low HBX.out.2.2), ((((((((K4.out.keep (set_keep HBX.out.1 0 (.slice (some ⟨g1, 0, none⟩) x1.length x1.length))).keep (set_keep HBX.out.1 1 (.slice (some ⟨g2, 0, none⟩) x2.length x2.length))).keep (set_keep HBX.out.1 2 (.slice (some ⟨g3, 0, none⟩) x3.length x3.length))).keep (set_keep HBX.out.1 3 (.slice (some ⟨g4, 0, none⟩) x4.length x4.length))).keep (set_keep HBX.out.1 4 (.slice (some ⟨g5, 0, none⟩) x5.length x5.length))).keep (set_keep HBX.out.1 5 (.slice (some ⟨g6, 0, none⟩) x6.length x6.length))).keep (set_keep HBX.out.1 6 (.slice (some ⟨g7, 0, none⟩) x7.length x7.length))).low HBX.out.2.2), ((((((((K5.out.keep (set_keep HBX.out.1 0 (.slice (some ⟨g1, 0, none⟩) x1.length x1.length))).keep (set_keep HBX.out.1 1 (.slice (some ⟨g2, 0, none⟩) x2.length x2.length))).keep (set_keep HBX.out.1 2 (.slice (some ⟨g3, 0, none⟩) x3.length x3.length))).keep (set_keep HBX.out.1 3 (.slice (some ⟨g4, 0, none⟩) x4.length x4.length))).keep (set_keep HBX.out.1 4 (.slice (some ⟨g5, 0, none⟩) x5.length x5.length))).keep (set_keep HBX.out.1 5 (.slice (some ⟨g6, 0, none⟩) x6.length x6.length))).keep (set_keep HBX.out.1 6 (.slice (some ⟨g7, 0, none⟩) x7.length x7.length))).low HBX.out.2.2), ((((((((K6.out.keep (set_keep HBX.out.1 0 (.slice (some ⟨g1, 0, none⟩) x1.length x1.length))).keep (set_keep HBX.out.1 1 (.slice (some ⟨g2, 0, none⟩) x2.length x2.length))).keep (set_keep HBX.out.1 2 (.slice (some ⟨g3, 0, none⟩) x3.length x3.length))).keep (set_keep HBX.out.1 3 (.slice (some ⟨g4, 0, none⟩) x4.length x4.length))).keep (set_keep HBX.out.1 4 (.slice (some ⟨g5, 0, none⟩) x5.length x5.length))).keep (set_keep HBX.out.1 5 (.slice (some ⟨g6, 0, none⟩) x6.length x6.length))).keep (set_keep HBX.out.1 6 (.slice (some ⟨g7, 0, none⟩) x7.length x7.length))).low HBX.out.2.2), ((((((((K7.out.keep (set_keep HBX.out.1 0 (.slice (some ⟨g1, 0, none⟩) x1.length x1.length))).keep (set_keep HBX.out.1 1 (.slice (some ⟨g2, 0, none⟩) x2.length x2.length))).keep (set_keep HBX.out.1 2 (.slice (some ⟨g3, 0, none⟩) x3.length x3.length))).keep (set_keep HBX.out.1 3 (.slice (some ⟨g4, 0, none⟩) x4.length x4.length))).keep (set_keep HBX.out.1 4 (.slice (some ⟨g5, 0, none⟩) x5.length x5.length))).keep (set_keep HBX.out.1 5 (.slice (some ⟨g6, 0, none⟩) x6.length x6.length))).keep (set_keep HBX.out.1 6 (.slice (some ⟨g7, 0, none⟩) x7.length x7.length))).low HBX.out.2.2)⟩, S9.rd⟩
                have b0 := S7.out.box.cell (i := 0) rfl
                have z0 := S7.out.box.fz 0
                have b1 := S7.out.box.cell (i := 1) rfl
                have z1 := S7.out.box.fz 1
                have b2 := S7.out.box.cell (i := 2) rfl
                have z2 := S7.out.box.fz 2
                have b3 := S7.out.box.cell (i := 3) rfl
                have z3 := S7.out.box.fz 3
                have b4 := S7.out.box.cell (i := 4) rfl
                have z4 := S7.out.box.fz 4
                have b5 := S7.out.box.cell (i := 5) rfl
                have z5 := S7.out.box.fz 5
                have b6 := S7.out.box.cell (i := 6) rfl
                have z6 := S7.out.box.fz 6
                have l0 := S7.out.box.lt
                clear S7 S9 K1 Q1 K2 Q2 K3 Q3 K4 Q4 K5 Q5 K6 Q6 K7 Q7
                go_wp2
                exact bodyPost_ret (v := .agg #[.slice (some ⟨g1, 0, none⟩) x1.length x1.length, .slice (some ⟨g2, 0, none⟩) x2.length x2.length, .slice (some ⟨g3, 0, none⟩) x3.length x3.length, .slice (some ⟨g4, 0, none⟩) x4.length x4.length, .slice (some ⟨g5, 0, none⟩) x5.length x5.length, .slice (some ⟨g6, 0, none⟩) x6.length x6.length, .slice (some ⟨g7, 0, none⟩) x7.length x7.length]) (by simp [results, Tryz.results74, go_sem, *]) rfl HE.out
end Go.Proofs.YtedeiaokohdhpaaGreat

namespace Go.Proofs.YtedeiaokohdhpaaGreat
open Go.RowKit
theorem PlanV.keep {w w1 w2 : World} {x : PlanX} {v : Value} (h : PlanV w x w1 v) (hb : ∀ g, w.heap.size ≤ g → w2.heap[g]? = w1.heap[g]? ∨ w1.heap.size ≤ g) : PlanV w x w2 v := by
  obtain ⟨v1, v2, v3, v4, v5, v6, v7, e, h1, h2, h3, h4, h5, h6, h7⟩ := h
  exact ⟨v1, v2, v3, v4, v5, v6, v7, e, h1.keep hb, h2.keep hb, h3.keep hb, h4.keep hb, h5.keep hb, h6.keep hb, h7.keep hb⟩
theorem PlanV.low {w w0 w1 : World} {x : PlanX} {v : Value} (h : PlanV w x w1 v) (hb : w0.heap.size ≤ w.heap.size) : PlanV w0 x w1 v := by
  obtain ⟨v1, v2, v3, v4, v5, v6, v7, e, h1, h2, h3, h4, h5, h6, h7⟩ := h
  exact ⟨v1, v2, v3, v4, v5, v6, v7, e, h1.low hb, h2.low hb, h3.low hb, h4.low hb, h5.low hb, h6.low hb, h7.low hb⟩
theorem catch_idle (p : Addr) (w : World) :
    CallsD Tryz.prog 73 #[.pointer (some p)] .returning w fun e u' w' => e = .returned (.tuple #[]) ∧ u' = .returning ∧ w' = w := by
  refine callsD_of_wpS Tryz.func73 rfl fun c₀ cs hu => ?_
  apply wpS_seq
  apply wpS_region
  simp [wpOpsS, go_sem, recoverD, hu, Tryz.ntmps73, Exit.thenS]
  refine wpS_of_wp ?_
  go_wp2
  cases c₀
  simp_all [bodyPostS, results, Tryz.results73]
set_option maxHeartbeats 1000000 in
set_option maxRecDepth 20000 in
/-- the deferred closure, of a frame that panics as a reader does -/
theorem catch_gave (b : Nat) (code at_ : Int) (w : World) (x y : Int) (h0 : w.cell? ⟨b, 0, none⟩ = some (.int .i64 x)) (h1 : w.cell? ⟨b, 1, none⟩ = some (.int .i64 y)) (hz0 : w.frozen? ⟨b, 0, none⟩ = false) (hz1 : w.frozen? ⟨b, 1, none⟩ = false) :
    CallsD Tryz.prog 73 #[.pointer (some ⟨b, 0, none⟩)] (.panicking [{ v := gaveV code at_, recovered := false }]) w fun e u' w' => e = .returned (.tuple #[]) ∧ u' = .panicking [{ v := gaveV code at_, recovered := true }] ∧ w' = ((w.setCell ⟨b, 0, none⟩ (.int .i64 code)).setCell ⟨b, 1, none⟩ (.int .i64 at_)).alloc (.cells #[.int .i64 code, .int .i64 at_] 129) := by
  have hta : ∀ (W : World) (v : Value), (Instr.typeAssert (.iface 129 v) 20 129 true).run Tryz.prog W = .ok (.tuple #[v, .bool true]) W := fun _ _ => by kernel_rfl
  have heq : ∀ (W : World) (v : Value), (binOp BinOp.eql 20 (.iface 129 v) .nilIface).run Tryz.prog W = .ok (.bool false) W := fun _ _ => by kernel_rfl
  have bl : ∀ o, Below w.heap.size w (w.alloc o) := fun o => bl_alloc (Below.refl _ _)
  have hb : b < w.heap.size := World.block_lt_of_cell? _ _ h0
  have hbn : ¬ b = w.heap.size := by omega
  have k0 : ∀ o, (w.alloc o).cell? ⟨b, 0, none⟩ = some (.int .i64 x) := fun o => cell_keep h0 (bl o)
  have k1 : ∀ o, (w.alloc o).cell? ⟨b, 1, none⟩ = some (.int .i64 y) := fun o => cell_keep h1 (bl o)
  have z0 : ∀ o, (w.alloc o).frozen? ⟨b, 0, none⟩ = false := fun o => ((bl o).frozen (p := ⟨b, 0, none⟩) hb).trans hz0
  have z1 : ∀ o, (w.alloc o).frozen? ⟨b, 1, none⟩ = false := fun o => ((bl o).frozen (p := ⟨b, 1, none⟩) hb).trans hz1
  have b2 : ∀ v o, ((w.setCell ⟨b, 0, none⟩ v).alloc o).cell? ⟨b, 1, none⟩ = some (.int .i64 y) := fun v o => (World.cell?_alloc_past _ _ _ (by simp [World.setCell]; omega)).trans ((World.cell?_setCell_other _ _ _ _ (by simp)).trans h1)
  have z2 : ∀ v o, ((w.setCell ⟨b, 0, none⟩ v).alloc o).frozen? ⟨b, 1, none⟩ = false := fun v o => (World.frozen?_alloc_past _ _ _ (by simp [World.setCell]; omega)).trans ((World.frozen?_setCell _ _ _ _).trans hz1)
  refine callsD_of_wpS Tryz.func73 rfl fun c₀ cs hu => ?_
  apply wpS_seq
  apply wpS_region
  simp [wpOpsS, go_sem, recoverD, hu, Tryz.ntmps73, Exit.thenS]
  refine wpS_of_wp ?_
  unfold gaveV
  have HU := hid hu
  clear hu h0 h1 hz0 hz1 bl
  go_wp2
  cases c₀
  simp [bodyPostS, results, Tryz.results73]
end Go.Proofs.YtedeiaokohdhpaaGreat
