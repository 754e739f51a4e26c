/- Texts of one chain, joined: ZWr8. -/
import Derived.Test.YtedeiaokohdhpaaGreatG27
namespace Go.Proofs.YtedeiaokohdhpaaGreat
open Go.RowKit
def headL (x : HeadD) : List Int := intsL x.ws
structure PlanD.wfew (x : PlanD) : Prop where
  hs : x.heads.n ≤ 100000 ∧ ∀ y ∈ x.hs, y.w.n ≤ 100000
  ms : x.mta.n ≤ 100000
  ss : x.states.n ≤ 100000 ∧ ∀ y ∈ x.ss, y.cases.n ≤ 100000
  al : x.acts.n ≤ 100000 ∧ ∀ y ∈ x.al, y.w.n ≤ 100000 ∧ y.ops.n ≤ 100000 ∧ ∀ o ∈ y.os, o.e.n ≤ 100000
  ts : x.tabs.n ≤ 100000 ∧ ∀ y ∈ x.ts, y.keys.n ≤ 100000 ∧ y.acts.n ≤ 100000 ∧ y.args.n ≤ 100000
  ns : x.nodes.n ≤ 100000 ∧ ∀ y ∈ x.ns, y.e.n ≤ 100000
  os : x.out.n ≤ 100000
def planL (x : PlanD) : List Int := (numL (x.heads.n : Int) ++ x.hs.flatMap headL) ++ (intsL x.ms ++ ((numL (x.states.n : Int) ++ x.ss.flatMap stateL) ++ ((numL (x.acts.n : Int) ++ x.al.flatMap actL) ++ ((numL (x.tabs.n : Int) ++ x.ts.flatMap tabL) ++ ((numL (x.nodes.n : Int) ++ x.ns.flatMap nodeL) ++ (intsL x.os))))))
set_option maxHeartbeats 8000000 in
set_option maxRecDepth 20000 in
theorem plan_wr (W0 : World) (p : Nat) (bs : List Int) (x : PlanD) (w : World) (h : Wr W0.heap.size p bs w) (hw0 : Below W0.heap.size W0 w) (hr : x.lie W0) (hn : x.wfew) (hl : (bs ++ planL x).length ≤ 9000000) :
    Calls Tryz.prog 20 #[.pointer (some ⟨p, 0, none⟩), .agg #[.slice x.heads.a x.heads.n x.heads.c, .slice x.mta.a x.mta.n x.mta.c, .slice x.states.a x.states.n x.states.c, .slice x.acts.a x.acts.n x.acts.c, .slice x.tabs.a x.tabs.n x.tabs.c, .slice x.nodes.a x.nodes.n x.nodes.c, .slice x.out.a x.out.n x.out.c]] w (WDone W0.heap.size p (bs ++ planL x) w) := by
  have hb1 : Below w.heap.size w (w.alloc (.cells #[.slice x.heads.a x.heads.n x.heads.c, .slice x.mta.a x.mta.n x.mta.c, .slice x.states.a x.states.n x.states.c, .slice x.acts.a x.acts.n x.acts.c, .slice x.tabs.a x.tabs.n x.tabs.c, .slice x.nodes.a x.nodes.n x.nodes.c, .slice x.out.a x.out.n x.out.c] 29)) := bl_alloc (Below.refl _ _)
  have H0 := hid (h.step hb1)
  have B0 := hid (hb1.mono h.bl)
  have F0 := hid (Fram.below hb1 : Fram p w (w.alloc (.cells #[.slice x.heads.a x.heads.n x.heads.c, .slice x.mta.a x.mta.n x.mta.c, .slice x.states.a x.states.n x.states.c, .slice x.acts.a x.acts.n x.acts.c, .slice x.tabs.a x.tabs.n x.tabs.c, .slice x.nodes.a x.nodes.n x.nodes.c, .slice x.out.a x.out.n x.out.c] 29)))
  have HA0 := hid (alloc_at w #[.slice x.heads.a x.heads.n x.heads.c, .slice x.mta.a x.mta.n x.mta.c, .slice x.states.a x.states.n x.states.c, .slice x.acts.a x.acts.n x.acts.c, .slice x.tabs.a x.tabs.n x.tabs.c, .slice x.nodes.a x.nodes.n x.nodes.c, .slice x.out.a x.out.n x.out.c] 29)
  have hbp0 : w.heap.size ≠ p := by have := h.pl; omega
  have HL := hid hl
  have HW := hid hw0
  have hbp := hid hbp0
  have Hhr := hid hr
  have Hhn := hid hn
  clear h hl hb1 hw0 hbp0 hr hn
  have hmf : ∀ (fn : Fn) (first cap : Array Value) (w : World), (Instr.makeFunc fn first cap).run Tryz.prog w = .ok (.func fn first cap) w := fun _ _ _ _ => rfl
  have es : planL x = (numL (x.heads.n : Int) ++ x.hs.flatMap headL) ++ (intsL x.ms ++ ((numL (x.states.n : Int) ++ x.ss.flatMap stateL) ++ ((numL (x.acts.n : Int) ++ x.al.flatMap actL) ++ ((numL (x.tabs.n : Int) ++ x.ts.flatMap tabL) ++ ((numL (x.nodes.n : Int) ++ x.ns.flatMap nodeL) ++ (intsL x.os)))))) := by rfl
  rw [es] at HL ⊢
  clear es
  have HP1 := hid (writeList_head W0 p _ _ x.heads x.hs headL (w.alloc (.cells #[.slice x.heads.a x.heads.n x.heads.c, .slice x.mta.a x.mta.n x.mta.c, .slice x.states.a x.states.n x.states.c, .slice x.acts.a x.acts.n x.acts.c, .slice x.tabs.a x.tabs.n x.tabs.c, .slice x.nodes.a x.nodes.n x.nodes.c, .slice x.out.a x.out.n x.out.c] 29)) rfl H0.out (HW.out.trans B0.out) Hhr.out.hs Hhn.out.hs.1 (by have := HL.out; simp only [List.length_append] at this ⊢; omega) (fun y hy cs w' h1 h2 h3 => header_wr W0 p cs y w' h1 h2 (kHead.inns Hhr.out.hs y hy).2 (Hhn.out.hs.2 y hy) h3))
  go_enter Tryz.func20, Tryz.ntmps20
  go_wp2_with fail
  refine HP1.out.mono ?_
  rintro e w1 ⟨rfl, h1, h2, h3⟩
  have B1 := hid (B0.out.trans h2)
  have F1 := hid (F0.out.trans h3)
  have H1 := hid h1
  have ha := h3.2 _ _ _ _ hbp.out (by decide) HA0.out
  have HA1 := hid ha
  have c10 := box_cell ha 0
  have c11 := box_cell ha 1
  have c12 := box_cell ha 2
  have c13 := box_cell ha 3
  have c14 := box_cell ha 4
  have c15 := box_cell ha 5
  have c16 := box_cell ha 6
  simp only [List.getElem?_toArray, List.getElem?_cons_zero, List.getElem?_cons_succ] at c10 c11 c12 c13 c14 c15 c16
  clear h1 h2 h3 ha HP1
  have HP2 := hid (writeList_int W0 p _ x.mta x.ms w1 H1.out (HW.out.trans B1.out) Hhr.out.ms Hhn.out.ms (by have := HL.out; simp only [List.length_append] at this ⊢; omega))
  go_wp2_with fail
  refine HP2.out.mono ?_
  rintro e w2 ⟨rfl, h1, h2, h3⟩
  have B2 := hid (B1.out.trans h2)
  have F2 := hid (F1.out.trans h3)
  have H2 := hid h1
  have ha := h3.2 _ _ _ _ hbp.out (by decide) HA1.out
  have HA2 := hid ha
  have c20 := box_cell ha 0
  have c21 := box_cell ha 1
  have c22 := box_cell ha 2
  have c23 := box_cell ha 3
  have c24 := box_cell ha 4
  have c25 := box_cell ha 5
  have c26 := box_cell ha 6
  simp only [List.getElem?_toArray, List.getElem?_cons_zero, List.getElem?_cons_succ] at c20 c21 c22 c23 c24 c25 c26
  clear h1 h2 h3 ha HP2 c10 c11 c12 c13 c14 c15 c16
  have HP3 := hid (writeList_state W0 p _ _ x.states x.ss stateL w2 rfl H2.out (HW.out.trans B2.out) Hhr.out.ss Hhn.out.ss.1 (by have := HL.out; simp only [List.length_append] at this ⊢; omega) (fun y hy cs w' h1 h2 h3 => state_wr W0 p cs y w' h1 h2 ⟨(kState.inns Hhr.out.ss y hy).1.1, (kState.inns Hhr.out.ss y hy).1.2.1, (kState.inns Hhr.out.ss y hy).1.2.2.1, (kState.inns Hhr.out.ss y hy).1.2.2.2.2⟩ (kState.inns Hhr.out.ss y hy).2 (Hhn.out.ss.2 y hy) h3))
  go_wp2_with fail
  refine HP3.out.mono ?_
  rintro e w3 ⟨rfl, h1, h2, h3⟩
  have B3 := hid (B2.out.trans h2)
  have F3 := hid (F2.out.trans h3)
  have H3 := hid h1
  have ha := h3.2 _ _ _ _ hbp.out (by decide) HA2.out
  have HA3 := hid ha
  have c30 := box_cell ha 0
  have c31 := box_cell ha 1
  have c32 := box_cell ha 2
  have c33 := box_cell ha 3
  have c34 := box_cell ha 4
  have c35 := box_cell ha 5
  have c36 := box_cell ha 6
  simp only [List.getElem?_toArray, List.getElem?_cons_zero, List.getElem?_cons_succ] at c30 c31 c32 c33 c34 c35 c36
  clear h1 h2 h3 ha HP3 c20 c21 c22 c23 c24 c25 c26
  have HP4 := hid (writeList_act W0 p _ _ x.acts x.al actL w3 rfl H3.out (HW.out.trans B3.out) Hhr.out.al Hhn.out.al.1 (by have := HL.out; simp only [List.length_append] at this ⊢; omega) (fun y hy cs w' h1 h2 h3 => action_wr W0 p cs y w' h1 h2 (kAct.inns Hhr.out.al y hy).2 (Hhn.out.al.2 y hy) h3))
  go_wp2_with fail
  refine HP4.out.mono ?_
  rintro e w4 ⟨rfl, h1, h2, h3⟩
  have B4 := hid (B3.out.trans h2)
  have F4 := hid (F3.out.trans h3)
  have H4 := hid h1
  have ha := h3.2 _ _ _ _ hbp.out (by decide) HA3.out
  have HA4 := hid ha
  have c40 := box_cell ha 0
  have c41 := box_cell ha 1
  have c42 := box_cell ha 2
  have c43 := box_cell ha 3
  have c44 := box_cell ha 4
  have c45 := box_cell ha 5
  have c46 := box_cell ha 6
  simp only [List.getElem?_toArray, List.getElem?_cons_zero, List.getElem?_cons_succ] at c40 c41 c42 c43 c44 c45 c46
  clear h1 h2 h3 ha HP4 c30 c31 c32 c33 c34 c35 c36
  have HP5 := hid (writeList_tab W0 p _ _ x.tabs x.ts tabL w4 rfl H4.out (HW.out.trans B4.out) Hhr.out.ts Hhn.out.ts.1 (by have := HL.out; simp only [List.length_append] at this ⊢; omega) (fun y hy cs w' h1 h2 h3 => table_wr W0 p cs y w' h1 h2 ⟨(kTab.inns Hhr.out.ts y hy).1.1, (kTab.inns Hhr.out.ts y hy).1.2.2.2.1, (kTab.inns Hhr.out.ts y hy).1.2.2.2.2.1⟩ (kTab.inns Hhr.out.ts y hy).2 (Hhn.out.ts.2 y hy) h3))
  go_wp2_with fail
  refine HP5.out.mono ?_
  rintro e w5 ⟨rfl, h1, h2, h3⟩
  have B5 := hid (B4.out.trans h2)
  have F5 := hid (F4.out.trans h3)
  have H5 := hid h1
  have ha := h3.2 _ _ _ _ hbp.out (by decide) HA4.out
  have HA5 := hid ha
  have c50 := box_cell ha 0
  have c51 := box_cell ha 1
  have c52 := box_cell ha 2
  have c53 := box_cell ha 3
  have c54 := box_cell ha 4
  have c55 := box_cell ha 5
  have c56 := box_cell ha 6
  simp only [List.getElem?_toArray, List.getElem?_cons_zero, List.getElem?_cons_succ] at c50 c51 c52 c53 c54 c55 c56
  clear h1 h2 h3 ha HP5 c40 c41 c42 c43 c44 c45 c46
  have HP6 := hid (writeList_node W0 p _ _ x.nodes x.ns nodeL w5 rfl H5.out (HW.out.trans B5.out) Hhr.out.ns Hhn.out.ns.1 (by have := HL.out; simp only [List.length_append] at this ⊢; omega) (fun y hy cs w' h1 h2 h3 => node_wr W0 p cs y w' h1 h2 ⟨(kNode.inns Hhr.out.ns y hy).1.1, (kNode.inns Hhr.out.ns y hy).1.2.1, (kNode.inns Hhr.out.ns y hy).1.2.2.2.1, (kNode.inns Hhr.out.ns y hy).1.2.2.2.2⟩ (kNode.inns Hhr.out.ns y hy).2 (Hhn.out.ns.2 y hy) h3))
  go_wp2_with fail
  refine HP6.out.mono ?_
  rintro e w6 ⟨rfl, h1, h2, h3⟩
  have B6 := hid (B5.out.trans h2)
  have F6 := hid (F5.out.trans h3)
  have H6 := hid h1
  have ha := h3.2 _ _ _ _ hbp.out (by decide) HA5.out
  have HA6 := hid ha
  have c60 := box_cell ha 0
  have c61 := box_cell ha 1
  have c62 := box_cell ha 2
  have c63 := box_cell ha 3
  have c64 := box_cell ha 4
  have c65 := box_cell ha 5
  have c66 := box_cell ha 6
  simp only [List.getElem?_toArray, List.getElem?_cons_zero, List.getElem?_cons_succ] at c60 c61 c62 c63 c64 c65 c66
  clear h1 h2 h3 ha HP6 c50 c51 c52 c53 c54 c55 c56
  have HP7 := hid (writeList_int W0 p _ x.out x.os w6 H6.out (HW.out.trans B6.out) Hhr.out.os Hhn.out.os (by have := HL.out; simp only [List.length_append] at this ⊢; omega))
  go_wp2_with fail
  refine HP7.out.mono ?_
  rintro e w7 ⟨rfl, h1, h2, h3⟩
  have B7 := hid (B6.out.trans h2)
  have F7 := hid (F6.out.trans h3)
  have H7 := hid h1
  have ha := h3.2 _ _ _ _ hbp.out (by decide) HA6.out
  have HA7 := hid ha
  have c70 := box_cell ha 0
  have c71 := box_cell ha 1
  have c72 := box_cell ha 2
  have c73 := box_cell ha 3
  have c74 := box_cell ha 4
  have c75 := box_cell ha 5
  have c76 := box_cell ha 6
  simp only [List.getElem?_toArray, List.getElem?_cons_zero, List.getElem?_cons_succ] at c70 c71 c72 c73 c74 c75 c76
  clear h1 h2 h3 ha HP7 c60 c61 c62 c63 c64 c65 c66
  have HE : Hid (WDone W0.heap.size p (bs ++ ((numL (x.heads.n : Int) ++ x.hs.flatMap headL) ++ (intsL x.ms ++ ((numL (x.states.n : Int) ++ x.ss.flatMap stateL) ++ ((numL (x.acts.n : Int) ++ x.al.flatMap actL) ++ ((numL (x.tabs.n : Int) ++ x.ts.flatMap tabL) ++ ((numL (x.nodes.n : Int) ++ x.ns.flatMap nodeL) ++ (intsL x.os)))))))) w (.returned (.tuple #[])) w7) := by
    have h1 := H7.out
    have hh : Wr W0.heap.size p (bs ++ ((numL (x.heads.n : Int) ++ x.hs.flatMap headL) ++ (intsL x.ms ++ ((numL (x.states.n : Int) ++ x.ss.flatMap stateL) ++ ((numL (x.acts.n : Int) ++ x.al.flatMap actL) ++ ((numL (x.tabs.n : Int) ++ x.ts.flatMap tabL) ++ ((numL (x.nodes.n : Int) ++ x.ns.flatMap nodeL) ++ (intsL x.os)))))))) w7 := by simpa only [List.append_assoc] using h1
    exact ⟨rfl, hh, B7.out, F7.out⟩
  go_wp2
  go_end0
  exact HE.out
end Go.Proofs.YtedeiaokohdhpaaGreat
