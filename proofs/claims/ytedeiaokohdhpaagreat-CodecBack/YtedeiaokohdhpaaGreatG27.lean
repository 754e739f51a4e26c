/- Texts of one chain, joined: ZWr6, ZWr7. -/
import Derived.Test.YtedeiaokohdhpaaGreatG26
namespace Go.Proofs.YtedeiaokohdhpaaGreat
open Go.RowKit
def actL (x : ActD) : List Int := intsL x.ws ++ (numL (x.ops.n : Int) ++ x.os.flatMap opL)
def tabL (x : TabD) : List Int := numL x.kind ++ ((numL (x.keys.n : Int) ++ x.ks.flatMap refL) ++ (intsL x.al ++ ((numL x.cap ++ numL x.dflt) ++ numsL x.zs)))
def nodeL (x : NodeD) : List Int := (numL x.kind ++ numL x.yes) ++ (if x.kind = 3 then treeL x.es ++ numL x.no else if x.kind = 4 then numL x.n ++ numL x.no else numL x.n)
set_option maxHeartbeats 8000000 in
set_option maxRecDepth 20000 in
theorem node_wr (W0 : World) (p : Nat) (bs : List Int) (x : NodeD) (w : World) (h : Wr W0.heap.size p bs w) (hw0 : Below W0.heap.size W0 w) (hx : wfI x.kind ∧ wfI x.n ∧ wfI x.yes ∧ wfI x.no) (hr : QRow 4 PushD.lie W0 x.e x.es) (hn : x.e.n ≤ 100000) (hl : (bs ++ nodeL x).length ≤ 9000000) :
    Calls Tryz.prog 65 #[.pointer (some ⟨p, 0, none⟩), .agg #[.int .i64 x.kind, .int .i64 x.n, .slice x.e.a x.e.n x.e.c, .int .i64 x.yes, .int .i64 x.no]] w (WDone W0.heap.size p (bs ++ nodeL x) w) := by
  have hb1 : Below w.heap.size w (w.alloc (.cells #[.int .i64 x.kind, .int .i64 x.n, .slice x.e.a x.e.n x.e.c, .int .i64 x.yes, .int .i64 x.no] 65)) := bl_alloc (Below.refl _ _)
  have H0 := hid (h.step hb1)
  have B0 := hid (hb1.mono h.bl)
  have F0 := hid (Fram.below hb1 : Fram p w (w.alloc (.cells #[.int .i64 x.kind, .int .i64 x.n, .slice x.e.a x.e.n x.e.c, .int .i64 x.yes, .int .i64 x.no] 65)))
  have HA0 := hid (alloc_at w #[.int .i64 x.kind, .int .i64 x.n, .slice x.e.a x.e.n x.e.c, .int .i64 x.yes, .int .i64 x.no] 65)
  have hbp0 : w.heap.size ≠ p := by have := h.pl; omega
  have HL := hid hl
  have HW := hid hw0
  have hbp := hid hbp0
  have Hhx := hid hx
  have Hhr := hid hr
  clear h hl hb1 hw0 hbp0 hx hr
  have hmf : ∀ (fn : Fn) (first cap : Array Value) (w : World), (Instr.makeFunc fn first cap).run Tryz.prog w = .ok (.func fn first cap) w := fun _ _ _ _ => rfl
  by_cases k3 : x.kind = 3
  · have e3 : (x.kind == 3) = true := by simpa using k3
    have es : nodeL x = (numL x.kind ++ numL x.yes) ++ (treeL x.es ++ numL x.no) := by unfold nodeL; rw [if_pos k3]
    rw [es] at HL ⊢
    clear es k3
    have HP1 := hid (two_any W0.heap.size p (w.heap.size + 1) _ x.kind x.yes (w.alloc (.cells #[.int .i64 x.kind, .int .i64 x.n, .slice x.e.a x.e.n x.e.c, .int .i64 x.yes, .int .i64 x.no] 65)) (by simp) Hhx.out.1 Hhx.out.2.2.1 H0.out (by have := HL.out; simp only [List.length_append] at this ⊢; omega))
    go_enter Tryz.func65, Tryz.ntmps65
    go_wp2_with fail
    refine HP1.out.mono ?_
    rintro e w1 ⟨rfl, h1, h2, h3⟩
    replace h2 := (((bl_alloc (Below.refl _ _)).mono H0.out.bl : Below _ (w.alloc (.cells #[.int .i64 x.kind, .int .i64 x.n, .slice x.e.a x.e.n x.e.c, .int .i64 x.yes, .int .i64 x.no] 65)) ((w.alloc (.cells #[.int .i64 x.kind, .int .i64 x.n, .slice x.e.a x.e.n x.e.c, .int .i64 x.yes, .int .i64 x.no] 65)).alloc (.cells #[.int .i64 x.kind, .int .i64 x.yes] 3)))).trans h2
    replace h3 := (Fram.below (bl_alloc (Below.refl _ _)) : Fram p (w.alloc (.cells #[.int .i64 x.kind, .int .i64 x.n, .slice x.e.a x.e.n x.e.c, .int .i64 x.yes, .int .i64 x.no] 65)) ((w.alloc (.cells #[.int .i64 x.kind, .int .i64 x.n, .slice x.e.a x.e.n x.e.c, .int .i64 x.yes, .int .i64 x.no] 65)).alloc (.cells #[.int .i64 x.kind, .int .i64 x.yes] 3))).trans h3
    have B1 := hid (B0.out.trans h2)
    have F1 := hid (F0.out.trans h3)
    have H1 := hid h1
    have ha := h3.2 _ _ _ _ hbp.out (by decide) HA0.out
    have HA1 := hid ha
    have c10 := box_cell ha 0
    have c11 := box_cell ha 1
    have c12 := box_cell ha 2
    have c13 := box_cell ha 3
    have c14 := box_cell ha 4
    simp only [List.getElem?_toArray, List.getElem?_cons_zero, List.getElem?_cons_succ] at c10 c11 c12 c13 c14
    clear h1 h2 h3 ha HP1
    have HP2 := hid (tree_wr W0 p _ x.e x.es w1 H1.out (HW.out.trans B1.out) Hhr.out hn (by have := HL.out; simp only [List.length_append] at this ⊢; omega))
    go_wp2_with fail
    refine HP2.out.mono ?_
    rintro e w2 ⟨rfl, h1, h2, h3⟩
    have B2 := hid (B1.out.trans h2)
    have F2 := hid (F1.out.trans h3)
    have H2 := hid h1
    have ha := h3.2 _ _ _ _ hbp.out (by decide) HA1.out
    have HA2 := hid ha
    have c20 := box_cell ha 0
    have c21 := box_cell ha 1
    have c22 := box_cell ha 2
    have c23 := box_cell ha 3
    have c24 := box_cell ha 4
    simp only [List.getElem?_toArray, List.getElem?_cons_zero, List.getElem?_cons_succ] at c20 c21 c22 c23 c24
    clear h1 h2 h3 ha HP2 c10 c11 c12 c13 c14
    have HP3 := hid (number_any W0.heap.size p _ x.no w2 Hhx.out.2.2.2 H2.out (by have := HL.out; simp only [List.length_append] at this ⊢; omega))
    go_wp2_with fail
    refine HP3.out.mono ?_
    rintro e w3 ⟨rfl, h1, h2, h3⟩
    have B3 := hid (B2.out.trans h2)
    have F3 := hid (F2.out.trans h3)
    have H3 := hid h1
    have ha := h3.2 _ _ _ _ hbp.out (by decide) HA2.out
    have HA3 := hid ha
    have c30 := box_cell ha 0
    have c31 := box_cell ha 1
    have c32 := box_cell ha 2
    have c33 := box_cell ha 3
    have c34 := box_cell ha 4
    simp only [List.getElem?_toArray, List.getElem?_cons_zero, List.getElem?_cons_succ] at c30 c31 c32 c33 c34
    clear h1 h2 h3 ha HP3 c20 c21 c22 c23 c24
    have HE : Hid (WDone W0.heap.size p (bs ++ ((numL x.kind ++ numL x.yes) ++ (treeL x.es ++ numL x.no))) w (.returned (.tuple #[])) w3) := by
      have h1 := H3.out
      have hh : Wr W0.heap.size p (bs ++ ((numL x.kind ++ numL x.yes) ++ (treeL x.es ++ numL x.no))) w3 := by simpa only [List.append_assoc] using h1
      exact ⟨rfl, hh, B3.out, F3.out⟩
    go_wp2
    go_end0
    exact HE.out
  have e3 : (x.kind == 3) = false := by simpa using k3
  by_cases k4 : x.kind = 4
  · have e4 : (x.kind == 4) = true := by simpa using k4
    have es : nodeL x = (numL x.kind ++ numL x.yes) ++ (numL x.n ++ numL x.no) := by unfold nodeL; rw [if_neg k3, if_pos k4]
    rw [es] at HL ⊢
    clear es k3 k4
    have HP1 := hid (two_any W0.heap.size p (w.heap.size + 1) _ x.kind x.yes (w.alloc (.cells #[.int .i64 x.kind, .int .i64 x.n, .slice x.e.a x.e.n x.e.c, .int .i64 x.yes, .int .i64 x.no] 65)) (by simp) Hhx.out.1 Hhx.out.2.2.1 H0.out (by have := HL.out; simp only [List.length_append] at this ⊢; omega))
    go_enter Tryz.func65, Tryz.ntmps65
    go_wp2_with fail
    refine HP1.out.mono ?_
    rintro e w1 ⟨rfl, h1, h2, h3⟩
    replace h2 := (((bl_alloc (Below.refl _ _)).mono H0.out.bl : Below _ (w.alloc (.cells #[.int .i64 x.kind, .int .i64 x.n, .slice x.e.a x.e.n x.e.c, .int .i64 x.yes, .int .i64 x.no] 65)) ((w.alloc (.cells #[.int .i64 x.kind, .int .i64 x.n, .slice x.e.a x.e.n x.e.c, .int .i64 x.yes, .int .i64 x.no] 65)).alloc (.cells #[.int .i64 x.kind, .int .i64 x.yes] 3)))).trans h2
    replace h3 := (Fram.below (bl_alloc (Below.refl _ _)) : Fram p (w.alloc (.cells #[.int .i64 x.kind, .int .i64 x.n, .slice x.e.a x.e.n x.e.c, .int .i64 x.yes, .int .i64 x.no] 65)) ((w.alloc (.cells #[.int .i64 x.kind, .int .i64 x.n, .slice x.e.a x.e.n x.e.c, .int .i64 x.yes, .int .i64 x.no] 65)).alloc (.cells #[.int .i64 x.kind, .int .i64 x.yes] 3))).trans h3
    have B1 := hid (B0.out.trans h2)
    have F1 := hid (F0.out.trans h3)
    have H1 := hid h1
    have ha := h3.2 _ _ _ _ hbp.out (by decide) HA0.out
    have HA1 := hid ha
    have c10 := box_cell ha 0
    have c11 := box_cell ha 1
    have c12 := box_cell ha 2
    have c13 := box_cell ha 3
    have c14 := box_cell ha 4
    simp only [List.getElem?_toArray, List.getElem?_cons_zero, List.getElem?_cons_succ] at c10 c11 c12 c13 c14
    clear h1 h2 h3 ha HP1
    have HP2 := hid (two_any W0.heap.size p w1.heap.size _ x.n x.no w1 rfl Hhx.out.2.1 Hhx.out.2.2.2 H1.out (by have := HL.out; simp only [List.length_append] at this ⊢; omega))
    go_wp2_with fail
    refine HP2.out.mono ?_
    rintro e w2 ⟨rfl, h1, h2, h3⟩
    replace h2 := (((bl_alloc (Below.refl _ _)).mono H1.out.bl : Below _ w1 (w1.alloc (.cells #[.int .i64 x.n, .int .i64 x.no] 3)))).trans h2
    replace h3 := (Fram.below (bl_alloc (Below.refl _ _)) : Fram p w1 (w1.alloc (.cells #[.int .i64 x.n, .int .i64 x.no] 3))).trans h3
    have B2 := hid (B1.out.trans h2)
    have F2 := hid (F1.out.trans h3)
    have H2 := hid h1
    have ha := h3.2 _ _ _ _ hbp.out (by decide) HA1.out
    have HA2 := hid ha
    have c20 := box_cell ha 0
    have c21 := box_cell ha 1
    have c22 := box_cell ha 2
    have c23 := box_cell ha 3
    have c24 := box_cell ha 4
    simp only [List.getElem?_toArray, List.getElem?_cons_zero, List.getElem?_cons_succ] at c20 c21 c22 c23 c24
    clear h1 h2 h3 ha HP2 c10 c11 c12 c13 c14
    have HE : Hid (WDone W0.heap.size p (bs ++ ((numL x.kind ++ numL x.yes) ++ (numL x.n ++ numL x.no))) w (.returned (.tuple #[])) w2) := by
      have h1 := H2.out
      have hh : Wr W0.heap.size p (bs ++ ((numL x.kind ++ numL x.yes) ++ (numL x.n ++ numL x.no))) w2 := by simpa only [List.append_assoc] using h1
      exact ⟨rfl, hh, B2.out, F2.out⟩
    go_wp2
    go_end0
    exact HE.out
  have e4 : (x.kind == 4) = false := by simpa using k4
  have es : nodeL x = (numL x.kind ++ numL x.yes) ++ numL x.n := by unfold nodeL; rw [if_neg k3, if_neg k4]
  rw [es] at HL ⊢
  clear es k3 k4
  have HP1 := hid (two_any W0.heap.size p (w.heap.size + 1) _ x.kind x.yes (w.alloc (.cells #[.int .i64 x.kind, .int .i64 x.n, .slice x.e.a x.e.n x.e.c, .int .i64 x.yes, .int .i64 x.no] 65)) (by simp) Hhx.out.1 Hhx.out.2.2.1 H0.out (by have := HL.out; simp only [List.length_append] at this ⊢; omega))
  go_enter Tryz.func65, Tryz.ntmps65
  go_wp2_with fail
  refine HP1.out.mono ?_
  rintro e w1 ⟨rfl, h1, h2, h3⟩
  replace h2 := (((bl_alloc (Below.refl _ _)).mono H0.out.bl : Below _ (w.alloc (.cells #[.int .i64 x.kind, .int .i64 x.n, .slice x.e.a x.e.n x.e.c, .int .i64 x.yes, .int .i64 x.no] 65)) ((w.alloc (.cells #[.int .i64 x.kind, .int .i64 x.n, .slice x.e.a x.e.n x.e.c, .int .i64 x.yes, .int .i64 x.no] 65)).alloc (.cells #[.int .i64 x.kind, .int .i64 x.yes] 3)))).trans h2
  replace h3 := (Fram.below (bl_alloc (Below.refl _ _)) : Fram p (w.alloc (.cells #[.int .i64 x.kind, .int .i64 x.n, .slice x.e.a x.e.n x.e.c, .int .i64 x.yes, .int .i64 x.no] 65)) ((w.alloc (.cells #[.int .i64 x.kind, .int .i64 x.n, .slice x.e.a x.e.n x.e.c, .int .i64 x.yes, .int .i64 x.no] 65)).alloc (.cells #[.int .i64 x.kind, .int .i64 x.yes] 3))).trans h3
  have B1 := hid (B0.out.trans h2)
  have F1 := hid (F0.out.trans h3)
  have H1 := hid h1
  have ha := h3.2 _ _ _ _ hbp.out (by decide) HA0.out
  have HA1 := hid ha
  have c10 := box_cell ha 0
  have c11 := box_cell ha 1
  have c12 := box_cell ha 2
  have c13 := box_cell ha 3
  have c14 := box_cell ha 4
  simp only [List.getElem?_toArray, List.getElem?_cons_zero, List.getElem?_cons_succ] at c10 c11 c12 c13 c14
  clear h1 h2 h3 ha HP1
  have HP2 := hid (number_any W0.heap.size p _ x.n w1 Hhx.out.2.1 H1.out (by have := HL.out; simp only [List.length_append] at this ⊢; omega))
  go_wp2_with fail
  refine HP2.out.mono ?_
  rintro e w2 ⟨rfl, h1, h2, h3⟩
  have B2 := hid (B1.out.trans h2)
  have F2 := hid (F1.out.trans h3)
  have H2 := hid h1
  have ha := h3.2 _ _ _ _ hbp.out (by decide) HA1.out
  have HA2 := hid ha
  have c20 := box_cell ha 0
  have c21 := box_cell ha 1
  have c22 := box_cell ha 2
  have c23 := box_cell ha 3
  have c24 := box_cell ha 4
  simp only [List.getElem?_toArray, List.getElem?_cons_zero, List.getElem?_cons_succ] at c20 c21 c22 c23 c24
  clear h1 h2 h3 ha HP2 c10 c11 c12 c13 c14
  have HE : Hid (WDone W0.heap.size p (bs ++ ((numL x.kind ++ numL x.yes) ++ numL x.n)) w (.returned (.tuple #[])) w2) := by
    have h1 := H2.out
    have hh : Wr W0.heap.size p (bs ++ ((numL x.kind ++ numL x.yes) ++ numL x.n)) w2 := by simpa only [List.append_assoc] using h1
    exact ⟨rfl, hh, B2.out, F2.out⟩
  go_wp2
  go_end0
  exact HE.out
set_option maxHeartbeats 8000000 in
set_option maxRecDepth 20000 in
theorem action_wr (W0 : World) (p : Nat) (bs : List Int) (x : ActD) (w : World) (h : Wr W0.heap.size p bs w) (hw0 : Below W0.heap.size W0 w) (hr : Has .i64 W0 x.w.a x.w.n x.ws ∧ QRow 5 OpD.lie W0 x.ops x.os) (hn : x.w.n ≤ 100000 ∧ x.ops.n ≤ 100000 ∧ ∀ y ∈ x.os, y.e.n ≤ 100000) (hl : (bs ++ actL x).length ≤ 9000000) :
    Calls Tryz.prog 61 #[.pointer (some ⟨p, 0, none⟩), .agg #[.slice x.w.a x.w.n x.w.c, .slice x.ops.a x.ops.n x.ops.c]] w (WDone W0.heap.size p (bs ++ actL x) w) := by
  have hb1 : Below w.heap.size w (w.alloc (.cells #[.slice x.w.a x.w.n x.w.c, .slice x.ops.a x.ops.n x.ops.c] 56)) := bl_alloc (Below.refl _ _)
  have H0 := hid (h.step hb1)
  have B0 := hid (hb1.mono h.bl)
  have F0 := hid (Fram.below hb1 : Fram p w (w.alloc (.cells #[.slice x.w.a x.w.n x.w.c, .slice x.ops.a x.ops.n x.ops.c] 56)))
  have HA0 := hid (alloc_at w #[.slice x.w.a x.w.n x.w.c, .slice x.ops.a x.ops.n x.ops.c] 56)
  have hbp0 : w.heap.size ≠ p := by have := h.pl; omega
  have HL := hid hl
  have HW := hid hw0
  have hbp := hid hbp0
  have Hhr := hid hr
  clear h hl hb1 hw0 hbp0 hr
  have hmf : ∀ (fn : Fn) (first cap : Array Value) (w : World), (Instr.makeFunc fn first cap).run Tryz.prog w = .ok (.func fn first cap) w := fun _ _ _ _ => rfl
  have es : actL x = intsL x.ws ++ (numL (x.ops.n : Int) ++ x.os.flatMap opL) := by rfl
  rw [es] at HL ⊢
  clear es
  have HP1 := hid (writeList_int W0 p _ x.w x.ws (w.alloc (.cells #[.slice x.w.a x.w.n x.w.c, .slice x.ops.a x.ops.n x.ops.c] 56)) H0.out (HW.out.trans B0.out) Hhr.out.1 hn.1 (by have := HL.out; simp only [List.length_append] at this ⊢; omega))
  go_enter Tryz.func61, Tryz.ntmps61
  go_wp2_with fail
  refine HP1.out.mono ?_
  rintro e w1 ⟨rfl, h1, h2, h3⟩
  have B1 := hid (B0.out.trans h2)
  have F1 := hid (F0.out.trans h3)
  have H1 := hid h1
  have ha := h3.2 _ _ _ _ hbp.out (by decide) HA0.out
  have HA1 := hid ha
  have c10 := box_cell ha 0
  have c11 := box_cell ha 1
  simp only [List.getElem?_toArray, List.getElem?_cons_zero, List.getElem?_cons_succ] at c10 c11
  clear h1 h2 h3 ha HP1
  have HP2 := hid (writeList_op W0 p _ _ x.ops x.os opL w1 rfl H1.out (HW.out.trans B1.out) Hhr.out.2 hn.2.1 (by have := HL.out; simp only [List.length_append] at this ⊢; omega) (fun y hy cs w' h1 h2 h3 => deed_wr W0 p cs y w' h1 h2 ⟨(kOp.inns Hhr.out.2 y hy).1.1, (kOp.inns Hhr.out.2 y hy).1.2.1, (kOp.inns Hhr.out.2 y hy).1.2.2.1, (kOp.inns Hhr.out.2 y hy).1.2.2.2.1⟩ (kOp.inns Hhr.out.2 y hy).2 (hn.2.2 y hy) h3))
  go_wp2_with fail
  refine HP2.out.mono ?_
  rintro e w2 ⟨rfl, h1, h2, h3⟩
  have B2 := hid (B1.out.trans h2)
  have F2 := hid (F1.out.trans h3)
  have H2 := hid h1
  have ha := h3.2 _ _ _ _ hbp.out (by decide) HA1.out
  have HA2 := hid ha
  have c20 := box_cell ha 0
  have c21 := box_cell ha 1
  simp only [List.getElem?_toArray, List.getElem?_cons_zero, List.getElem?_cons_succ] at c20 c21
  clear h1 h2 h3 ha HP2 c10 c11
  have HE : Hid (WDone W0.heap.size p (bs ++ (intsL x.ws ++ (numL (x.ops.n : Int) ++ x.os.flatMap opL))) w (.returned (.tuple #[])) w2) := by
    have h1 := H2.out
    have hh : Wr W0.heap.size p (bs ++ (intsL x.ws ++ (numL (x.ops.n : Int) ++ x.os.flatMap opL))) w2 := by simpa only [List.append_assoc] using h1
    exact ⟨rfl, hh, B2.out, F2.out⟩
  go_wp2
  go_end0
  exact HE.out
set_option maxHeartbeats 8000000 in
set_option maxRecDepth 20000 in
theorem table_wr (W0 : World) (p : Nat) (bs : List Int) (x : TabD) (w : World) (h : Wr W0.heap.size p bs w) (hw0 : Below W0.heap.size W0 w) (hx : wfI x.kind ∧ wfI x.cap ∧ wfI x.dflt) (hr : QRow 2 RefD.lie W0 x.keys x.ks ∧ Has .i64 W0 x.acts.a x.acts.n x.al ∧ Has .u64 W0 x.args.a x.args.n x.zs) (hn : x.keys.n ≤ 100000 ∧ x.acts.n ≤ 100000 ∧ x.args.n ≤ 100000) (hl : (bs ++ tabL x).length ≤ 9000000) :
    Calls Tryz.prog 63 #[.pointer (some ⟨p, 0, none⟩), .agg #[.int .i64 x.kind, .slice x.keys.a x.keys.n x.keys.c, .slice x.acts.a x.acts.n x.acts.c, .int .i64 x.cap, .int .i64 x.dflt, .slice x.args.a x.args.n x.args.c]] w (WDone W0.heap.size p (bs ++ tabL x) w) := by
  have hb1 : Below w.heap.size w (w.alloc (.cells #[.int .i64 x.kind, .slice x.keys.a x.keys.n x.keys.c, .slice x.acts.a x.acts.n x.acts.c, .int .i64 x.cap, .int .i64 x.dflt, .slice x.args.a x.args.n x.args.c] 63)) := bl_alloc (Below.refl _ _)
  have H0 := hid (h.step hb1)
  have B0 := hid (hb1.mono h.bl)
  have F0 := hid (Fram.below hb1 : Fram p w (w.alloc (.cells #[.int .i64 x.kind, .slice x.keys.a x.keys.n x.keys.c, .slice x.acts.a x.acts.n x.acts.c, .int .i64 x.cap, .int .i64 x.dflt, .slice x.args.a x.args.n x.args.c] 63)))
  have HA0 := hid (alloc_at w #[.int .i64 x.kind, .slice x.keys.a x.keys.n x.keys.c, .slice x.acts.a x.acts.n x.acts.c, .int .i64 x.cap, .int .i64 x.dflt, .slice x.args.a x.args.n x.args.c] 63)
  have hbp0 : w.heap.size ≠ p := by have := h.pl; omega
  have HL := hid hl
  have HW := hid hw0
  have hbp := hid hbp0
  have Hhx := hid hx
  have Hhr := hid hr
  clear h hl hb1 hw0 hbp0 hx hr
  have hmf : ∀ (fn : Fn) (first cap : Array Value) (w : World), (Instr.makeFunc fn first cap).run Tryz.prog w = .ok (.func fn first cap) w := fun _ _ _ _ => rfl
  have es : tabL x = numL x.kind ++ ((numL (x.keys.n : Int) ++ x.ks.flatMap refL) ++ (intsL x.al ++ ((numL x.cap ++ numL x.dflt) ++ numsL x.zs))) := by rfl
  rw [es] at HL ⊢
  clear es
  have HP1 := hid (number_any W0.heap.size p _ x.kind (w.alloc (.cells #[.int .i64 x.kind, .slice x.keys.a x.keys.n x.keys.c, .slice x.acts.a x.acts.n x.acts.c, .int .i64 x.cap, .int .i64 x.dflt, .slice x.args.a x.args.n x.args.c] 63)) Hhx.out.1 H0.out (by have := HL.out; simp only [List.length_append] at this ⊢; omega))
  go_enter Tryz.func63, Tryz.ntmps63
  go_wp2_with fail
  refine HP1.out.mono ?_
  rintro e w1 ⟨rfl, h1, h2, h3⟩
  have B1 := hid (B0.out.trans h2)
  have F1 := hid (F0.out.trans h3)
  have H1 := hid h1
  have ha := h3.2 _ _ _ _ hbp.out (by decide) HA0.out
  have HA1 := hid ha
  have c10 := box_cell ha 0
  have c11 := box_cell ha 1
  have c12 := box_cell ha 2
  have c13 := box_cell ha 3
  have c14 := box_cell ha 4
  have c15 := box_cell ha 5
  simp only [List.getElem?_toArray, List.getElem?_cons_zero, List.getElem?_cons_succ] at c10 c11 c12 c13 c14 c15
  clear h1 h2 h3 ha HP1
  have HP2 := hid (writeList_ref W0 p _ _ x.keys x.ks refL w1 rfl H1.out (HW.out.trans B1.out) Hhr.out.1 hn.1 (by have := HL.out; simp only [List.length_append] at this ⊢; omega) (fun x hx cs w' h1 _ h3 => field_wr _ p cs x w' (kRef.inns Hhr.out.1 x hx) h1 h3))
  go_wp2_with fail
  refine HP2.out.mono ?_
  rintro e w2 ⟨rfl, h1, h2, h3⟩
  have B2 := hid (B1.out.trans h2)
  have F2 := hid (F1.out.trans h3)
  have H2 := hid h1
  have ha := h3.2 _ _ _ _ hbp.out (by decide) HA1.out
  have HA2 := hid ha
  have c20 := box_cell ha 0
  have c21 := box_cell ha 1
  have c22 := box_cell ha 2
  have c23 := box_cell ha 3
  have c24 := box_cell ha 4
  have c25 := box_cell ha 5
  simp only [List.getElem?_toArray, List.getElem?_cons_zero, List.getElem?_cons_succ] at c20 c21 c22 c23 c24 c25
  clear h1 h2 h3 ha HP2 c10 c11 c12 c13 c14 c15
  have HP3 := hid (writeList_int W0 p _ x.acts x.al w2 H2.out (HW.out.trans B2.out) Hhr.out.2.1 hn.2.1 (by have := HL.out; simp only [List.length_append] at this ⊢; omega))
  go_wp2_with fail
  refine HP3.out.mono ?_
  rintro e w3 ⟨rfl, h1, h2, h3⟩
  have B3 := hid (B2.out.trans h2)
  have F3 := hid (F2.out.trans h3)
  have H3 := hid h1
  have ha := h3.2 _ _ _ _ hbp.out (by decide) HA2.out
  have HA3 := hid ha
  have c30 := box_cell ha 0
  have c31 := box_cell ha 1
  have c32 := box_cell ha 2
  have c33 := box_cell ha 3
  have c34 := box_cell ha 4
  have c35 := box_cell ha 5
  simp only [List.getElem?_toArray, List.getElem?_cons_zero, List.getElem?_cons_succ] at c30 c31 c32 c33 c34 c35
  clear h1 h2 h3 ha HP3 c20 c21 c22 c23 c24 c25
  have HP4 := hid (two_any W0.heap.size p w3.heap.size _ x.cap x.dflt w3 rfl Hhx.out.2.1 Hhx.out.2.2 H3.out (by have := HL.out; simp only [List.length_append] at this ⊢; omega))
  go_wp2_with fail
  refine HP4.out.mono ?_
  rintro e w4 ⟨rfl, h1, h2, h3⟩
  replace h2 := (((bl_alloc (Below.refl _ _)).mono H3.out.bl : Below _ w3 (w3.alloc (.cells #[.int .i64 x.cap, .int .i64 x.dflt] 3)))).trans h2
  replace h3 := (Fram.below (bl_alloc (Below.refl _ _)) : Fram p w3 (w3.alloc (.cells #[.int .i64 x.cap, .int .i64 x.dflt] 3))).trans h3
  have B4 := hid (B3.out.trans h2)
  have F4 := hid (F3.out.trans h3)
  have H4 := hid h1
  have ha := h3.2 _ _ _ _ hbp.out (by decide) HA3.out
  have HA4 := hid ha
  have c40 := box_cell ha 0
  have c41 := box_cell ha 1
  have c42 := box_cell ha 2
  have c43 := box_cell ha 3
  have c44 := box_cell ha 4
  have c45 := box_cell ha 5
  simp only [List.getElem?_toArray, List.getElem?_cons_zero, List.getElem?_cons_succ] at c40 c41 c42 c43 c44 c45
  clear h1 h2 h3 ha HP4 c30 c31 c32 c33 c34 c35
  have HP5 := hid (writeList_num W0 p _ x.args x.zs w4 H4.out (HW.out.trans B4.out) Hhr.out.2.2 hn.2.2 (by have := HL.out; simp only [List.length_append] at this ⊢; omega))
  go_wp2_with fail
  refine HP5.out.mono ?_
  rintro e w5 ⟨rfl, h1, h2, h3⟩
  have B5 := hid (B4.out.trans h2)
  have F5 := hid (F4.out.trans h3)
  have H5 := hid h1
  have ha := h3.2 _ _ _ _ hbp.out (by decide) HA4.out
  have HA5 := hid ha
  have c50 := box_cell ha 0
  have c51 := box_cell ha 1
  have c52 := box_cell ha 2
  have c53 := box_cell ha 3
  have c54 := box_cell ha 4
  have c55 := box_cell ha 5
  simp only [List.getElem?_toArray, List.getElem?_cons_zero, List.getElem?_cons_succ] at c50 c51 c52 c53 c54 c55
  clear h1 h2 h3 ha HP5 c40 c41 c42 c43 c44 c45
  have HE : Hid (WDone W0.heap.size p (bs ++ (numL x.kind ++ ((numL (x.keys.n : Int) ++ x.ks.flatMap refL) ++ (intsL x.al ++ ((numL x.cap ++ numL x.dflt) ++ numsL x.zs))))) w (.returned (.tuple #[])) w5) := by
    have h1 := H5.out
    have hh : Wr W0.heap.size p (bs ++ (numL x.kind ++ ((numL (x.keys.n : Int) ++ x.ks.flatMap refL) ++ (intsL x.al ++ ((numL x.cap ++ numL x.dflt) ++ numsL x.zs))))) w5 := by simpa only [List.append_assoc] using h1
    exact ⟨rfl, hh, B5.out, F5.out⟩
  go_wp2
  go_end0
  exact HE.out
end Go.Proofs.YtedeiaokohdhpaaGreat

namespace Go.Proofs.YtedeiaokohdhpaaGreat
open Go.RowKit
def caseL (x : CaseD) : List Int := plainL x.value.toNat ++ (plainL x.mask.toNat ++ numL x.to)
def stateL (x : StateD) : List Int := (numL x.head ++ numL (x.cases.n : Int)) ++ ((if x.cases.n = 0 then [] else refL x.r) ++ (x.cs.flatMap caseL ++ numL x.els))
set_option maxHeartbeats 8000000 in
set_option maxRecDepth 20000 in
theorem state_wr (W0 : World) (p : Nat) (bs : List Int) (x : StateD) (w : World) (h : Wr W0.heap.size p bs w) (hw0 : Below W0.heap.size W0 w) (hx : wfI x.head ∧ wfI x.r.h ∧ wfI x.r.f ∧ wfI x.els) (hr : QRow 3 CaseD.lie W0 x.cases x.cs) (hn : x.cases.n ≤ 100000) (hl : (bs ++ stateL x).length ≤ 9000000) :
    Calls Tryz.prog 59 #[.pointer (some ⟨p, 0, none⟩), .agg #[.int .i64 x.head, .int .i64 x.r.h, .int .i64 x.r.f, .slice x.cases.a x.cases.n x.cases.c, .int .i64 x.els]] w (WDone W0.heap.size p (bs ++ stateL x) w) := by
  obtain ⟨sa, esa⟩ : ∃ sa, x.cases.a = sa := ⟨_, rfl⟩
  rw [esa]
  have ESA := hid esa
  have hb1 : Below w.heap.size w (w.alloc (.cells #[.int .i64 x.head, .int .i64 x.r.h, .int .i64 x.r.f, .slice sa x.cases.n x.cases.c, .int .i64 x.els] 51)) := bl_alloc (Below.refl _ _)
  have H0 := hid (h.step hb1)
  have B0 := hid (hb1.mono h.bl)
  have F0 := hid (Fram.below hb1 : Fram p w (w.alloc (.cells #[.int .i64 x.head, .int .i64 x.r.h, .int .i64 x.r.f, .slice sa x.cases.n x.cases.c, .int .i64 x.els] 51)))
  have HA0 := hid (alloc_at w #[.int .i64 x.head, .int .i64 x.r.h, .int .i64 x.r.f, .slice sa x.cases.n x.cases.c, .int .i64 x.els] 51)
  have hbp0 : w.heap.size ≠ p := by have := h.pl; omega
  have HL := hid hl
  have HW := hid hw0
  have hbp := hid hbp0
  have Hhx := hid hx
  have Hhr := hid hr
  have hwn : Hid (wfI (x.cases.n : Int)) := wf_i64 _ (by omega)
  clear h hl hb1 hw0 hbp0 hx hr esa
  by_cases kz : x.cases.n = 0
  · have ez : ¬ (0 : Int) < (x.cases.n : Int) := by omega
    have es : stateL x = (numL x.head ++ numL (x.cases.n : Int)) ++ ([] ++ (x.cs.flatMap caseL ++ numL x.els)) := by unfold stateL; rw [if_pos kz]
    rw [es] at HL ⊢
    clear es kz
    obtain ⟨Q, EQ⟩ : ∃ Q, Hid (Q = bs ++ ((numL x.head ++ numL (x.cases.n : Int)))) := ⟨_, rfl⟩
    have HQL : Hid ((Q ++ (x.cs.flatMap caseL ++ numL x.els)).length ≤ 9000000) := by
      show _ ≤ _
      rw [EQ.out]; have := HL.out; simp only [List.length_append, List.length_nil] at this ⊢; omega
    have HQT : Hid (bs ++ ((numL x.head ++ numL (x.cases.n : Int)) ++ ([] ++ (x.cs.flatMap caseL ++ numL x.els))) = Q ++ (x.cs.flatMap caseL ++ numL x.els)) := by
      show _ = _
      rw [EQ.out]; simp only [List.append_assoc, List.nil_append]
    rw [HQT.out]
    have HP1 := hid (two_any W0.heap.size p (w.heap.size + 1) _ x.head (x.cases.n : Int) (w.alloc (.cells #[.int .i64 x.head, .int .i64 x.r.h, .int .i64 x.r.f, .slice sa x.cases.n x.cases.c, .int .i64 x.els] 51)) (by simp) Hhx.out.1 hwn.out H0.out (by have := HL.out; simp only [List.length_append] at this ⊢; omega))
    go_enter Tryz.func59, Tryz.ntmps59
    go_wp2_with fail
    refine HP1.out.mono ?_
    rintro e w1 ⟨rfl, h1, h2, h3⟩
    replace h2 := (((bl_alloc (Below.refl _ _)).mono H0.out.bl : Below _ (w.alloc (.cells #[.int .i64 x.head, .int .i64 x.r.h, .int .i64 x.r.f, .slice sa x.cases.n x.cases.c, .int .i64 x.els] 51)) ((w.alloc (.cells #[.int .i64 x.head, .int .i64 x.r.h, .int .i64 x.r.f, .slice sa x.cases.n x.cases.c, .int .i64 x.els] 51)).alloc (.cells #[.int .i64 x.head, .int .i64 (x.cases.n : Int)] 3)))).trans h2
    replace h3 := (Fram.below (bl_alloc (Below.refl _ _)) : Fram p (w.alloc (.cells #[.int .i64 x.head, .int .i64 x.r.h, .int .i64 x.r.f, .slice sa x.cases.n x.cases.c, .int .i64 x.els] 51)) ((w.alloc (.cells #[.int .i64 x.head, .int .i64 x.r.h, .int .i64 x.r.f, .slice sa x.cases.n x.cases.c, .int .i64 x.els] 51)).alloc (.cells #[.int .i64 x.head, .int .i64 (x.cases.n : Int)] 3))).trans h3
    have B1 := hid (B0.out.trans h2)
    have F1 := hid (F0.out.trans h3)
    have H1 := hid h1
    have ha := h3.2 _ _ _ _ hbp.out (by decide) HA0.out
    have HA1 := hid ha
    have c10 := box_cell ha 0
    have c11 := box_cell ha 1
    have c12 := box_cell ha 2
    have c13 := box_cell ha 3
    have c14 := box_cell ha 4
    simp only [List.getElem?_toArray, List.getElem?_cons_zero, List.getElem?_cons_succ] at c10 c11 c12 c13 c14
    clear h1 h2 h3 ha HP1
    go_wp2
    have HQ : Hid (Wr W0.heap.size p (bs ++ ((numL x.head ++ numL (x.cases.n : Int)))) w1) := by
      have h1 := H1.out
      have hh : Wr W0.heap.size p (bs ++ ((numL x.head ++ numL (x.cases.n : Int)))) w1 := by simpa only [List.append_assoc] using h1
      exact hh
    rw [← EQ.out] at HQ
    clear EQ HL HQT H1
    go_loopw [25, 5] (fun q _ wr => ∃ i : Nat, i ≤ x.cases.n ∧ q = .int .i64 i ∧ Hid (Wr W0.heap.size p (Q ++ (x.cs.take i).flatMap caseL) wr) ∧ Hid (Below W0.heap.size w wr) ∧ Hid (Fram p w wr) ∧ Hid (wr.heap[w.heap.size]? = some (.cells #[.int .i64 x.head, .int .i64 x.r.h, .int .i64 x.r.f, .slice sa x.cases.n x.cases.c, .int .i64 x.els] 51 (0, 0)))) (fun q _ _ => x.cases.n - (intOf q).toNat)
    case atStart => exact ⟨0, Nat.zero_le _, rfl, by simpa using HQ, B1, F1, HA1⟩
    case round =>
      obtain ⟨i, hi, rfl, WR, HB, HF, HA⟩ := hrel
      by_cases hlt : i < x.cases.n
      · exfalso; omega
      · have hii : ¬ (i : Int) < (x.cases.n : Int) := by omega
        have W2 : Hid (Wr W0.heap.size p (Q ++ x.cs.flatMap caseL) wr) := by
          show Wr _ _ _ _
          have := WR.out; rw [List.take_of_length_le (by rw [Hhr.out.1]; omega)] at this; exact this
        have ha := HA.out
        have d0 := box_cell ha 4
        simp only [List.getElem?_toArray, List.getElem?_cons_zero, List.getElem?_cons_succ] at d0
        have HC := hid (number_any W0.heap.size p _ x.els wr Hhx.out.2.2.2 W2.out (by have := HQL.out; simp only [List.length_append] at this ⊢; omega))
        clear ha WR HA
        go_wp2_with fail
        refine HC.out.mono ?_
        rintro e v1 ⟨rfl, h1, h2, h3⟩
        rw [List.append_assoc] at h1
        have HE : Hid (WDone W0.heap.size p (Q ++ (x.cs.flatMap caseL ++ numL x.els)) w (.returned (.tuple #[])) v1) := ⟨rfl, h1, HB.out.trans h2, HF.out.trans h3⟩
        clear h1 h2 h3 HC HB HF
        go_wp2
        go_end0
        exact HE.out
  · have ez : (0 : Int) < (x.cases.n : Int) := by omega
    have es : stateL x = (numL x.head ++ numL (x.cases.n : Int)) ++ (refL x.r ++ (x.cs.flatMap caseL ++ numL x.els)) := by unfold stateL; rw [if_neg kz]
    rw [es] at HL ⊢
    clear es kz
    obtain ⟨Q, EQ⟩ : ∃ Q, Hid (Q = bs ++ ((numL x.head ++ numL (x.cases.n : Int)) ++ refL x.r)) := ⟨_, rfl⟩
    have HQL : Hid ((Q ++ (x.cs.flatMap caseL ++ numL x.els)).length ≤ 9000000) := by
      show _ ≤ _
      rw [EQ.out]; have := HL.out; simp only [List.length_append] at this ⊢; omega
    have HQT : Hid (bs ++ ((numL x.head ++ numL (x.cases.n : Int)) ++ (refL x.r ++ (x.cs.flatMap caseL ++ numL x.els))) = Q ++ (x.cs.flatMap caseL ++ numL x.els)) := by
      show _ = _
      rw [EQ.out]; simp only [List.append_assoc]
    rw [HQT.out]
    have HP1 := hid (two_any W0.heap.size p (w.heap.size + 1) _ x.head (x.cases.n : Int) (w.alloc (.cells #[.int .i64 x.head, .int .i64 x.r.h, .int .i64 x.r.f, .slice sa x.cases.n x.cases.c, .int .i64 x.els] 51)) (by simp) Hhx.out.1 hwn.out H0.out (by have := HL.out; simp only [List.length_append] at this ⊢; omega))
    go_enter Tryz.func59, Tryz.ntmps59
    go_wp2_with fail
    refine HP1.out.mono ?_
    rintro e w1 ⟨rfl, h1, h2, h3⟩
    replace h2 := (((bl_alloc (Below.refl _ _)).mono H0.out.bl : Below _ (w.alloc (.cells #[.int .i64 x.head, .int .i64 x.r.h, .int .i64 x.r.f, .slice sa x.cases.n x.cases.c, .int .i64 x.els] 51)) ((w.alloc (.cells #[.int .i64 x.head, .int .i64 x.r.h, .int .i64 x.r.f, .slice sa x.cases.n x.cases.c, .int .i64 x.els] 51)).alloc (.cells #[.int .i64 x.head, .int .i64 (x.cases.n : Int)] 3)))).trans h2
    replace h3 := (Fram.below (bl_alloc (Below.refl _ _)) : Fram p (w.alloc (.cells #[.int .i64 x.head, .int .i64 x.r.h, .int .i64 x.r.f, .slice sa x.cases.n x.cases.c, .int .i64 x.els] 51)) ((w.alloc (.cells #[.int .i64 x.head, .int .i64 x.r.h, .int .i64 x.r.f, .slice sa x.cases.n x.cases.c, .int .i64 x.els] 51)).alloc (.cells #[.int .i64 x.head, .int .i64 (x.cases.n : Int)] 3))).trans h3
    have B1 := hid (B0.out.trans h2)
    have F1 := hid (F0.out.trans h3)
    have H1 := hid h1
    have ha := h3.2 _ _ _ _ hbp.out (by decide) HA0.out
    have HA1 := hid ha
    have c10 := box_cell ha 0
    have c11 := box_cell ha 1
    have c12 := box_cell ha 2
    have c13 := box_cell ha 3
    have c14 := box_cell ha 4
    simp only [List.getElem?_toArray, List.getElem?_cons_zero, List.getElem?_cons_succ] at c10 c11 c12 c13 c14
    clear h1 h2 h3 ha HP1
    have HP2 := hid (field_wr W0.heap.size p _ x.r w1 ⟨Hhx.out.2.1, Hhx.out.2.2.1⟩ H1.out (by have := HL.out; simp only [List.length_append] at this ⊢; omega))
    go_wp2_with fail
    refine HP2.out.mono ?_
    rintro e w2 ⟨rfl, h1, h2, h3⟩
    have B2 := hid (B1.out.trans h2)
    have F2 := hid (F1.out.trans h3)
    have H2 := hid h1
    have ha := h3.2 _ _ _ _ hbp.out (by decide) HA1.out
    have HA2 := hid ha
    have c20 := box_cell ha 0
    have c21 := box_cell ha 1
    have c22 := box_cell ha 2
    have c23 := box_cell ha 3
    have c24 := box_cell ha 4
    simp only [List.getElem?_toArray, List.getElem?_cons_zero, List.getElem?_cons_succ] at c20 c21 c22 c23 c24
    clear h1 h2 h3 ha HP2 c10 c11 c12 c13 c14
    go_wp2
    have HQ : Hid (Wr W0.heap.size p (bs ++ ((numL x.head ++ numL (x.cases.n : Int)) ++ refL x.r)) w2) := by
      have h1 := H2.out
      have hh : Wr W0.heap.size p (bs ++ ((numL x.head ++ numL (x.cases.n : Int)) ++ refL x.r)) w2 := by simpa only [List.append_assoc] using h1
      exact hh
    rw [← EQ.out] at HQ
    clear EQ HL HQT H2
    go_loopw [25, 5] (fun q _ wr => ∃ i : Nat, i ≤ x.cases.n ∧ q = .int .i64 i ∧ Hid (Wr W0.heap.size p (Q ++ (x.cs.take i).flatMap caseL) wr) ∧ Hid (Below W0.heap.size w wr) ∧ Hid (Fram p w wr) ∧ Hid (wr.heap[w.heap.size]? = some (.cells #[.int .i64 x.head, .int .i64 x.r.h, .int .i64 x.r.f, .slice sa x.cases.n x.cases.c, .int .i64 x.els] 51 (0, 0)))) (fun q _ _ => x.cases.n - (intOf q).toNat)
    case atStart => exact ⟨0, Nat.zero_le _, rfl, by simpa using HQ, B2, F2, HA2⟩
    case round =>
      obtain ⟨i, hi, rfl, WR, HB, HF, HA⟩ := hrel
      by_cases hlt : i < x.cases.n
      · have hii : (i : Int) < (x.cases.n : Int) := by omega
        obtain ⟨g, off, y, ea, hy, hp⟩ := row_at (Hhr.out.step CaseD.keeps (HW.out.trans HB.out)) hlt
        obtain rfl : sa = some ⟨g, off, none⟩ := by rw [← ESA.out]; exact ea
        have HT := hid (flat_take (f := caseL) hy)
        have hle := flat_le caseL x.cs (i + 1)
        obtain ⟨v, m, t⟩ := y
        obtain ⟨⟨c0, u0⟩, ⟨c1, u1⟩, ⟨c2, u2⟩⟩ := hp
        have b0 := bounds_u64 u0
        have b1 := bounds_u64 u1
        obtain ⟨N, rfl⟩ : ∃ N : Nat, v = N := ⟨v.toNat, by simp only at b0; omega⟩
        obtain ⟨M, rfl⟩ : ∃ M : Nat, m = M := ⟨m.toNat, by simp only at b1; omega⟩
        have hN : N < 18446744073709551616 := by simp only at b0; omega
        have hM : M < 18446744073709551616 := by simp only at b1; omega
        have U2 := hid u2
        simp only at c0 c1 c2
        have ec : caseL ⟨(N : Int), (M : Int), t⟩ = plainL N ++ (plainL M ++ numL t) := by unfold caseL; simp only [Int.toNat_natCast]
        rw [ec] at HT
        have HLE : Hid ((Q ++ (x.cs.take i).flatMap caseL ++ (plainL N ++ (plainL M ++ numL t))).length ≤ 9000000) := by
          show _ ≤ _
          have := HQL.out
          rw [HT.out] at hle
          simp only [List.length_append] at this hle ⊢
          omega
        have BX : Hid (Below wr.heap.size wr (wr.alloc (.cells #[.int .u64 (N : Int), .int .u64 (M : Int), .int .i64 t] 98))) := bl_alloc (Below.refl _ _)
        have hws := hid (HW.out.trans HB.out).size
        have HBX := hid (alloc_at wr #[.int .u64 (N : Int), .int .u64 (M : Int), .int .i64 t] 98)
        have hbq : Hid (wr.heap.size ≠ p) := by show _ ≠ _; have := WR.out.pl; omega
        have HC := hid (plain_any W0.heap.size p _ N _ hN (WR.out.step BX.out) (by have := HLE.out; simp only [List.length_append] at this ⊢; omega))
        clear ea hy hle u0 u1 u2 b0 b1 ec
        go_wp2_with fail
        refine HC.out.mono ?_
        rintro e v1 ⟨rfl, h1, h2, h3⟩
        have ha := h3.2 _ _ _ _ hbq.out (by decide) HBX.out
        have d0 := box_cell ha 0
        have d1 := box_cell ha 1
        have d2 := box_cell ha 2
        simp only [List.getElem?_toArray, List.getElem?_cons_zero, List.getElem?_cons_succ] at d0 d1 d2
        have HC2 := hid (plain_any W0.heap.size p _ M v1 hM h1 (by have := HLE.out; simp only [List.length_append] at this ⊢; omega))
        have HA1 := hid ha
        have R12 := hid (HB.out.trans ((BX.out.mono hws.out).trans h2))
        have R13 := hid ((HF.out.trans (Fram.below BX.out)).trans h3)
        have R14 := hid (((Fram.below BX.out).trans h3).2 _ _ _ _ hbp.out (by decide) HA.out)
        clear h1 h2 h3 ha HC c0 c1 c2
        go_wp2_with fail
        refine HC2.out.mono ?_
        rintro e v2 ⟨rfl, h1, h2, h3⟩
        have ha := h3.2 _ _ _ _ hbq.out (by decide) HA1.out
        have d20 := box_cell ha 0
        have d21 := box_cell ha 1
        have d22 := box_cell ha 2
        simp only [List.getElem?_toArray, List.getElem?_cons_zero, List.getElem?_cons_succ] at d20 d21 d22
        have HC3 := hid (number_any W0.heap.size p _ t v2 U2.out h1 (by have := HLE.out; simp only [List.length_append] at this ⊢; omega))
        have R22 := hid (R12.out.trans h2)
        have R23 := hid (R13.out.trans h3)
        have R24 := hid (h3.2 _ _ _ _ hbp.out (by decide) R14.out)
        clear h1 h2 h3 ha HC2 d0 d1 d2
        go_wp2_with fail
        refine HC3.out.mono ?_
        rintro e v3 ⟨rfl, h1, h2, h3⟩
        have R1 : Hid (Wr W0.heap.size p (Q ++ (x.cs.take (i + 1)).flatMap caseL) v3) := by
          show Wr _ _ _ _
          rw [HT.out]; simpa only [List.append_assoc] using h1
        have R2 := hid (R22.out.trans h2)
        have R3 := hid (R23.out.trans h3)
        have R4 := hid (h3.2 _ _ _ _ hbp.out (by decide) R24.out)
        clear h1 h2 h3 HC3 d20 d21 d22 WR HB HF HA HT
        go_wp2
        go_roundw
        case rel => exact ⟨i + 1, by omega, by go_num, R1, R2, R3, R4⟩
        case measure => simp [intOf]; omega
      · have hii : ¬ (i : Int) < (x.cases.n : Int) := by omega
        have W2 : Hid (Wr W0.heap.size p (Q ++ x.cs.flatMap caseL) wr) := by
          show Wr _ _ _ _
          have := WR.out; rw [List.take_of_length_le (by rw [Hhr.out.1]; omega)] at this; exact this
        have ha := HA.out
        have d0 := box_cell ha 4
        simp only [List.getElem?_toArray, List.getElem?_cons_zero, List.getElem?_cons_succ] at d0
        have HC := hid (number_any W0.heap.size p _ x.els wr Hhx.out.2.2.2 W2.out (by have := HQL.out; simp only [List.length_append] at this ⊢; omega))
        clear ha WR HA
        go_wp2_with fail
        refine HC.out.mono ?_
        rintro e v1 ⟨rfl, h1, h2, h3⟩
        rw [List.append_assoc] at h1
        have HE : Hid (WDone W0.heap.size p (Q ++ (x.cs.flatMap caseL ++ numL x.els)) w (.returned (.tuple #[])) v1) := ⟨rfl, h1, HB.out.trans h2, HF.out.trans h3⟩
        clear h1 h2 h3 HC HB HF
        go_wp2
        go_end0
        exact HE.out
end Go.Proofs.YtedeiaokohdhpaaGreat
