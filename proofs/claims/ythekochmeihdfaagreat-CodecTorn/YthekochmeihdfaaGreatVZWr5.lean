/- The writer of plans: deeds. -/
import Derived.Test.YthekochmeihdfaaGreatVZWr4
namespace Go.Proofs.YthekochmeihdfaaGreat
open Go.RowKit

def opL (x : OpD) : List Int := numL x.kind ++ (if x.kind = 1 then refL x.r ++ treeL x.es else if x.kind = 2 then numL x.head else if x.kind = 3 then numL x.head else if x.kind = 5 then treeL x.es else if x.kind = 6 then refL x.r ++ numL x.head else [])

set_option maxHeartbeats 8000000 in
set_option maxRecDepth 20000 in
theorem deed_wr (W0 : World) (p : Nat) (bs : List Int) (x : OpD) (w : World) (h : Wr W0.heap.size p bs w) (hw0 : Below W0.heap.size W0 w) (hx : wfI x.kind ∧ wfI x.r.h ∧ wfI x.r.f ∧ wfI x.head) (hr : QRow 4 PushD.lie W0 x.e x.es) (hn : x.e.n ≤ 100000) (hl : (bs ++ opL x).length ≤ 9000000) :
    Calls Tryz.prog 107 #[.pointer (some ⟨p, 0, none⟩), .agg #[.int .i64 x.kind, .int .i64 x.r.h, .int .i64 x.r.f, .int .i64 x.head, .slice x.e.a x.e.n x.e.c]] w (WDone W0.heap.size p (bs ++ opL x) w) := by
  have hb1 : Below w.heap.size w (w.alloc (.cells #[.int .i64 x.kind, .int .i64 x.r.h, .int .i64 x.r.f, .int .i64 x.head, .slice x.e.a x.e.n x.e.c] 61)) := bl_alloc (Below.refl _ _)
  have HC := hid (number_any W0.heap.size p bs x.kind _ hx.1 (h.step hb1) (by rw [opL, ← List.append_assoc, List.length_append] at hl; omega))
  have hat := alloc_at w #[.int .i64 x.kind, .int .i64 x.r.h, .int .i64 x.r.f, .int .i64 x.head, .slice x.e.a x.e.n x.e.c] 61
  have hbp0 : w.heap.size ≠ p := by have := h.pl; omega
  have HD : Hid (∀ w1, Wr W0.heap.size p (bs ++ numL x.kind) w1 → Below W0.heap.size (w.alloc (.cells #[.int .i64 x.kind, .int .i64 x.r.h, .int .i64 x.r.f, .int .i64 x.head, .slice x.e.a x.e.n x.e.c] 61)) w1 → Fram p (w.alloc (.cells #[.int .i64 x.kind, .int .i64 x.r.h, .int .i64 x.r.f, .int .i64 x.head, .slice x.e.a x.e.n x.e.c] 61)) w1 → Below W0.heap.size w w1 ∧ Fram p w w1 ∧ w1.heap[w.heap.size]? = some (.cells #[.int .i64 x.kind, .int .i64 x.r.h, .int .i64 x.r.f, .int .i64 x.head, .slice x.e.a x.e.n x.e.c] 61 (0, 0))) := fun w1 h1 h2 h3 => 
    ⟨(hb1.mono h.bl).trans h2, (Fram.below hb1).trans h3, h3.2 _ _ _ _ hbp0 (by decide) hat⟩
  have HL := hid hl
  have HX := hid hx
  have HW := hid hw0
  have HR := hid hr
  have hbp := hid hbp0
  clear h hl hx hb1 hat hw0 hr hbp0
  by_cases k1 : x.kind = 1
  · have e1 : (x.kind == 1) = true := by simpa using k1
    have KK := hid k1
    have KS : Hid True := trivial
    clear k1
    have es : opL x = numL x.kind ++ (refL x.r ++ treeL x.es) := by unfold opL; rw [if_pos KK.out]
    rw [es] at HL ⊢
    clear es KS KK
    go_enter Tryz.func107, Tryz.ntmps107
    go_wp2_with fail
    refine HC.out.mono ?_
    rintro e w1 ⟨rfl, h1, h2, h3⟩
    obtain ⟨b1, f1, ha1⟩ := HD.out w1 h1 h2 h3
    have HA1 := hid ha1
    have B1 := hid b1
    have F1 := hid f1
    have H1 := hid h1
    have c10 := box_cell ha1 0
    have c11 := box_cell ha1 1
    have c12 := box_cell ha1 2
    have c13 := box_cell ha1 3
    have c14 := box_cell ha1 4
    simp only [List.getElem?_toArray, List.getElem?_cons_zero, List.getElem?_cons_succ] at c10 c11 c12 c13 c14
    clear h1 h2 h3 b1 f1 ha1 HC HD
    have HP2 := hid (field_wr W0.heap.size p _ x.r w1 ⟨HX.out.2.1, HX.out.2.2.1⟩ H1.out (by have := HL.out; simp only [List.length_append] at this ⊢; omega))
    go_wp2_with fail
    refine HP2.out.mono ?_
    rintro e w2 ⟨rfl, h1, h2, h3⟩
    have B2 := hid (B1.out.trans h2)
    have F2 := hid (F1.out.trans h3)
    have H2 := hid h1
    have ha := h3.2 _ _ _ _ hbp.out (by decide) HA1.out
    have HA2 := hid ha
    have c20 := box_cell ha 0
    have c21 := box_cell ha 1
    have c22 := box_cell ha 2
    have c23 := box_cell ha 3
    have c24 := box_cell ha 4
    simp only [List.getElem?_toArray, List.getElem?_cons_zero, List.getElem?_cons_succ] at c20 c21 c22 c23 c24
    clear h1 h2 h3 ha HP2 c10 c11 c12 c13 c14
    have HP3 := hid (tree_wr W0 p _ x.e x.es w2 H2.out (HW.out.trans B2.out) HR.out hn (by have := HL.out; simp only [List.length_append] at this ⊢; omega))
    go_wp2_with fail
    refine HP3.out.mono ?_
    rintro e w3 ⟨rfl, h1, h2, h3⟩
    have B3 := hid (B2.out.trans h2)
    have F3 := hid (F2.out.trans h3)
    have H3 := hid h1
    have ha := h3.2 _ _ _ _ hbp.out (by decide) HA2.out
    have HA3 := hid ha
    have c30 := box_cell ha 0
    have c31 := box_cell ha 1
    have c32 := box_cell ha 2
    have c33 := box_cell ha 3
    have c34 := box_cell ha 4
    simp only [List.getElem?_toArray, List.getElem?_cons_zero, List.getElem?_cons_succ] at c30 c31 c32 c33 c34
    clear h1 h2 h3 ha HP3 c20 c21 c22 c23 c24
    have HE : Hid (WDone W0.heap.size p (bs ++ (numL x.kind ++ (refL x.r ++ treeL x.es))) w (.returned (.tuple #[])) w3) := by
      have h1 := H3.out
      have hh : Wr W0.heap.size p (bs ++ (numL x.kind ++ (refL x.r ++ treeL x.es))) w3 := by simpa only [List.append_assoc] using h1
      exact ⟨rfl, hh, B3.out, F3.out⟩
    go_wp2
    go_end0
    exact HE.out
  have e1 : (x.kind == 1) = false := by simpa using k1
  by_cases k2 : x.kind = 2
  · have e2 : (x.kind == 2) = true := by simpa using k2
    have KK := hid k2
    have KS : Hid (¬ x.kind = 1 ∧ True) := ⟨k1, trivial⟩
    clear k1 k2
    have es : opL x = numL x.kind ++ numL x.head := by unfold opL; rw [if_neg KS.out.1, if_pos KK.out]
    rw [es] at HL ⊢
    clear es KS KK
    go_enter Tryz.func107, Tryz.ntmps107
    go_wp2_with fail
    refine HC.out.mono ?_
    rintro e w1 ⟨rfl, h1, h2, h3⟩
    obtain ⟨b1, f1, ha1⟩ := HD.out w1 h1 h2 h3
    have HA1 := hid ha1
    have B1 := hid b1
    have F1 := hid f1
    have H1 := hid h1
    have c10 := box_cell ha1 0
    have c11 := box_cell ha1 1
    have c12 := box_cell ha1 2
    have c13 := box_cell ha1 3
    have c14 := box_cell ha1 4
    simp only [List.getElem?_toArray, List.getElem?_cons_zero, List.getElem?_cons_succ] at c10 c11 c12 c13 c14
    clear h1 h2 h3 b1 f1 ha1 HC HD
    have HP2 := hid (number_any W0.heap.size p _ x.head w1 HX.out.2.2.2 H1.out (by have := HL.out; simp only [List.length_append] at this ⊢; omega))
    go_wp2_with fail
    refine HP2.out.mono ?_
    rintro e w2 ⟨rfl, h1, h2, h3⟩
    have B2 := hid (B1.out.trans h2)
    have F2 := hid (F1.out.trans h3)
    have H2 := hid h1
    have ha := h3.2 _ _ _ _ hbp.out (by decide) HA1.out
    have HA2 := hid ha
    have c20 := box_cell ha 0
    have c21 := box_cell ha 1
    have c22 := box_cell ha 2
    have c23 := box_cell ha 3
    have c24 := box_cell ha 4
    simp only [List.getElem?_toArray, List.getElem?_cons_zero, List.getElem?_cons_succ] at c20 c21 c22 c23 c24
    clear h1 h2 h3 ha HP2 c10 c11 c12 c13 c14
    have HE : Hid (WDone W0.heap.size p (bs ++ (numL x.kind ++ numL x.head)) w (.returned (.tuple #[])) w2) := by
      have h1 := H2.out
      have hh : Wr W0.heap.size p (bs ++ (numL x.kind ++ numL x.head)) w2 := by simpa only [List.append_assoc] using h1
      exact ⟨rfl, hh, B2.out, F2.out⟩
    go_wp2
    go_end0
    exact HE.out
  have e2 : (x.kind == 2) = false := by simpa using k2
  by_cases k3 : x.kind = 3
  · have e3 : (x.kind == 3) = true := by simpa using k3
    have KK := hid k3
    have KS : Hid (¬ x.kind = 1 ∧ ¬ x.kind = 2 ∧ True) := ⟨k1, k2, trivial⟩
    clear k1 k2 k3
    have es : opL x = numL x.kind ++ numL x.head := by unfold opL; rw [if_neg KS.out.1, if_neg KS.out.2.1, if_pos KK.out]
    rw [es] at HL ⊢
    clear es KS KK
    go_enter Tryz.func107, Tryz.ntmps107
    go_wp2_with fail
    refine HC.out.mono ?_
    rintro e w1 ⟨rfl, h1, h2, h3⟩
    obtain ⟨b1, f1, ha1⟩ := HD.out w1 h1 h2 h3
    have HA1 := hid ha1
    have B1 := hid b1
    have F1 := hid f1
    have H1 := hid h1
    have c10 := box_cell ha1 0
    have c11 := box_cell ha1 1
    have c12 := box_cell ha1 2
    have c13 := box_cell ha1 3
    have c14 := box_cell ha1 4
    simp only [List.getElem?_toArray, List.getElem?_cons_zero, List.getElem?_cons_succ] at c10 c11 c12 c13 c14
    clear h1 h2 h3 b1 f1 ha1 HC HD
    have HP2 := hid (number_any W0.heap.size p _ x.head w1 HX.out.2.2.2 H1.out (by have := HL.out; simp only [List.length_append] at this ⊢; omega))
    go_wp2_with fail
    refine HP2.out.mono ?_
    rintro e w2 ⟨rfl, h1, h2, h3⟩
    have B2 := hid (B1.out.trans h2)
    have F2 := hid (F1.out.trans h3)
    have H2 := hid h1
    have ha := h3.2 _ _ _ _ hbp.out (by decide) HA1.out
    have HA2 := hid ha
    have c20 := box_cell ha 0
    have c21 := box_cell ha 1
    have c22 := box_cell ha 2
    have c23 := box_cell ha 3
    have c24 := box_cell ha 4
    simp only [List.getElem?_toArray, List.getElem?_cons_zero, List.getElem?_cons_succ] at c20 c21 c22 c23 c24
    clear h1 h2 h3 ha HP2 c10 c11 c12 c13 c14
    have HE : Hid (WDone W0.heap.size p (bs ++ (numL x.kind ++ numL x.head)) w (.returned (.tuple #[])) w2) := by
      have h1 := H2.out
      have hh : Wr W0.heap.size p (bs ++ (numL x.kind ++ numL x.head)) w2 := by simpa only [List.append_assoc] using h1
      exact ⟨rfl, hh, B2.out, F2.out⟩
    go_wp2
    go_end0
    exact HE.out
  have e3 : (x.kind == 3) = false := by simpa using k3
  by_cases k5 : x.kind = 5
  · have e5 : (x.kind == 5) = true := by simpa using k5
    have KK := hid k5
    have KS : Hid (¬ x.kind = 1 ∧ ¬ x.kind = 2 ∧ ¬ x.kind = 3 ∧ True) := ⟨k1, k2, k3, trivial⟩
    clear k1 k2 k3 k5
    have es : opL x = numL x.kind ++ treeL x.es := by unfold opL; rw [if_neg KS.out.1, if_neg KS.out.2.1, if_neg KS.out.2.2.1, if_pos KK.out]
    rw [es] at HL ⊢
    clear es KS KK
    go_enter Tryz.func107, Tryz.ntmps107
    go_wp2_with fail
    refine HC.out.mono ?_
    rintro e w1 ⟨rfl, h1, h2, h3⟩
    obtain ⟨b1, f1, ha1⟩ := HD.out w1 h1 h2 h3
    have HA1 := hid ha1
    have B1 := hid b1
    have F1 := hid f1
    have H1 := hid h1
    have c10 := box_cell ha1 0
    have c11 := box_cell ha1 1
    have c12 := box_cell ha1 2
    have c13 := box_cell ha1 3
    have c14 := box_cell ha1 4
    simp only [List.getElem?_toArray, List.getElem?_cons_zero, List.getElem?_cons_succ] at c10 c11 c12 c13 c14
    clear h1 h2 h3 b1 f1 ha1 HC HD
    have HP2 := hid (tree_wr W0 p _ x.e x.es w1 H1.out (HW.out.trans B1.out) HR.out hn (by have := HL.out; simp only [List.length_append] at this ⊢; omega))
    go_wp2_with fail
    refine HP2.out.mono ?_
    rintro e w2 ⟨rfl, h1, h2, h3⟩
    have B2 := hid (B1.out.trans h2)
    have F2 := hid (F1.out.trans h3)
    have H2 := hid h1
    have ha := h3.2 _ _ _ _ hbp.out (by decide) HA1.out
    have HA2 := hid ha
    have c20 := box_cell ha 0
    have c21 := box_cell ha 1
    have c22 := box_cell ha 2
    have c23 := box_cell ha 3
    have c24 := box_cell ha 4
    simp only [List.getElem?_toArray, List.getElem?_cons_zero, List.getElem?_cons_succ] at c20 c21 c22 c23 c24
    clear h1 h2 h3 ha HP2 c10 c11 c12 c13 c14
    have HE : Hid (WDone W0.heap.size p (bs ++ (numL x.kind ++ treeL x.es)) w (.returned (.tuple #[])) w2) := by
      have h1 := H2.out
      have hh : Wr W0.heap.size p (bs ++ (numL x.kind ++ treeL x.es)) w2 := by simpa only [List.append_assoc] using h1
      exact ⟨rfl, hh, B2.out, F2.out⟩
    go_wp2
    go_end0
    exact HE.out
  have e5 : (x.kind == 5) = false := by simpa using k5
  by_cases k6 : x.kind = 6
  · have e6 : (x.kind == 6) = true := by simpa using k6
    have KK := hid k6
    have KS : Hid (¬ x.kind = 1 ∧ ¬ x.kind = 2 ∧ ¬ x.kind = 3 ∧ ¬ x.kind = 5 ∧ True) := ⟨k1, k2, k3, k5, trivial⟩
    clear k1 k2 k3 k5 k6
    have es : opL x = numL x.kind ++ (refL x.r ++ numL x.head) := by unfold opL; rw [if_neg KS.out.1, if_neg KS.out.2.1, if_neg KS.out.2.2.1, if_neg KS.out.2.2.2.1, if_pos KK.out]
    rw [es] at HL ⊢
    clear es KS KK
    go_enter Tryz.func107, Tryz.ntmps107
    go_wp2_with fail
    refine HC.out.mono ?_
    rintro e w1 ⟨rfl, h1, h2, h3⟩
    obtain ⟨b1, f1, ha1⟩ := HD.out w1 h1 h2 h3
    have HA1 := hid ha1
    have B1 := hid b1
    have F1 := hid f1
    have H1 := hid h1
    have c10 := box_cell ha1 0
    have c11 := box_cell ha1 1
    have c12 := box_cell ha1 2
    have c13 := box_cell ha1 3
    have c14 := box_cell ha1 4
    simp only [List.getElem?_toArray, List.getElem?_cons_zero, List.getElem?_cons_succ] at c10 c11 c12 c13 c14
    clear h1 h2 h3 b1 f1 ha1 HC HD
    have HP2 := hid (field_wr W0.heap.size p _ x.r w1 ⟨HX.out.2.1, HX.out.2.2.1⟩ H1.out (by have := HL.out; simp only [List.length_append] at this ⊢; omega))
    go_wp2_with fail
    refine HP2.out.mono ?_
    rintro e w2 ⟨rfl, h1, h2, h3⟩
    have B2 := hid (B1.out.trans h2)
    have F2 := hid (F1.out.trans h3)
    have H2 := hid h1
    have ha := h3.2 _ _ _ _ hbp.out (by decide) HA1.out
    have HA2 := hid ha
    have c20 := box_cell ha 0
    have c21 := box_cell ha 1
    have c22 := box_cell ha 2
    have c23 := box_cell ha 3
    have c24 := box_cell ha 4
    simp only [List.getElem?_toArray, List.getElem?_cons_zero, List.getElem?_cons_succ] at c20 c21 c22 c23 c24
    clear h1 h2 h3 ha HP2 c10 c11 c12 c13 c14
    have HP3 := hid (number_any W0.heap.size p _ x.head w2 HX.out.2.2.2 H2.out (by have := HL.out; simp only [List.length_append] at this ⊢; omega))
    go_wp2_with fail
    refine HP3.out.mono ?_
    rintro e w3 ⟨rfl, h1, h2, h3⟩
    have B3 := hid (B2.out.trans h2)
    have F3 := hid (F2.out.trans h3)
    have H3 := hid h1
    have ha := h3.2 _ _ _ _ hbp.out (by decide) HA2.out
    have HA3 := hid ha
    have c30 := box_cell ha 0
    have c31 := box_cell ha 1
    have c32 := box_cell ha 2
    have c33 := box_cell ha 3
    have c34 := box_cell ha 4
    simp only [List.getElem?_toArray, List.getElem?_cons_zero, List.getElem?_cons_succ] at c30 c31 c32 c33 c34
    clear h1 h2 h3 ha HP3 c20 c21 c22 c23 c24
    have HE : Hid (WDone W0.heap.size p (bs ++ (numL x.kind ++ (refL x.r ++ numL x.head))) w (.returned (.tuple #[])) w3) := by
      have h1 := H3.out
      have hh : Wr W0.heap.size p (bs ++ (numL x.kind ++ (refL x.r ++ numL x.head))) w3 := by simpa only [List.append_assoc] using h1
      exact ⟨rfl, hh, B3.out, F3.out⟩
    go_wp2
    go_end0
    exact HE.out
  have e6 : (x.kind == 6) = false := by simpa using k6
  have KS : Hid (¬ x.kind = 1 ∧ ¬ x.kind = 2 ∧ ¬ x.kind = 3 ∧ ¬ x.kind = 5 ∧ ¬ x.kind = 6 ∧ True) := ⟨k1, k2, k3, k5, k6, trivial⟩
  clear k1 k2 k3 k5 k6
  have es : opL x = numL x.kind := by unfold opL; rw [if_neg KS.out.1, if_neg KS.out.2.1, if_neg KS.out.2.2.1, if_neg KS.out.2.2.2.1, if_neg KS.out.2.2.2.2.1, List.append_nil]
  rw [es] at HL ⊢
  clear es KS
  go_enter Tryz.func107, Tryz.ntmps107
  go_wp2_with fail
  refine HC.out.mono ?_
  rintro e w1 ⟨rfl, h1, h2, h3⟩
  obtain ⟨b1, f1, ha1⟩ := HD.out w1 h1 h2 h3
  have HA1 := hid ha1
  have B1 := hid b1
  have F1 := hid f1
  have H1 := hid h1
  have c10 := box_cell ha1 0
  have c11 := box_cell ha1 1
  have c12 := box_cell ha1 2
  have c13 := box_cell ha1 3
  have c14 := box_cell ha1 4
  simp only [List.getElem?_toArray, List.getElem?_cons_zero, List.getElem?_cons_succ] at c10 c11 c12 c13 c14
  clear h1 h2 h3 b1 f1 ha1 HC HD
  have HE : Hid (WDone W0.heap.size p (bs ++ (numL x.kind)) w (.returned (.tuple #[])) w1) := by
    have h1 := H1.out
    have hh : Wr W0.heap.size p (bs ++ (numL x.kind)) w1 := by simpa only [List.append_assoc] using h1
    exact ⟨rfl, hh, B1.out, F1.out⟩
  go_wp2
  go_end0
  exact HE.out
end Go.Proofs.YthekochmeihdfaaGreat
