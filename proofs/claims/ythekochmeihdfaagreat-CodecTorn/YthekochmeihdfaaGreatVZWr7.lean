/- The writer of plans: states. -/
import Derived.Test.YthekochmeihdfaaGreatVZWr6
namespace Go.Proofs.YthekochmeihdfaaGreat
open Go.RowKit

def caseL (x : CaseD) : List Int := plainL x.value.toNat ++ (plainL x.mask.toNat ++ numL x.to)
def stateL (x : StateD) : List Int := (numL x.head ++ numL (x.cases.n : Int)) ++ ((if x.cases.n = 0 then [] else refL x.r) ++ (x.cs.flatMap caseL ++ numL x.els))

set_option maxHeartbeats 8000000 in
set_option maxRecDepth 20000 in
theorem state_wr (W0 : World) (p : Nat) (bs : List Int) (x : StateD) (w : World) (h : Wr W0.heap.size p bs w) (hw0 : Below W0.heap.size W0 w) (hx : wfI x.head ∧ wfI x.r.h ∧ wfI x.r.f ∧ wfI x.els) (hr : QRow 3 CaseD.lie W0 x.cases x.cs) (hn : x.cases.n ≤ 100000) (hl : (bs ++ stateL x).length ≤ 9000000) :
    Calls Tryz.prog 60 #[.pointer (some ⟨p, 0, none⟩), .agg #[.int .i64 x.head, .int .i64 x.r.h, .int .i64 x.r.f, .slice x.cases.a x.cases.n x.cases.c, .int .i64 x.els]] w (WDone W0.heap.size p (bs ++ stateL x) w) := by
  obtain ⟨sa, esa⟩ : ∃ sa, x.cases.a = sa := ⟨_, rfl⟩
  rw [esa]
  have ESA := hid esa
  have hb1 : Below w.heap.size w (w.alloc (.cells #[.int .i64 x.head, .int .i64 x.r.h, .int .i64 x.r.f, .slice sa x.cases.n x.cases.c, .int .i64 x.els] 53)) := bl_alloc (Below.refl _ _)
  have H0 := hid (h.step hb1)
  have B0 := hid (hb1.mono h.bl)
  have F0 := hid (Fram.below hb1 : Fram p w (w.alloc (.cells #[.int .i64 x.head, .int .i64 x.r.h, .int .i64 x.r.f, .slice sa x.cases.n x.cases.c, .int .i64 x.els] 53)))
  have HA0 := hid (alloc_at w #[.int .i64 x.head, .int .i64 x.r.h, .int .i64 x.r.f, .slice sa x.cases.n x.cases.c, .int .i64 x.els] 53)
  have hbp0 : w.heap.size ≠ p := by have := h.pl; omega
  have HL := hid hl
  have HW := hid hw0
  have hbp := hid hbp0
  have Hhx := hid hx
  have Hhr := hid hr
  have hwn : Hid (wfI (x.cases.n : Int)) := wf_i64 _ (by omega)
  clear h hl hb1 hw0 hbp0 hx hr esa
  by_cases kz : x.cases.n = 0
  · have ez : ¬ (0 : Int) < (x.cases.n : Int) := by omega
    have es : stateL x = (numL x.head ++ numL (x.cases.n : Int)) ++ ([] ++ (x.cs.flatMap caseL ++ numL x.els)) := by unfold stateL; rw [if_pos kz]
    rw [es] at HL ⊢
    clear es kz
    obtain ⟨Q, EQ⟩ : ∃ Q, Hid (Q = bs ++ ((numL x.head ++ numL (x.cases.n : Int)))) := ⟨_, rfl⟩
    have HQL : Hid ((Q ++ (x.cs.flatMap caseL ++ numL x.els)).length ≤ 9000000) := by
      show _ ≤ _
      rw [EQ.out]; have := HL.out; simp only [List.length_append, List.length_nil] at this ⊢; omega
    have HQT : Hid (bs ++ ((numL x.head ++ numL (x.cases.n : Int)) ++ ([] ++ (x.cs.flatMap caseL ++ numL x.els))) = Q ++ (x.cs.flatMap caseL ++ numL x.els)) := by
      show _ = _
      rw [EQ.out]; simp only [List.append_assoc, List.nil_append]
    rw [HQT.out]
    have HP1 := hid (two_any W0.heap.size p (w.heap.size + 1) _ x.head (x.cases.n : Int) (w.alloc (.cells #[.int .i64 x.head, .int .i64 x.r.h, .int .i64 x.r.f, .slice sa x.cases.n x.cases.c, .int .i64 x.els] 53)) (by simp) Hhx.out.1 hwn.out H0.out (by have := HL.out; simp only [List.length_append] at this ⊢; omega))
    go_enter Tryz.func60, Tryz.ntmps60
    go_wp2_with fail
    refine HP1.out.mono ?_
    rintro e w1 ⟨rfl, h1, h2, h3⟩
    replace h2 := (((bl_alloc (Below.refl _ _)).mono H0.out.bl : Below _ (w.alloc (.cells #[.int .i64 x.head, .int .i64 x.r.h, .int .i64 x.r.f, .slice sa x.cases.n x.cases.c, .int .i64 x.els] 53)) ((w.alloc (.cells #[.int .i64 x.head, .int .i64 x.r.h, .int .i64 x.r.f, .slice sa x.cases.n x.cases.c, .int .i64 x.els] 53)).alloc (.cells #[.int .i64 x.head, .int .i64 (x.cases.n : Int)] 3)))).trans h2
    replace h3 := (Fram.below (bl_alloc (Below.refl _ _)) : Fram p (w.alloc (.cells #[.int .i64 x.head, .int .i64 x.r.h, .int .i64 x.r.f, .slice sa x.cases.n x.cases.c, .int .i64 x.els] 53)) ((w.alloc (.cells #[.int .i64 x.head, .int .i64 x.r.h, .int .i64 x.r.f, .slice sa x.cases.n x.cases.c, .int .i64 x.els] 53)).alloc (.cells #[.int .i64 x.head, .int .i64 (x.cases.n : Int)] 3))).trans h3
    have B1 := hid (B0.out.trans h2)
    have F1 := hid (F0.out.trans h3)
    have H1 := hid h1
    have ha := h3.2 _ _ _ _ hbp.out (by decide) HA0.out
    have HA1 := hid ha
    have c10 := box_cell ha 0
    have c11 := box_cell ha 1
    have c12 := box_cell ha 2
    have c13 := box_cell ha 3
    have c14 := box_cell ha 4
    simp only [List.getElem?_toArray, List.getElem?_cons_zero, List.getElem?_cons_succ] at c10 c11 c12 c13 c14
    clear h1 h2 h3 ha HP1
    go_wp2
    have HQ : Hid (Wr W0.heap.size p (bs ++ ((numL x.head ++ numL (x.cases.n : Int)))) w1) := by
      have h1 := H1.out
      have hh : Wr W0.heap.size p (bs ++ ((numL x.head ++ numL (x.cases.n : Int)))) w1 := by simpa only [List.append_assoc] using h1
      exact hh
    rw [← EQ.out] at HQ
    clear EQ HL HQT H1
    go_loopw [25, 5] (fun q _ wr => ∃ i : Nat, i ≤ x.cases.n ∧ q = .int .i64 i ∧ Hid (Wr W0.heap.size p (Q ++ (x.cs.take i).flatMap caseL) wr) ∧ Hid (Below W0.heap.size w wr) ∧ Hid (Fram p w wr) ∧ Hid (wr.heap[w.heap.size]? = some (.cells #[.int .i64 x.head, .int .i64 x.r.h, .int .i64 x.r.f, .slice sa x.cases.n x.cases.c, .int .i64 x.els] 53 (0, 0)))) (fun q _ _ => x.cases.n - (intOf q).toNat)
    case atStart => exact ⟨0, Nat.zero_le _, rfl, by simpa using HQ, B1, F1, HA1⟩
    case round =>
      obtain ⟨i, hi, rfl, WR, HB, HF, HA⟩ := hrel
      by_cases hlt : i < x.cases.n
      · exfalso; omega
      · have hii : ¬ (i : Int) < (x.cases.n : Int) := by omega
        have W2 : Hid (Wr W0.heap.size p (Q ++ x.cs.flatMap caseL) wr) := by
          show Wr _ _ _ _
          have := WR.out; rw [List.take_of_length_le (by rw [Hhr.out.1]; omega)] at this; exact this
        have ha := HA.out
        have d0 := box_cell ha 4
        simp only [List.getElem?_toArray, List.getElem?_cons_zero, List.getElem?_cons_succ] at d0
        have HC := hid (number_any W0.heap.size p _ x.els wr Hhx.out.2.2.2 W2.out (by have := HQL.out; simp only [List.length_append] at this ⊢; omega))
        clear ha WR HA
        go_wp2_with fail
        refine HC.out.mono ?_
        rintro e v1 ⟨rfl, h1, h2, h3⟩
        rw [List.append_assoc] at h1
        have HE : Hid (WDone W0.heap.size p (Q ++ (x.cs.flatMap caseL ++ numL x.els)) w (.returned (.tuple #[])) v1) := ⟨rfl, h1, HB.out.trans h2, HF.out.trans h3⟩
        clear h1 h2 h3 HC HB HF
        go_wp2
        go_end0
        exact HE.out
  · have ez : (0 : Int) < (x.cases.n : Int) := by omega
    have es : stateL x = (numL x.head ++ numL (x.cases.n : Int)) ++ (refL x.r ++ (x.cs.flatMap caseL ++ numL x.els)) := by unfold stateL; rw [if_neg kz]
    rw [es] at HL ⊢
    clear es kz
    obtain ⟨Q, EQ⟩ : ∃ Q, Hid (Q = bs ++ ((numL x.head ++ numL (x.cases.n : Int)) ++ refL x.r)) := ⟨_, rfl⟩
    have HQL : Hid ((Q ++ (x.cs.flatMap caseL ++ numL x.els)).length ≤ 9000000) := by
      show _ ≤ _
      rw [EQ.out]; have := HL.out; simp only [List.length_append] at this ⊢; omega
    have HQT : Hid (bs ++ ((numL x.head ++ numL (x.cases.n : Int)) ++ (refL x.r ++ (x.cs.flatMap caseL ++ numL x.els))) = Q ++ (x.cs.flatMap caseL ++ numL x.els)) := by
      show _ = _
      rw [EQ.out]; simp only [List.append_assoc]
    rw [HQT.out]
    have HP1 := hid (two_any W0.heap.size p (w.heap.size + 1) _ x.head (x.cases.n : Int) (w.alloc (.cells #[.int .i64 x.head, .int .i64 x.r.h, .int .i64 x.r.f, .slice sa x.cases.n x.cases.c, .int .i64 x.els] 53)) (by simp) Hhx.out.1 hwn.out H0.out (by have := HL.out; simp only [List.length_append] at this ⊢; omega))
    go_enter Tryz.func60, Tryz.ntmps60
    go_wp2_with fail
    refine HP1.out.mono ?_
    rintro e w1 ⟨rfl, h1, h2, h3⟩
    replace h2 := (((bl_alloc (Below.refl _ _)).mono H0.out.bl : Below _ (w.alloc (.cells #[.int .i64 x.head, .int .i64 x.r.h, .int .i64 x.r.f, .slice sa x.cases.n x.cases.c, .int .i64 x.els] 53)) ((w.alloc (.cells #[.int .i64 x.head, .int .i64 x.r.h, .int .i64 x.r.f, .slice sa x.cases.n x.cases.c, .int .i64 x.els] 53)).alloc (.cells #[.int .i64 x.head, .int .i64 (x.cases.n : Int)] 3)))).trans h2
    replace h3 := (Fram.below (bl_alloc (Below.refl _ _)) : Fram p (w.alloc (.cells #[.int .i64 x.head, .int .i64 x.r.h, .int .i64 x.r.f, .slice sa x.cases.n x.cases.c, .int .i64 x.els] 53)) ((w.alloc (.cells #[.int .i64 x.head, .int .i64 x.r.h, .int .i64 x.r.f, .slice sa x.cases.n x.cases.c, .int .i64 x.els] 53)).alloc (.cells #[.int .i64 x.head, .int .i64 (x.cases.n : Int)] 3))).trans h3
    have B1 := hid (B0.out.trans h2)
    have F1 := hid (F0.out.trans h3)
    have H1 := hid h1
    have ha := h3.2 _ _ _ _ hbp.out (by decide) HA0.out
    have HA1 := hid ha
    have c10 := box_cell ha 0
    have c11 := box_cell ha 1
    have c12 := box_cell ha 2
    have c13 := box_cell ha 3
    have c14 := box_cell ha 4
    simp only [List.getElem?_toArray, List.getElem?_cons_zero, List.getElem?_cons_succ] at c10 c11 c12 c13 c14
    clear h1 h2 h3 ha HP1
    have HP2 := hid (field_wr W0.heap.size p _ x.r w1 ⟨Hhx.out.2.1, Hhx.out.2.2.1⟩ H1.out (by have := HL.out; simp only [List.length_append] at this ⊢; omega))
    go_wp2_with fail
    refine HP2.out.mono ?_
    rintro e w2 ⟨rfl, h1, h2, h3⟩
    have B2 := hid (B1.out.trans h2)
    have F2 := hid (F1.out.trans h3)
    have H2 := hid h1
    have ha := h3.2 _ _ _ _ hbp.out (by decide) HA1.out
    have HA2 := hid ha
    have c20 := box_cell ha 0
    have c21 := box_cell ha 1
    have c22 := box_cell ha 2
    have c23 := box_cell ha 3
    have c24 := box_cell ha 4
    simp only [List.getElem?_toArray, List.getElem?_cons_zero, List.getElem?_cons_succ] at c20 c21 c22 c23 c24
    clear h1 h2 h3 ha HP2 c10 c11 c12 c13 c14
    go_wp2
    have HQ : Hid (Wr W0.heap.size p (bs ++ ((numL x.head ++ numL (x.cases.n : Int)) ++ refL x.r)) w2) := by
      have h1 := H2.out
      have hh : Wr W0.heap.size p (bs ++ ((numL x.head ++ numL (x.cases.n : Int)) ++ refL x.r)) w2 := by simpa only [List.append_assoc] using h1
      exact hh
    rw [← EQ.out] at HQ
    clear EQ HL HQT H2
    go_loopw [25, 5] (fun q _ wr => ∃ i : Nat, i ≤ x.cases.n ∧ q = .int .i64 i ∧ Hid (Wr W0.heap.size p (Q ++ (x.cs.take i).flatMap caseL) wr) ∧ Hid (Below W0.heap.size w wr) ∧ Hid (Fram p w wr) ∧ Hid (wr.heap[w.heap.size]? = some (.cells #[.int .i64 x.head, .int .i64 x.r.h, .int .i64 x.r.f, .slice sa x.cases.n x.cases.c, .int .i64 x.els] 53 (0, 0)))) (fun q _ _ => x.cases.n - (intOf q).toNat)
    case atStart => exact ⟨0, Nat.zero_le _, rfl, by simpa using HQ, B2, F2, HA2⟩
    case round =>
      obtain ⟨i, hi, rfl, WR, HB, HF, HA⟩ := hrel
      by_cases hlt : i < x.cases.n
      · have hii : (i : Int) < (x.cases.n : Int) := by omega
        obtain ⟨g, off, y, ea, hy, hp⟩ := row_at (Hhr.out.step CaseD.keeps (HW.out.trans HB.out)) hlt
        obtain rfl : sa = some ⟨g, off, none⟩ := by rw [← ESA.out]; exact ea
        have HT := hid (flat_take (f := caseL) hy)
        have hle := flat_le caseL x.cs (i + 1)
        obtain ⟨v, m, t⟩ := y
        obtain ⟨⟨c0, u0⟩, ⟨c1, u1⟩, ⟨c2, u2⟩⟩ := hp
        have b0 := bounds_u64 u0
        have b1 := bounds_u64 u1
        obtain ⟨N, rfl⟩ : ∃ N : Nat, v = N := ⟨v.toNat, by simp only at b0; omega⟩
        obtain ⟨M, rfl⟩ : ∃ M : Nat, m = M := ⟨m.toNat, by simp only at b1; omega⟩
        have hN : N < 18446744073709551616 := by simp only at b0; omega
        have hM : M < 18446744073709551616 := by simp only at b1; omega
        have U2 := hid u2
        simp only at c0 c1 c2
        have ec : caseL ⟨(N : Int), (M : Int), t⟩ = plainL N ++ (plainL M ++ numL t) := by unfold caseL; simp only [Int.toNat_natCast]
        rw [ec] at HT
        have HLE : Hid ((Q ++ (x.cs.take i).flatMap caseL ++ (plainL N ++ (plainL M ++ numL t))).length ≤ 9000000) := by
          show _ ≤ _
          have := HQL.out
          rw [HT.out] at hle
          simp only [List.length_append] at this hle ⊢
          omega
        have BX : Hid (Below wr.heap.size wr (wr.alloc (.cells #[.int .u64 (N : Int), .int .u64 (M : Int), .int .i64 t] 99))) := bl_alloc (Below.refl _ _)
        have hws := hid (HW.out.trans HB.out).size
        have HBX := hid (alloc_at wr #[.int .u64 (N : Int), .int .u64 (M : Int), .int .i64 t] 99)
        have hbq : Hid (wr.heap.size ≠ p) := by show _ ≠ _; have := WR.out.pl; omega
        have HC := hid (plain_any W0.heap.size p _ N _ hN (WR.out.step BX.out) (by have := HLE.out; simp only [List.length_append] at this ⊢; omega))
        clear ea hy hle u0 u1 u2 b0 b1 ec
        go_wp2_with fail
        refine HC.out.mono ?_
        rintro e v1 ⟨rfl, h1, h2, h3⟩
        have ha := h3.2 _ _ _ _ hbq.out (by decide) HBX.out
        have d0 := box_cell ha 0
        have d1 := box_cell ha 1
        have d2 := box_cell ha 2
        simp only [List.getElem?_toArray, List.getElem?_cons_zero, List.getElem?_cons_succ] at d0 d1 d2
        have HC2 := hid (plain_any W0.heap.size p _ M v1 hM h1 (by have := HLE.out; simp only [List.length_append] at this ⊢; omega))
        have HA1 := hid ha
        have R12 := hid (HB.out.trans ((BX.out.mono hws.out).trans h2))
        have R13 := hid ((HF.out.trans (Fram.below BX.out)).trans h3)
        have R14 := hid (((Fram.below BX.out).trans h3).2 _ _ _ _ hbp.out (by decide) HA.out)
        clear h1 h2 h3 ha HC c0 c1 c2
        go_wp2_with fail
        refine HC2.out.mono ?_
        rintro e v2 ⟨rfl, h1, h2, h3⟩
        have ha := h3.2 _ _ _ _ hbq.out (by decide) HA1.out
        have d20 := box_cell ha 0
        have d21 := box_cell ha 1
        have d22 := box_cell ha 2
        simp only [List.getElem?_toArray, List.getElem?_cons_zero, List.getElem?_cons_succ] at d20 d21 d22
        have HC3 := hid (number_any W0.heap.size p _ t v2 U2.out h1 (by have := HLE.out; simp only [List.length_append] at this ⊢; omega))
        have R22 := hid (R12.out.trans h2)
        have R23 := hid (R13.out.trans h3)
        have R24 := hid (h3.2 _ _ _ _ hbp.out (by decide) R14.out)
        clear h1 h2 h3 ha HC2 d0 d1 d2
        go_wp2_with fail
        refine HC3.out.mono ?_
        rintro e v3 ⟨rfl, h1, h2, h3⟩
        have R1 : Hid (Wr W0.heap.size p (Q ++ (x.cs.take (i + 1)).flatMap caseL) v3) := by
          show Wr _ _ _ _
          rw [HT.out]; simpa only [List.append_assoc] using h1
        have R2 := hid (R22.out.trans h2)
        have R3 := hid (R23.out.trans h3)
        have R4 := hid (h3.2 _ _ _ _ hbp.out (by decide) R24.out)
        clear h1 h2 h3 HC3 d20 d21 d22 WR HB HF HA HT
        go_wp2
        go_roundw
        case rel => exact ⟨i + 1, by omega, by go_num, R1, R2, R3, R4⟩
        case measure => simp [intOf]; omega
      · have hii : ¬ (i : Int) < (x.cases.n : Int) := by omega
        have W2 : Hid (Wr W0.heap.size p (Q ++ x.cs.flatMap caseL) wr) := by
          show Wr _ _ _ _
          have := WR.out; rw [List.take_of_length_le (by rw [Hhr.out.1]; omega)] at this; exact this
        have ha := HA.out
        have d0 := box_cell ha 4
        simp only [List.getElem?_toArray, List.getElem?_cons_zero, List.getElem?_cons_succ] at d0
        have HC := hid (number_any W0.heap.size p _ x.els wr Hhx.out.2.2.2 W2.out (by have := HQL.out; simp only [List.length_append] at this ⊢; omega))
        clear ha WR HA
        go_wp2_with fail
        refine HC.out.mono ?_
        rintro e v1 ⟨rfl, h1, h2, h3⟩
        rw [List.append_assoc] at h1
        have HE : Hid (WDone W0.heap.size p (Q ++ (x.cs.flatMap caseL ++ numL x.els)) w (.returned (.tuple #[])) v1) := ⟨rfl, h1, HB.out.trans h2, HF.out.trans h3⟩
        clear h1 h2 h3 HC HB HF
        go_wp2
        go_end0
        exact HE.out
end Go.Proofs.YthekochmeihdfaaGreat
