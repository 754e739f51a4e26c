/- Done on its way: the program's own copy, its instructions set one by one. -/
import Derived.Test.YtkipfppblhkodaaAClone
import Derived.Test.YtkipfppblhkodaaGRefG
namespace Go.Proofs.Ytkipfppblhkodaa
open Go.RowKit

@[reducible] def ProgD.withC (q : ProgD) (cs : List InsD) : ProgD := ⟨q.slots, q.tabs, q.ts, q.code, cs⟩

structure DonAt (W2 : World) (pb : Nat) (q : ProgD) (wx : World) : Prop where
  bel : Below W2.heap.size W2 wx
  box : wx.heap[pb]? = some (.cells #[.int .i64 q.slots, .slice q.tabs.a q.tabs.n q.tabs.c, .slice q.code.a q.code.n q.code.c] 41 (0, 0))
  lo : W2.heap.size ≤ pb
  lie : q.lie wx
  own : OwnB q W2 wx

theorem OwnB.step {q : ProgD} {W w w' : World} (h : OwnB q W w) (b : Below w.heap.size w w') : OwnB q W w' :=
  ⟨fun ad ha => by obtain ⟨⟨cur, hc⟩, hl⟩ := h.1 ad ha; exact ⟨⟨cur, (b.block _ (Array.getElem?_eq_some_iff.1 hc).1).trans hc⟩, hl⟩, fun ad ha => by obtain ⟨⟨cur, hc⟩, hl⟩ := h.2 ad ha; exact ⟨⟨cur, (b.block _ (Array.getElem?_eq_some_iff.1 hc).1).trans hc⟩, hl⟩⟩
theorem DonAt.step {W2 : World} {pb : Nat} {q : ProgD} {w w' : World} (h : DonAt W2 pb q w) (b : Below w.heap.size w w') : DonAt W2 pb q w' :=
  ⟨bl_step h.bel b, (b.block _ (Array.getElem?_eq_some_iff.1 h.box).1).trans h.box, h.lo, h.lie.step b, h.own.step b⟩

theorem cell_set_other {w : World} {g o g' o' : Nat} {u v : Value} (h : w.cell? ⟨g, o, none⟩ = some v) (hne : ¬ (g = g' ∧ o = o')) : (w.setCell ⟨g', o', none⟩ u).cell? ⟨g, o, none⟩ = some v :=
  (World.cell?_setCell_other _ _ _ _ (by intro e; simp only [Addr.mk.injEq] at e; exact hne ⟨e.1.symm, e.2.1.symm⟩)).trans h
theorem CI.setO {w : World} {g o g' o' : Nat} {u : Value} {n : Int} (h : CI w g o n) (hne : ¬ (g = g' ∧ o = o')) : CI (w.setCell ⟨g', o', none⟩ u) g o n := ⟨cell_set_other h.1 hne, h.2⟩
theorem CU.setO {w : World} {g o g' o' : Nat} {u : Value} {n : Int} (h : CU w g o n) (hne : ¬ (g = g' ∧ o = o')) : CU (w.setCell ⟨g', o', none⟩ u) g o n := ⟨cell_set_other h.1 hne, h.2⟩

/-- an instruction's To is set -/
theorem DonAt.put {W2 : World} {pb : Nat} {q : ProgD} {L : List InsD} {w : World} (h : DonAt W2 pb (q.withC L) w) {i : Nat} {x : InsD} {g off : Nat} (hx : L[i]? = some x) (ha : q.code.a = some ⟨g, off, none⟩) (m : Int) (hm : gwfI m) :
    DonAt W2 pb (q.withC (L.set i ⟨x.op, x.r, x.s, x.k, m, x.n⟩)) (w.setCell ⟨g, off + i * 6 + 4, none⟩ (.int .i64 m)) := by
  obtain ⟨⟨cur, hc⟩, hlo⟩ := h.own.1 _ ha
  have hc : w.heap[g]? = some (.cells cur 34 (0, 0)) := hc
  have hlo : W2.heap.size ≤ g := hlo
  have hpb : pb ≠ g := fun e => by
    have := h.box
    rw [e, hc] at this
    simp at this
  have htb : ∀ ad : Addr, q.tabs.a = some ad → ad.block ≠ g := fun ad hd e => by
    obtain ⟨⟨cur2, hc2⟩, _⟩ := h.own.2 ad hd
    rw [e, hc] at hc2
    simp at hc2
  refine ⟨h.bel.setCell (p := ⟨g, _, none⟩) hlo _, ?_, h.lo, ⟨h.lie.ws, h.lie.n1, h.lie.n2, ⟨h.lie.t.1, fun j y hy => ?_⟩, ⟨?_, fun j y hy => ?_⟩⟩, ⟨fun ad hd => ?_, fun ad hd => ?_⟩⟩
  · rw [Below.heap_setCell _ _ _ _ (by show pb ≠ g; exact hpb)]
    exact h.box
  · obtain ⟨g1, o1, e, hp⟩ := h.lie.t.2 j y hy
    have hg1 : g1 ≠ g := htb _ e
    exact ⟨g1, o1, e, hp.1.setO (by omega), hp.2.1.setO (by omega), hp.2.2.setO (by omega)⟩
  · show (L.set i _).length = _
    rw [List.length_set]
    exact h.lie.c.1
  · have hy : (L.set i ⟨x.op, x.r, x.s, x.k, m, x.n⟩)[j]? = some y := hy
    by_cases e : i = j
    · subst e
      have hi := (List.getElem?_eq_some_iff.1 hx).1
      rw [List.getElem?_set_self hi] at hy
      obtain rfl := Option.some.inj hy
      obtain ⟨g1, o1, e1, hp⟩ := h.lie.c.2 i x hx
      have e1' : q.code.a = some ⟨g1, o1, none⟩ := e1
      rw [ha] at e1'
      simp only [Option.some.injEq, Addr.mk.injEq, and_true] at e1'
      obtain ⟨rfl, rfl⟩ := e1'
      exact ⟨g, off, ha, hp.1.setO (by omega), hp.2.1.setO (by omega), hp.2.2.1.setO (by omega), hp.2.2.2.1.setO (by omega), ⟨World.cell?_setCell_same _ _ _ hp.2.2.2.2.1.1, hm⟩, hp.2.2.2.2.2.setO (by omega)⟩
    · rw [List.getElem?_set_ne e] at hy
      obtain ⟨g1, o1, e1, hp⟩ := h.lie.c.2 j y hy
      have e1' : q.code.a = some ⟨g1, o1, none⟩ := e1
      rw [ha] at e1'
      simp only [Option.some.injEq, Addr.mk.injEq, and_true] at e1'
      obtain ⟨rfl, rfl⟩ := e1'
      exact ⟨g, off, ha, hp.1.setO (by omega), hp.2.1.setO (by omega), hp.2.2.1.setO (by omega), hp.2.2.2.1.setO (by omega), hp.2.2.2.2.1.setO (by omega), hp.2.2.2.2.2.setO (by omega)⟩
  · have hd' : q.code.a = some ad := hd
    rw [ha] at hd'
    obtain rfl := Option.some.inj hd'
    exact ⟨⟨_, abox_put hc (off + i * 6 + 4) (.int .i64 m)⟩, hlo⟩
  · obtain ⟨⟨cur2, hc2⟩, hl2⟩ := h.own.2 ad hd
    exact ⟨⟨cur2, (Below.heap_setCell _ _ _ _ (by exact htb ad hd)).trans hc2⟩, hl2⟩

/-- what is set by the first i -/
def upL (ms : List Int) (cs : List InsD) : Nat → List InsD
  | 0 => cs
  | i + 1 => match cs[i]? with
    | none => upL ms cs i
    | some x => (upL ms cs i).set i (fixD ms i x)
theorem upL_n (ms : List Int) (cs : List InsD) : ∀ i, (upL ms cs i).length = cs.length
  | 0 => rfl
  | i + 1 => by
    rw [upL]
    cases cs[i]? with
    | none => exact upL_n ms cs i
    | some x => dsimp only; rw [List.length_set]; exact upL_n ms cs i
theorem upL_at (ms : List Int) (cs : List InsD) : ∀ i j, (upL ms cs i)[j]? = if j < i then cs[j]?.map (fixD ms (j : Int)) else cs[j]?
  | 0, j => by rw [if_neg (by omega)]; rfl
  | i + 1, j => by
    rw [upL]
    cases h : cs[i]? with
    | none =>
      dsimp only
      rw [upL_at ms cs i j]
      by_cases e : j = i
      · subst e
        rw [if_neg (by omega), if_pos (by omega), h]
        rfl
      · by_cases h1 : j < i
        · rw [if_pos h1, if_pos (by omega)]
        · rw [if_neg h1, if_neg (by omega)]
    | some x =>
      dsimp only
      by_cases e : i = j
      · subst e
        rw [List.getElem?_set_self (by rw [upL_n]; exact (List.getElem?_eq_some_iff.1 h).1), if_pos (by omega), h]
        rfl
      · rw [List.getElem?_set_ne e, upL_at ms cs i j]
        by_cases h1 : j < i
        · rw [if_pos h1, if_pos (by omega)]
        · rw [if_neg h1, if_neg (by omega)]
theorem upL_now {ms : List Int} {cs : List InsD} {i : Nat} {x : InsD} (h : cs[i]? = some x) : (upL ms cs i)[i]? = some x := by rw [upL_at, if_neg (by omega)]; exact h
theorem upL_next {ms : List Int} {cs : List InsD} {i : Nat} {x : InsD} (h : cs[i]? = some x) : upL ms cs (i + 1) = (upL ms cs i).set i (fixD ms i x) := by rw [upL, h]
theorem upL_same {ms : List Int} {cs : List InsD} {i : Nat} {x : InsD} (h : cs[i]? = some x) (hT : hasT x.op = false) : upL ms cs (i + 1) = upL ms cs i := by
  rw [upL_next h]
  refine List.ext_getElem? fun j => ?_
  by_cases e : i = j
  · subst e
    rw [List.getElem?_set_self (by rw [upL_n]; exact (List.getElem?_eq_some_iff.1 h).1), upL_now h]
    unfold fixD
    rw [hT, if_neg (by decide)]
  · rw [List.getElem?_set_ne e]
theorem upL_all (ms : List Int) (cs : List InsD) : upL ms cs cs.length = fixL ms cs 0 := by
  refine List.ext_getElem? fun j => ?_
  rw [upL_at, fixL_at, Nat.zero_add]
  by_cases h : j < cs.length
  · rw [if_pos h]
  · rw [if_neg h, List.getElem?_eq_none (by omega)]
    rfl
theorem fix_to {ms : List Int} {i : Nat} {x : InsD} (hT : hasT x.op = true) : fixD ms i x = ⟨x.op, x.r, x.s, x.k, (toN ms i x.to).1, x.n⟩ := by unfold fixD; rw [hT, if_pos rfl]

theorem done_code {ms : List Int} {slots : Int} {ts : List ShapeD} {cs : List InsD} {j : Nat} {x : InsD} (h : ∀ (k : Nat) t, k < j → cs[k]? = some t → codeAt ms k t = 0) (hx : cs[j]? = some x) (hT : hasT x.op = true) (hb : (toN ms j x.to).2 ≠ 0) : doneF ms slots ts cs = ((toN ms j x.to).2, (j : Int)) := by
  have e : codeAt ms j x = (toN ms j x.to).2 := by unfold codeAt; rw [hT, if_pos rfl]
  have := bad_bad h hx (by rw [e]; exact hb)
  unfold doneF
  rw [this, e, if_pos hb]
theorem done_chk {ms : List Int} {slots : Int} {ts : List ShapeD} {cs : List InsD} (h : ∀ (k : Nat) t, k < cs.length → cs[k]? = some t → codeAt ms k t = 0) : doneF ms slots ts cs = chkW slots ts (fixL ms cs 0) := by
  unfold doneF
  rw [bad_good h, if_neg (by simp)]
theorem codes_next {ms : List Int} {cs : List InsD} {i : Nat} {x : InsD} (h : ∀ (k : Nat) t, k < i → cs[k]? = some t → codeAt ms k t = 0) (hx : cs[i]? = some x) (h0 : codeAt ms i x = 0) : ∀ (k : Nat) t, k < i + 1 → cs[k]? = some t → codeAt ms k t = 0 := by
  intro k t hk ht
  by_cases e : k = i
  · subst e
    rw [hx] at ht
    obtain rfl := Option.some.inj ht
    exact h0
  · exact h k t (by omega) ht

theorem ainss_two {slots : Int} {ts : List ShapeD} {m : Int} : ∀ {cs : List InsD} {i : Int}, (inssN slots ts m cs i).1 = 0 → (inssN slots ts m cs i).2 = 0 := by
  intro cs
  induction cs with
  | nil => intro i _; rfl
  | cons y r ih =>
    intro i h
    rw [inssN] at h ⊢
    by_cases h1 : insN slots ts m i y = 0
    · rw [if_pos h1] at h ⊢; exact ih h
    · rw [if_neg h1] at h; exact absurd h h1
theorem achk_two {slots : Int} {ts : List ShapeD} {cs : List InsD} (h : (chkW slots ts cs).1 = 0) : chkW slots ts cs = (0, 0) := by
  have : (chkW slots ts cs).2 = 0 := by
    unfold chkW at h ⊢
    by_cases h1 : (sizesN slots ts cs.length).1 ≠ 0
    · rw [if_pos h1] at h; exact absurd h h1
    rw [if_neg h1] at h ⊢
    by_cases h2 : (inssN slots ts cs.length cs 0).1 ≠ 0
    · rw [if_pos h2] at h; exact absurd h h2
    rw [if_neg h2] at h ⊢
    by_cases h3 : endsB ((cs[cs.length - 1]?.map InsD.op).getD 0) = true
    · rw [if_pos h3]
    · rw [if_neg h3] at h; simp at h
  exact Prod.ext h this

/-- To that is set is a number of the machine's -/
theorem toN_wf {ms : List Int} {i : Nat} {l : Int} {N : Nat} (hm : ∀ m ∈ ms, -1 ≤ m ∧ m ≤ (N : Int)) (hN : N ≤ 100000) : gwfI (toN ms i l).1 := by
  have h0 : gwfI 0 := by decide
  unfold toN
  split
  · exact h0
  · rename_i h
    split
    · exact h0
    · rename_i h2
      have hl : l.toNat < ms.length := by omega
      have : ms.getD l.toNat 0 ∈ ms := by
        rw [List.getD_eq_getElem?_getD, List.getElem?_eq_getElem hl, Option.getD_some]
        exact List.getElem_mem _
      have := hm _ this
      generalize ms.getD l.toNat 0 = mm at *
      simp [gwfI, Lit.wf, IntKind.min, IntKind.max, IntKind.bits, IntKind.signed]
      omega

theorem LabAt.row {T : TypeId} {B : Nat} {d : LabD} {w : World} (h : LabAt T B d w) : QRow 6 InsD.lie w ⟨d.la, d.cs.length, d.lc⟩ d.cs ∧ QSl.nil0 ⟨d.la, d.cs.length, d.lc⟩ := by
  obtain ⟨h1, h2, _⟩ := gown_row (cells := kInsE) (k := 6) (P := InsD.lie) (fun _ => rfl) (by decide) h.code (fun x hx g o hc => ⟨⟨hc 0 _ rfl, (h.wf x hx).1⟩, ⟨hc 1 _ rfl, (h.wf x hx).2.1⟩, ⟨hc 2 _ rfl, (h.wf x hx).2.2.1⟩, ⟨hc 3 _ rfl, (h.wf x hx).2.2.2.1⟩, ⟨hc 4 _ rfl, (h.wf x hx).2.2.2.2.1⟩, ⟨hc 5 _ rfl, (h.wf x hx).2.2.2.2.2⟩⟩)
  exact ⟨h1, h2⟩

/-- the copy that asm's Done makes -/
theorem don_new {W2 wx : World} {pb : Nat} {slots : Int} {ts : List ShapeD} {cs : List InsD} {ta ca : Option Addr} {tn tc cn cc : Nat} (hs : gwfI slots) (hts : ∀ x ∈ ts, x.wf) (hcs : ∀ x ∈ cs, x.wf) (hb : Below W2.heap.size W2 wx)
    (hx : wx.heap[pb]? = some (.cells #[.int .i64 slots, .slice ta tn tc, .slice ca cn cc] 41 (0, 0))) (hp : W2.heap.size ≤ pb)
    (ho1 : wx.ownsRow W2.heap.size 52 3 (.slice ta tn tc) tn (ts.flatMap kShapeE)) (ho2 : wx.ownsRow W2.heap.size 34 6 (.slice ca cn cc) cn (cs.flatMap kInsE)) :
    DonAt W2 pb ⟨slots, ⟨ta, tn, tc⟩, ts, ⟨ca, cn, cc⟩, cs⟩ wx := by
  obtain ⟨r1, n1, f1⟩ := gown_row (cells := kShapeE) (k := 3) (P := ShapeD.lie) (fun _ => rfl) (by decide) ho1 (fun x hx g o h => ⟨⟨h 0 _ rfl, (hts x hx).1⟩, ⟨h 1 _ rfl, (hts x hx).2.1⟩, ⟨h 2 _ rfl, (hts x hx).2.2⟩⟩)
  obtain ⟨r2, n2, f2⟩ := gown_row (cells := kInsE) (k := 6) (P := InsD.lie) (fun _ => rfl) (by decide) ho2 (fun x hx g o h => ⟨⟨h 0 _ rfl, (hcs x hx).1⟩, ⟨h 1 _ rfl, (hcs x hx).2.1⟩, ⟨h 2 _ rfl, (hcs x hx).2.2.1⟩, ⟨h 3 _ rfl, (hcs x hx).2.2.2.1⟩, ⟨h 4 _ rfl, (hcs x hx).2.2.2.2.1⟩, ⟨h 5 _ rfl, (hcs x hx).2.2.2.2.2⟩⟩)
  exact ⟨hb, hx, hp, ⟨hs, n1, n2, r1, r2⟩, ⟨fun ad had => own_at ho2 had, fun ad had => own_at ho1 had⟩⟩
end Go.Proofs.Ytkipfppblhkodaa
