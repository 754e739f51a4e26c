/- What a step of an Asm does to its memory: a label more, instructions more, a label marked. -/
import Derived.Test.YtkipfppblhkodaaADef
namespace Go.Proofs.Ytkipfppblhkodaa
open Go.RowKit

theorem abox_put {w : World} {p : Nat} {cs : Array Value} {T : TypeId} (h : w.heap[p]? = some (.cells cs T (0, 0))) (i : Nat) (v : Value) : (w.setCell ⟨p, i, none⟩ v).heap[p]? = some (.cells (cs.setIfInBounds i v) T (0, 0)) := by
  simp [World.setCell, Array.getElem?_modify, h]
theorem own_ne {w : World} {base n c k p : Nat} {T T' : TypeId} {a : Option Addr} {vs : List Value} {cs : Array Value} {f : Nat × Nat} (h : w.ownsRow base T k (.slice a n c) n vs) (hp : w.heap[p]? = some (.cells cs T' f)) (hT : T' ≠ T) {ad : Addr} (ha : a = some ad) : ad.block ≠ p := by
  intro e
  obtain ⟨⟨cur, hc⟩, _⟩ := own_at h ha
  rw [e, hp] at hc
  simp only [Option.some.injEq, Obj.cells.injEq] at hc
  exact hT hc.2.1

/-- the box of an Asm, cell by cell -/
structure LBox (w : World) (d : LabD) : Prop where
  c0 : w.cell? ⟨d.p, 0, none⟩ = some (.slice d.la d.cs.length d.lc)
  c1 : w.cell? ⟨d.p, 1, none⟩ = some (.slice d.ma d.ms.length d.mc)
  z0 : w.frozen? ⟨d.p, 0, none⟩ = false
  z1 : w.frozen? ⟨d.p, 1, none⟩ = false
  l : d.p < w.heap.size
theorem lbox_of {w : World} {d : LabD} {T : TypeId} (h : w.heap[d.p]? = some (.cells #[.slice d.la d.cs.length d.lc, .slice d.ma d.ms.length d.mc] T (0, 0))) : LBox w d :=
  ⟨gbox_cell h 0, gbox_cell h 1, by simp [World.frozen?, h], by simp [World.frozen?, h], (Array.getElem?_eq_some_iff.1 h).1⟩
theorem LabAt.lbox {T : TypeId} {B : Nat} {d : LabD} {w : World} (h : LabAt T B d w) : LBox w d := lbox_of h.box

def AT (T : TypeId) : Prop := T ≠ 34 ∧ T ≠ 3

@[reducible] def LabD.withM (d : LabD) (a : Option Addr) (c : Nat) (ms : List Int) : LabD := ⟨d.p, d.la, d.lc, a, c, d.cs, ms⟩
@[reducible] def LabD.withC (d : LabD) (a : Option Addr) (c : Nat) (cs : List InsD) : LabD := ⟨d.p, a, c, d.ma, d.mc, cs, d.ms⟩

/-- a label more -/
theorem lab_label {T : TypeId} {B : Nat} {d : LabD} {w : World} (h : LabAt T B d w) (hT : AT T) (hB : B ≤ w.heap.size) (hn : d.ms.length ≤ 100000) :
    ∃ g cap w', (Builtin.append_ #[29, 29] 29 #[.slice d.ma d.ms.length d.mc, .slice (some ⟨w.heap.size, 0, none⟩) 1 1]).run Try.prog (w.alloc (.cells #[.int .i64 (-1)] 3)) = .ok (.slice (some ⟨g, 0, none⟩) (d.ms.length + 1) cap) w' ∧ LBox w' d ∧
      LabAt T B (d.withM (some ⟨g, 0, none⟩) cap (d.ms ++ [-1])) (w'.setCell ⟨d.p, 1, none⟩ (.slice (some ⟨g, 0, none⟩) (d.ms.length + 1) cap)) ∧ LabTo d (d.withM (some ⟨g, 0, none⟩) cap (d.ms ++ [-1])) w (w'.setCell ⟨d.p, 1, none⟩ (.slice (some ⟨g, 0, none⟩) (d.ms.length + 1) cap)) := by
  have b1 : Below w.heap.size w (w.alloc (.cells #[.int .i64 (-1)] 3)) := bl_alloc (Below.refl _ _)
  obtain ⟨g, cap, w', hrun, ho, hg, hgn⟩ := grun_app (w := w.alloc (.cells #[.int .i64 (-1)] 3)) (ad := ⟨w.heap.size, 0, none⟩) (m := 1) (c := 1) (news := kIntE (-1)) 29 Try.underlying29 Try.ainfoInt rfl (by decide) (gowns_below h.marks b1) rfl (gsrc_of (cs := kIntE (-1))) (kInt_one (-1)) (by decide) (by unfold maxLen; omega) (by omega) (Nat.le_trans hB b1.size)
  have hx : w'.heap[d.p]? = some (.cells #[.slice d.la d.cs.length d.lc, .slice d.ma d.ms.length d.mc] T (0, 0)) := by
    have hl := (Array.getElem?_eq_some_iff.1 h.box).1
    rw [hg.block d.p (Nat.lt_of_lt_of_le hl b1.size) ?_, b1.block d.p hl]
    · exact h.box
    · intro e
      cases ha : d.ma with
      | none => rw [ha] at e; simp [Value.ownBlock] at e
      | some ad =>
        rw [ha] at e
        simp only [Value.ownBlock, Option.some.injEq] at e
        exact own_ne h.marks h.box hT.2 ha e.symm
  have hne : g ≠ d.p := by
    intro e
    exact own_ne ho hx hT.2 (ad := ⟨g, 0, none⟩) rfl e
  have hgl : ∀ k, k < w.heap.size → ¬ d.own k → w'.heap[k]? = w.heap[k]? := fun k hk hd => by
    rw [hg.block k (Nat.lt_of_lt_of_le hk b1.size) ?_, b1.block k hk]
    intro e
    cases ha : d.ma with
    | none => rw [ha] at e; simp [Value.ownBlock] at e
    | some ad =>
      rw [ha] at e
      simp only [Value.ownBlock, Option.some.injEq] at e
      exact hd (.inr (.inr ⟨ad, ha, e⟩))
  refine ⟨g, cap, w', hrun, lbox_of hx, ⟨?_, h.lo, ?_, ?_, h.wf, ?_⟩, ⟨hg.os, hg.tape, hg.output, ?_, ?_, ?_⟩⟩
  · have := abox_put hx 1 (.slice (some ⟨g, 0, none⟩) (d.ms.length + 1) cap)
    simpa using this
  · refine owns_blk h.code fun ad ha => ?_
    rw [Below.heap_setCell _ _ _ _ (by exact own_ne h.code h.box hT.1 ha)]
    have hl := (own_lo h.code ha).2
    rw [hg.block _ (Nat.lt_of_lt_of_le hl b1.size) ?_, b1.block _ hl]
    intro e
    cases ha2 : d.ma with
    | none => rw [ha2] at e; simp [Value.ownBlock] at e
    | some ad2 =>
      rw [ha2] at e
      simp only [Value.ownBlock, Option.some.injEq] at e
      obtain ⟨⟨c1, hc1⟩, _⟩ := own_at h.code ha
      obtain ⟨⟨c2, hc2⟩, _⟩ := own_at h.marks ha2
      rw [e, hc2] at hc1
      simp at hc1
  · have e1 : (d.ms ++ [(-1 : Int)]).flatMap kIntE = d.ms.flatMap kIntE ++ kIntE (-1) := by simp [kIntE]
    have e2 : (d.ms ++ [(-1 : Int)]).length = d.ms.length + 1 := by simp
    show World.ownsRow _ B 3 1 (.slice (some ⟨g, 0, none⟩) (d.ms ++ [(-1 : Int)]).length cap) (d.ms ++ [(-1 : Int)]).length ((d.ms ++ [(-1 : Int)]).flatMap kIntE)
    rw [e1, e2]
    refine owns_blk ho fun ad ha => ?_
    obtain rfl := Option.some.inj ha
    exact Below.heap_setCell _ _ _ _ (by exact hne)
  · intro m hm
    rcases List.mem_append.1 hm with hm | hm
    · exact h.wm m hm
    · simp only [List.mem_singleton] at hm
      subst hm
      exact ⟨by omega, by show (-1 : Int) ≤ (d.cs.length : Int); omega⟩
  · rw [World.size_setCell]; exact Nat.le_trans b1.size hg.size
  · intro k hk hd
    rw [Below.heap_setCell _ _ _ _ (by show k ≠ d.p; exact fun e => hd (.inl e))]
    exact hgl k hk hd
  · intro k hk
    rcases hk with hk | ⟨ad, ha, e⟩ | ⟨ad, ha, e⟩
    · exact .inl (.inl hk)
    · exact .inl (.inr (.inl ⟨ad, ha, e⟩))
    · obtain rfl := Option.some.inj ha
      subst e
      rcases hgn with hgn | hgn
      · exact .inl (.inr (.inr ⟨_, hgn, rfl⟩))
      · exact .inr (Nat.le_trans b1.size hgn)

/-- instructions more -/
theorem lab_code {T : TypeId} {B : Nat} {d : LabD} {w w1 : World} (h : LabAt T B d w) (hT : AT T) (hB : B ≤ w.heap.size) (b1 : Below w.heap.size w w1) {ad : Addr} {m c : Nat} {xs : List InsD} (hl : xs.length = m) (hs : ∀ j u, (xs.flatMap kInsE)[j]? = some u → w1.cell? (ad.add j) = some u) (hw : ∀ x ∈ xs, x.wf) (hm : 0 < m) (hn : d.cs.length + m ≤ 100000) :
    ∃ g cap w', (Builtin.append_ #[28, 28] 28 #[.slice d.la d.cs.length d.lc, .slice (some ad) m c]).run Try.prog w1 = .ok (.slice (some ⟨g, 0, none⟩) (d.cs.length + m) cap) w' ∧ LBox w' d ∧
      LabAt T B (d.withC (some ⟨g, 0, none⟩) cap (d.cs ++ xs)) (w'.setCell ⟨d.p, 0, none⟩ (.slice (some ⟨g, 0, none⟩) (d.cs.length + m) cap)) ∧ LabTo d (d.withC (some ⟨g, 0, none⟩) cap (d.cs ++ xs)) w (w'.setCell ⟨d.p, 0, none⟩ (.slice (some ⟨g, 0, none⟩) (d.cs.length + m) cap)) := by
  have hlen : (xs.flatMap kInsE).length = m * 6 := by rw [gflat_n (k := 6) (fun _ => rfl), hl]
  have hone : ∀ u ∈ xs.flatMap kInsE, u.oneCell' = true := fun u hu => by
    obtain ⟨x, _, hx⟩ := List.mem_flatMap.1 hu
    exact kIns_one x u hx
  obtain ⟨g, cap, w', hrun, ho, hg, hgn⟩ := grun_app (w := w1) (ad := ad) (m := m) (c := c) (news := xs.flatMap kInsE) 28 Try.underlying28 Try.ginfoIns rfl (by decide) (gowns_below h.code b1) hlen hs hone hm (by unfold maxLen; omega) (by omega) (Nat.le_trans hB b1.size)
  have hx : w'.heap[d.p]? = some (.cells #[.slice d.la d.cs.length d.lc, .slice d.ma d.ms.length d.mc] T (0, 0)) := by
    have hl := (Array.getElem?_eq_some_iff.1 h.box).1
    rw [hg.block d.p (Nat.lt_of_lt_of_le hl b1.size) ?_, b1.block d.p hl]
    · exact h.box
    · intro e
      cases ha : d.la with
      | none => rw [ha] at e; simp [Value.ownBlock] at e
      | some ad =>
        rw [ha] at e
        simp only [Value.ownBlock, Option.some.injEq] at e
        exact own_ne h.code h.box hT.1 ha e.symm
  have hne : g ≠ d.p := by
    intro e
    exact own_ne ho hx hT.1 (ad := ⟨g, 0, none⟩) rfl e
  have hgl : ∀ k, k < w.heap.size → ¬ d.own k → w'.heap[k]? = w.heap[k]? := fun k hk hd => by
    rw [hg.block k (Nat.lt_of_lt_of_le hk b1.size) ?_, b1.block k hk]
    intro e
    cases ha : d.la with
    | none => rw [ha] at e; simp [Value.ownBlock] at e
    | some ad =>
      rw [ha] at e
      simp only [Value.ownBlock, Option.some.injEq] at e
      exact hd (.inr (.inl ⟨ad, ha, e⟩))
  refine ⟨g, cap, w', hrun, lbox_of hx, ⟨?_, h.lo, ?_, ?_, ?_, ?_⟩, ⟨hg.os.trans b1.os, hg.tape.trans b1.tape, hg.output.trans b1.output, ?_, ?_, ?_⟩⟩
  · have := abox_put hx 0 (.slice (some ⟨g, 0, none⟩) (d.cs.length + m) cap)
    simpa [hl] using this
  · have e1 : (d.cs ++ xs).flatMap kInsE = d.cs.flatMap kInsE ++ xs.flatMap kInsE := List.flatMap_append
    have e2 : (d.cs ++ xs).length = d.cs.length + m := by rw [List.length_append, hl]
    show World.ownsRow _ B 34 6 (.slice (some ⟨g, 0, none⟩) (d.cs ++ xs).length cap) (d.cs ++ xs).length ((d.cs ++ xs).flatMap kInsE)
    rw [e1, e2]
    refine owns_blk ho fun ad ha => ?_
    obtain rfl := Option.some.inj ha
    exact Below.heap_setCell _ _ _ _ (by exact hne)
  · refine owns_blk h.marks fun ad ha => ?_
    rw [Below.heap_setCell _ _ _ _ (by exact own_ne h.marks h.box hT.2 ha)]
    have hl := (own_lo h.marks ha).2
    rw [hg.block _ (Nat.lt_of_lt_of_le hl b1.size) ?_, b1.block _ hl]
    intro e
    cases ha2 : d.la with
    | none => rw [ha2] at e; simp [Value.ownBlock] at e
    | some ad2 =>
      rw [ha2] at e
      simp only [Value.ownBlock, Option.some.injEq] at e
      obtain ⟨⟨c1, hc1⟩, _⟩ := own_at h.marks ha
      obtain ⟨⟨c2, hc2⟩, _⟩ := own_at h.code ha2
      rw [e, hc2] at hc1
      simp at hc1
  · intro x hx
    rcases List.mem_append.1 hx with hx | hx
    · exact h.wf x hx
    · exact hw x hx
  · intro m1 hm1
    have := h.wm m1 hm1
    refine ⟨this.1, ?_⟩
    show m1 ≤ ((d.cs ++ xs).length : Int)
    rw [List.length_append]
    omega
  · rw [World.size_setCell]; exact Nat.le_trans b1.size hg.size
  · intro k hk hd
    rw [Below.heap_setCell _ _ _ _ (by show k ≠ d.p; exact fun e => hd (.inl e))]
    exact hgl k hk hd
  · intro k hk
    rcases hk with hk | ⟨ad, ha, e⟩ | ⟨ad, ha, e⟩
    · exact .inl (.inl hk)
    · obtain rfl := Option.some.inj ha
      subst e
      rcases hgn with hgn | hgn
      · exact .inl (.inr (.inl ⟨_, hgn, rfl⟩))
      · exact .inr (Nat.le_trans b1.size hgn)
    · exact .inl (.inr (.inr ⟨ad, ha, e⟩))

/-- the place of a label -/
theorem lab_at {T : TypeId} {B : Nat} {d : LabD} {w : World} (h : LabAt T B d w) {l : Nat} (hl : l < d.ms.length) : ∃ g, d.ma = some ⟨g, 0, none⟩ ∧ w.cell? ⟨g, l, none⟩ = some (.int .i64 (d.ms.getD l 0)) ∧ w.frozen? ⟨g, l, none⟩ = false ∧ g < w.heap.size := by
  have hm := h.marks
  rcases hm.2 with ⟨_, e⟩ | ⟨g, cap, cur, e, _⟩
  · omega
  · simp only [Value.slice.injEq, true_and] at e
    rw [e.1] at hm
    refine ⟨g, e.1, ?_, hm.frozenAt l, (hm.lt g rfl).2⟩
    rw [hm.cellAt l (by omega)]
    have := gflat_to (cells := kIntE) (k := 1) (fun _ => rfl) (S := d.ms) (i := l) (r := 0) (s := d.ms[l]) (u := .int .i64 d.ms[l]) (List.getElem?_eq_getElem hl) rfl
    rw [Nat.mul_one, Nat.add_zero] at this
    rw [this, List.getD_eq_getElem?_getD, List.getElem?_eq_getElem hl, Option.getD_some]

theorem kInt_set (ms : List Int) (l : Nat) (v : Int) : (ms.set l v).flatMap kIntE = (ms.flatMap kIntE).set l (.int .i64 v) := by
  induction ms generalizing l with
  | nil => simp
  | cons m r ih =>
    cases l with
    | zero => simp [kIntE]
    | succ l =>
      rw [List.set_cons_succ, List.flatMap_cons, List.flatMap_cons, ih]
      simp [kIntE]

/-- a label marked -/
theorem lab_mark {T : TypeId} {B : Nat} {d : LabD} {w : World} (h : LabAt T B d w) (hT : AT T) {l g : Nat} (hg : d.ma = some ⟨g, 0, none⟩) :
    LabAt T B (d.withM d.ma d.mc (d.ms.set l d.cs.length)) (w.setCell ⟨g, l, none⟩ (.int .i64 d.cs.length)) ∧ LabTo d (d.withM d.ma d.mc (d.ms.set l d.cs.length)) w (w.setCell ⟨g, l, none⟩ (.int .i64 d.cs.length)) := by
  have hm := h.marks
  have hne := own_ne hm h.box hT.2 hg
  have hb := h.box
  rw [hg] at hm
  obtain ⟨s1, s2⟩ := hm.stored l (.int .i64 d.cs.length)
  refine ⟨⟨?_, h.lo, ?_, ?_, h.wf, ?_⟩, ⟨rfl, rfl, rfl, s2.size, ?_, ?_⟩⟩
  · show (w.setCell _ _).heap[d.p]? = some (.cells #[.slice d.la d.cs.length d.lc, .slice d.ma (d.ms.set l d.cs.length).length d.mc] T (0, 0))
    rw [Below.heap_setCell _ _ _ _ (by show d.p ≠ g; exact fun e => hne e.symm), List.length_set]
    exact hb
  · refine owns_blk h.code fun ad ha => ?_
    refine Below.heap_setCell _ _ _ _ ?_
    show ad.block ≠ g
    intro e
    obtain ⟨⟨c1, hc1⟩, _⟩ := own_at h.code ha
    obtain ⟨⟨c2, hc2⟩, _⟩ := own_at h.marks hg
    rw [e, hc2] at hc1
    simp at hc1
  · show (w.setCell _ _).ownsRow B 3 1 (.slice d.ma (d.ms.set l d.cs.length).length d.mc) (d.ms.set l d.cs.length).length ((d.ms.set l d.cs.length).flatMap kIntE)
    rw [kInt_set, List.length_set, hg]
    exact s1
  · intro m hmm
    rcases List.mem_or_eq_of_mem_set hmm with h1 | h1
    · exact h.wm m h1
    · subst h1
      exact ⟨by omega, Int.le_refl _⟩
  · intro k hk hd
    exact Below.heap_setCell _ _ _ _ (by show k ≠ g; exact fun e => hd (.inr (.inr ⟨_, hg, e⟩)))
  · intro k hk
    exact .inl hk
end Go.Proofs.Ytkipfppblhkodaa
