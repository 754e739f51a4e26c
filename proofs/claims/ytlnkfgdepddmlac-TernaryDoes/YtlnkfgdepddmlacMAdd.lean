/- What Add of a table by masks does. -/
import Derived.Test.YtlnkfgdepddmlacMTab
namespace Go.Proofs.Ytlnkfgdepddmlac
open Go.RowKit Mth

theorem mflat_take (ds : List MD) (i : Nat) : (ds.flatMap MD.cells).take (i * 6) = (ds.take i).flatMap MD.cells := by
  induction ds generalizing i with
  | nil => simp
  | cons d ds ih =>
    cases i with
    | zero => simp
    | succ i =>
      simp only [List.flatMap_cons, List.take_succ_cons]
      rw [show (i + 1) * 6 = (MD.cells d).length + i * 6 from by simp [MD.cells]; omega, List.take_length_add_append, ih]

theorem mflat_drop (ds : List MD) (i : Nat) : (ds.flatMap MD.cells).drop (i * 6) = (ds.drop i).flatMap MD.cells := by
  induction ds generalizing i with
  | nil => simp
  | cons d ds ih =>
    cases i with
    | zero => simp
    | succ i =>
      simp only [List.flatMap_cons, List.drop_succ_cons]
      rw [show (i + 1) * 6 = (MD.cells d).length + i * 6 from by simp [MD.cells]; omega, List.drop_length_add_append, ih]

theorem mcells_one (d : MD) : ∀ u ∈ d.cells, u.oneCell' = true := by
  intro u hu
  simp only [MD.cells, List.mem_cons, List.not_mem_nil, or_false] at hu
  rcases hu with rfl | rfl | rfl | rfl | rfl | rfl <;> rfl

theorem mflat_one (ds : List MD) : ∀ u ∈ ds.flatMap MD.cells, u.oneCell' = true := by
  intro u hu
  obtain ⟨d, _, h⟩ := List.mem_flatMap.1 hu
  exact mcells_one d u h

/-- numbers stay where the row has turned, and the head -/
theorem has_keep {wA w6 : World} {la : Option Addr} {n cap p : Nat} {keys : Int} (hg : wA.grownBy w6 (Value.slice la n cap).ownBlock) (hh : ∀ ad, la = some ad → ∃ a m c, wA.cell? ⟨ad.block, 0, none⟩ = some (.slice a m c)) (p0 : wA.cell? ⟨p, 0, none⟩ = some (.int .i64 keys)) (o : Nat) (v : Value) {a : Option Addr} {m : Nat} {zs : List Int} (f : From 0 a m) (h : Has .u64 wA a m zs) : Has .u64 (w6.setCell ⟨p, o, none⟩ v) a m zs := by
  refine ⟨h.1, h.2.1, ?_⟩
  by_cases h0 : 0 < m
  · obtain ⟨b, off, rfl, hlt, hc⟩ := h.some h0
    obtain ⟨b', off', e, _, hz⟩ := f h0
    simp only [Option.some.injEq, Addr.mk.injEq, and_true] at e
    obtain ⟨rfl, rfl⟩ := e
    subst hz
    have h00 := hc 0 h0
    rw [Nat.zero_add] at h00
    have hbp : b ≠ p := fun e => by rw [e, p0] at h00; cases h00
    have hbg : some b ≠ (Value.slice la n cap).ownBlock := fun e => by
      cases la with
      | none => cases e
      | some ad =>
        obtain ⟨a', m', c', hc'⟩ := hh ad rfl
        have : b = ad.block := by simpa [Value.ownBlock] using e
        rw [← this, h00] at hc'
        cases hc'
    have hblk : (w6.setCell ⟨p, o, none⟩ v).heap[b]? = wA.heap[b]? := by
      rw [Below.heap_setCell _ _ _ _ hbp]
      exact hg.block b hlt hbg
    exact .inr ⟨b, 0, rfl, by simp only [World.setCell, Array.size_modify]; exact Nat.lt_of_lt_of_le hlt hg.size, fun i hi => (World.cell?_of_block (w := wA) (w' := w6.setCell ⟨p, o, none⟩ v) (a := ⟨b, 0 + i, none⟩) hblk).trans (hc i hi)⟩
  · exact .inl (List.eq_nil_of_length_eq_zero (by have := h.1; omega))

theorem owns_set {w6 : World} {B g n cap p o : Nat} {xs : List Value} {v : Value} (h : w6.ownsRow B 33 6 (.slice (some ⟨g, 0, none⟩) n cap) n xs) (hne : g ≠ p) : (w6.setCell ⟨p, o, none⟩ v).ownsRow B 33 6 (.slice (some ⟨g, 0, none⟩) n cap) n xs := by
  refine ⟨h.1, ?_⟩
  rcases h.2 with h2 | ⟨g', c, cur, hv, hbg, hh, r⟩
  · exact .inl h2
  · refine .inr ⟨g', c, cur, hv, hbg, ?_, r⟩
    have eg : g = g' := by simp only [Value.slice.injEq, Option.some.injEq, Addr.mk.injEq, and_true] at hv; exact hv.1
    subst eg
    rw [Below.heap_setCell _ _ _ _ hne]
    exact hh

/-- the table behind another list -/
theorem mtab_new {w wA w6 : World} {B p : Nat} {keys most : Int} {T T' : List TE} {la : Option Addr} {cap g m cap' : Nat} {ds' : List MD} (t : MTab w B p keys most T) (hb : Below w.heap.size w wA) (h2 : w.cell? ⟨p, 2, none⟩ = some (.slice la T.length cap))
    (hg : wA.grownBy w6 (Value.slice la T.length cap).ownBlock) (ho : w6.ownsRow B 33 6 (.slice (some ⟨g, 0, none⟩) m cap') m (ds'.flatMap MD.cells)) (hl : ds'.length = m) (hT : T'.length = m) (hgd : ∀ (i : Nat) (d : MD) (e : TE), ds'[i]? = some d → T'[i]? = some e → d.good wA e ∧ d.new 0 ∧ d.ln = 0)
    (hhd : ∃ a n c, w6.cell? ⟨g, 0, none⟩ = some (.slice a n c)) (hok : OkM keys most T') (hfr : la = some ⟨g, 0, none⟩ ∨ w.heap.size ≤ g) : MTo w (w6.setCell ⟨p, 2, none⟩ (.slice (some ⟨g, 0, none⟩) m cap')) B p keys most T' := by
  have hpl : p < w.heap.size := World.block_lt_of_cell? w _ t.c0
  have tA := t.step hb
  obtain ⟨la', cap'', h2', hr⟩ := t.lst
  rw [h2] at h2'
  simp only [Option.some.injEq, Value.slice.injEq, true_and] at h2'
  obtain ⟨rfl, rfl⟩ := h2'
  have hrA := hr.step hb
  have hlaS : ∀ ad, la = some ad → ad = ⟨ad.block, 0, none⟩ := fun ad e => by
    obtain ⟨⟨ds, -, -, ho', -⟩, -⟩ := hr
    rcases ho'.2 with ⟨e1, -⟩ | ⟨g', _, _, e1, -⟩
    · rw [e] at e1; simp at e1
    · rw [e] at e1; simp only [Value.slice.injEq, Option.some.injEq] at e1; rw [e1.1]
  have hh : ∀ ad, la = some ad → ∃ a m c, wA.cell? ⟨ad.block, 0, none⟩ = some (.slice a m c) := fun ad e => hrA.2 ad.block (by rw [e, ← hlaS ad e])
  have hpp : w6.heap[p]? = wA.heap[p]? := by
    refine hg.block p (Nat.lt_of_lt_of_le hpl hb.size) (fun e => ?_)
    cases la with
    | none => cases e
    | some ad =>
      obtain ⟨a', m', c', hc'⟩ := hh ad rfl
      have : p = ad.block := by simpa [Value.ownBlock] using e
      rw [← this, tA.c0] at hc'
      cases hc'
  have cs : ∀ i, w6.cell? ⟨p, i, none⟩ = wA.cell? ⟨p, i, none⟩ := fun i => World.cell?_of_block (w := wA) (w' := w6) (a := ⟨p, i, none⟩) hpp
  have c2 : w6.cell? ⟨p, 2, none⟩ = some (.slice la T.length cap) := (cs 2).trans ((hb.cell (p := ⟨p, 2, none⟩) hpl).trans h2)
  have cz : ∀ i, i ≠ 2 → (w6.setCell ⟨p, 2, none⟩ (.slice (some ⟨g, 0, none⟩) m cap')).cell? ⟨p, i, none⟩ = wA.cell? ⟨p, i, none⟩ := fun i hi => (World.cell?_setCell_other _ _ _ _ (addr_ne (by omega))).trans (cs i)
  have hgp : g ≠ p := by
    obtain ⟨a, n', c', hc'⟩ := hhd
    intro e
    rw [e, cs 0, tA.c0] at hc'
    cases hc'
  refine ⟨⟨(cz 0 (by omega)).trans tA.c0, (cz 1 (by omega)).trans tA.c1, ?_, t.base, ⟨some ⟨g, 0, none⟩, cap', ?_, ?_⟩, hok⟩, ?_, ?_, fun k hk hkp hkg => ?_, fun g' n c h => ?_⟩
  · simp only [World.frozen?_setCell]
    exact (World.frozen?_of_block (w := wA) (w' := w6) (a := ⟨p, 2, none⟩) hpp).trans tA.f2
  · rw [World.cell?_setCell_same _ _ _ c2, hT]
  · rw [hT]
    refine ⟨⟨ds', hl, hT, owns_set ho hgp, fun i d e hd he => ?_⟩, fun g' e => ?_⟩
    · obtain ⟨q1, q2, q3⟩ := hgd i d e hd he
      exact ⟨q1.keep q2 (fun a n zs f h => has_keep hg hh tA.c0 2 _ f h), q2, q3⟩
    · have eg : g = g' := by simpa using e
      subst eg
      obtain ⟨a, n', c', hc'⟩ := hhd
      exact ⟨a, n', c', (World.cell?_setCell_other _ _ _ _ (fun e => hgp (by have := congrArg Addr.block e; simp only at this; omega))).trans hc'⟩
  · refine ((hb.mono t.small).grown hg (Nat.le_trans t.small hb.size) (fun k hk => ?_)).setCell t.base _
    cases la with
    | none => cases hk
    | some ad =>
      have : ad.block = k := by simpa [Value.ownBlock] using hk
      rw [← this]
      exact (hr.lt ad.block (by rw [← hlaS ad rfl])).1
  · have := hb.size; have := hg.size
    simp only [World.setCell, Array.size_modify]; omega
  · rw [Below.heap_setCell _ _ _ _ hkp, hg.block k (Nat.lt_of_lt_of_le hk hb.size) (fun e => ?_)]
    · exact hb.block k hk
    · cases la with
      | none => cases e
      | some ad =>
        have : k = ad.block := by simpa [Value.ownBlock] using e
        exact hkg ad.block _ _ (by rw [h2, ← hlaS ad rfl]) this
  · rw [World.cell?_setCell_same _ _ _ c2] at h
    simp only [Option.some.injEq, Value.slice.injEq, Addr.mk.injEq, and_true] at h
    obtain ⟨rfl, _⟩ := h
    rcases hfr with h1 | h1
    · exact .inl ⟨_, _, by rw [h2, h1]⟩
    · exact .inr h1

theorem at_ins {α : Type} {l : List α} {i j : Nat} {x y : α} (hi : i ≤ l.length) (h : (l.take i ++ x :: l.drop i)[j]? = some y) : (j < i ∧ l[j]? = some y) ∨ (j = i ∧ x = y) ∨ (i < j ∧ l[j - 1]? = some y) := by
  have hl : (l.take i).length = i := by rw [List.length_take]; omega
  rcases Nat.lt_trichotomy j i with h1 | h1 | h1
  · rw [List.getElem?_append_left (by omega), List.getElem?_take_of_lt h1] at h
    exact .inl ⟨h1, h⟩
  · rw [List.getElem?_append_right (by omega), hl, h1, Nat.sub_self, List.getElem?_cons_zero] at h
    exact .inr (.inl ⟨h1, Option.some.inj h⟩)
  · rw [List.getElem?_append_right (by omega), hl, show j - i = (j - i - 1) + 1 from by omega, List.getElem?_cons_succ, List.getElem?_drop, show i + (j - i - 1) = j - 1 from by omega] at h
    exact .inr (.inr ⟨h1, h⟩)

/-- an entry more -/
theorem madd_end {w wA w6 : World} {B p : Nat} {keys most : Int} {T : List TE} {e : TE} {la : Option Addr} {cap g cap' i : Nat} {ds : List MD} {d : MD} (t : MTab w B p keys most T) (hb : Below w.heap.size w wA) (h2 : w.cell? ⟨p, 2, none⟩ = some (.slice la T.length cap))
    (hlen : ds.length = T.length) (hgd : ∀ (i : Nat) (d : MD) (e : TE), ds[i]? = some d → T[i]? = some e → d.good wA e ∧ d.new 0 ∧ d.ln = 0) (hd : d.good wA e) (hn : d.new 0) (hln : d.ln = 0) (hcut : Cut T e i) (hg : GoodM keys e) (hns : ¬ ∃ x ∈ T, SameP x e) (hnc : ¬ ClashM T e) (hfl : (T.length : Int) < most)
    (hgr : wA.grownBy w6 (Value.slice la T.length cap).ownBlock) (ho : w6.ownsRow B 33 6 (.slice (some ⟨g, 0, none⟩) (T.length + 1) cap') (T.length + 1) ((ds.flatMap MD.cells).take (i * 6) ++ d.cells ++ (ds.flatMap MD.cells).drop (i * 6))) (hfr : la = some ⟨g, 0, none⟩ ∨ w.heap.size ≤ g) :
    MAddDone w (w6.setCell ⟨p, 2, none⟩ (.slice (some ⟨g, 0, none⟩) (T.length + 1) cap')) B p keys most T e (.returned (.int .i64 0)) := by
  have hcode : addCM keys most T e = 0 := by unfold addCM; rw [if_pos hg, if_neg hns, if_neg hnc, if_neg (by omega)]
  refine ⟨by rw [hcode], ?_⟩
  unfold addTM
  rw [if_pos hcode, cut_is hcut]
  have hi := hcut.le
  rw [mflat_take, mflat_drop, show (ds.take i).flatMap MD.cells ++ d.cells ++ (ds.drop i).flatMap MD.cells = (ds.take i ++ d :: ds.drop i).flatMap MD.cells by simp] at ho
  have hl1 : (ds.take i ++ d :: ds.drop i).length = T.length + 1 := by simp; omega
  have hl2 : (T.take i ++ e :: T.drop i).length = T.length + 1 := by simp; omega
  refine mtab_new t hb h2 hgr ho hl1 hl2 (fun j d' e' hd' he' => ?_) ?_ (okM_add t.ok hcut hg hns hnc hfl) hfr
  · rcases at_ins (by omega) hd' with ⟨q1, q2⟩ | ⟨q1, q2⟩ | ⟨q1, q2⟩ <;> rcases at_ins hi he' with ⟨r1, r2⟩ | ⟨r1, r2⟩ | ⟨r1, r2⟩ <;> first | omega | skip
    · exact hgd j d' e' q2 r2
    · subst q2; subst r2; exact ⟨hd, hn, hln⟩
    · exact hgd (j - 1) d' e' q2 r2
  · obtain ⟨x, hx⟩ : ∃ x, (ds.take i ++ d :: ds.drop i)[0]? = some x := ⟨_, List.getElem?_eq_getElem (by omega)⟩
    have h0 : w6.cell? ⟨g, 0, none⟩ = ((ds.take i ++ d :: ds.drop i).flatMap MD.cells)[0]? := by rw [ho.cellAt 0 (by omega)]
    have h1 := mflat_at (ds.take i ++ d :: ds.drop i) 0 0 (by omega) (by omega)
    simp only [Nat.mul_zero, Nat.add_zero] at h1
    rw [h1] at h0
    exact ⟨_, _, _, h0⟩
end Go.Proofs.Ytlnkfgdepddmlac
