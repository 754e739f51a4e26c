/- Texts of one chain, joined: MAdd, MAdd2, MDrop. -/
import Derived.Test.YtffbnggdckjogaaGreatG19
namespace Go.Proofs.YtffbnggdckjogaaGreat
open Go.RowKit Mth
theorem mflat_take (ds : List MD) (i : Nat) : (ds.flatMap MD.cells).take (i * 6) = (ds.take i).flatMap MD.cells := by
  induction ds generalizing i with
  | nil => simp
  | cons d ds ih =>
    cases i with
    | zero => simp
    | succ i =>
      simp only [List.flatMap_cons, List.take_succ_cons]
      rw [show (i + 1) * 6 = (MD.cells d).length + i * 6 from by simp [MD.cells]; omega, List.take_length_add_append, ih]
theorem mflat_drop (ds : List MD) (i : Nat) : (ds.flatMap MD.cells).drop (i * 6) = (ds.drop i).flatMap MD.cells := by
  induction ds generalizing i with
  | nil => simp
  | cons d ds ih =>
    cases i with
    | zero => simp
    | succ i =>
      simp only [List.flatMap_cons, List.drop_succ_cons]
      rw [show (i + 1) * 6 = (MD.cells d).length + i * 6 from by simp [MD.cells]; omega, List.drop_length_add_append, ih]
theorem mcells_one (d : MD) : ∀ u ∈ d.cells, u.oneCell' = true := by
  intro u hu
  simp only [MD.cells, List.mem_cons, List.not_mem_nil, or_false] at hu
  rcases hu with rfl | rfl | rfl | rfl | rfl | rfl <;> rfl
theorem mflat_one (ds : List MD) : ∀ u ∈ ds.flatMap MD.cells, u.oneCell' = true := by
  intro u hu
  obtain ⟨d, _, h⟩ := List.mem_flatMap.1 hu
  exact mcells_one d u h
theorem has_keep {wA w6 : World} {la : Option Addr} {n cap p : Nat} {keys : Int} (hg : wA.grownBy w6 (Value.slice la n cap).ownBlock) (hh : ∀ ad, la = some ad → ∃ a m c, wA.cell? ⟨ad.block, 0, none⟩ = some (.slice a m c)) (p0 : wA.cell? ⟨p, 0, none⟩ = some (.int .i64 keys)) (o : Nat) (v : Value) {a : Option Addr} {m : Nat} {zs : List Int} (f : From 0 a m) (h : Has .u64 wA a m zs) : Has .u64 (w6.setCell ⟨p, o, none⟩ v) a m zs := by
  refine ⟨h.1, h.2.1, ?_⟩
  by_cases h0 : 0 < m
  · obtain ⟨b, off, rfl, hlt, hc⟩ := h.some h0
    obtain ⟨b', off', e, _, hz⟩ := f h0
    simp only [Option.some.injEq, Addr.mk.injEq, and_true] at e
    obtain ⟨rfl, rfl⟩ := e
    subst hz
    have h00 := hc 0 h0
    rw [Nat.zero_add] at h00
    have hbp : b ≠ p := fun e => by rw [e, p0] at h00; cases h00
    have hbg : some b ≠ (Value.slice la n cap).ownBlock := fun e => by
      cases la with
      | none => cases e
      | some ad =>
        obtain ⟨a', m', c', hc'⟩ := hh ad rfl
        have : b = ad.block := by simpa [Value.ownBlock] using e
        rw [← this, h00] at hc'
        cases hc'
    have hblk : (w6.setCell ⟨p, o, none⟩ v).heap[b]? = wA.heap[b]? := by
      rw [Below.heap_setCell _ _ _ _ hbp]
      exact hg.block b hlt hbg
    exact .inr ⟨b, 0, rfl, by simp only [World.setCell, Array.size_modify]; exact Nat.lt_of_lt_of_le hlt hg.size, fun i hi => (World.cell?_of_block (w := wA) (w' := w6.setCell ⟨p, o, none⟩ v) (a := ⟨b, 0 + i, none⟩) hblk).trans (hc i hi)⟩
  · exact .inl (List.eq_nil_of_length_eq_zero (by have := h.1; omega))
theorem owns_set {w6 : World} {B g n cap p o : Nat} {xs : List Value} {v : Value} (h : w6.ownsRow B 38 6 (.slice (some ⟨g, 0, none⟩) n cap) n xs) (hne : g ≠ p) : (w6.setCell ⟨p, o, none⟩ v).ownsRow B 38 6 (.slice (some ⟨g, 0, none⟩) n cap) n xs := by
  refine ⟨h.1, ?_⟩
  rcases h.2 with h2 | ⟨g', c, cur, hv, hbg, hh, r⟩
  · exact .inl h2
  · refine .inr ⟨g', c, cur, hv, hbg, ?_, r⟩
    have eg : g = g' := by simp only [Value.slice.injEq, Option.some.injEq, Addr.mk.injEq, and_true] at hv; exact hv.1
    subst eg
    rw [Below.heap_setCell _ _ _ _ hne]
    exact hh
theorem mtab_new {w wA w6 : World} {B p : Nat} {keys most : Int} {T T' : List TE} {la : Option Addr} {cap g m cap' : Nat} {ds' : List MD} (t : MTab w B p keys most T) (hb : Below w.heap.size w wA) (h2 : w.cell? ⟨p, 2, none⟩ = some (.slice la T.length cap))
    (hg : wA.grownBy w6 (Value.slice la T.length cap).ownBlock) (ho : w6.ownsRow B 38 6 (.slice (some ⟨g, 0, none⟩) m cap') m (ds'.flatMap MD.cells)) (hl : ds'.length = m) (hT : T'.length = m) (hgd : ∀ (i : Nat) (d : MD) (e : TE), ds'[i]? = some d → T'[i]? = some e → d.good wA e ∧ d.new 0 ∧ d.ln = 0)
    (hhd : ∃ a n c, w6.cell? ⟨g, 0, none⟩ = some (.slice a n c)) (hok : OkM keys most T') (hfr : la = some ⟨g, 0, none⟩ ∨ w.heap.size ≤ g) : MTo w (w6.setCell ⟨p, 2, none⟩ (.slice (some ⟨g, 0, none⟩) m cap')) B p keys most T' := by
  have hpl : p < w.heap.size := World.block_lt_of_cell? w _ t.c0
  have tA := t.step hb
  obtain ⟨la', cap'', h2', hr⟩ := t.lst
  rw [h2] at h2'
  simp only [Option.some.injEq, Value.slice.injEq, true_and] at h2'
  obtain ⟨rfl, rfl⟩ := h2'
  have hrA := hr.step hb
  have hlaS : ∀ ad, la = some ad → ad = ⟨ad.block, 0, none⟩ := fun ad e => by
    obtain ⟨⟨ds, -, -, ho', -⟩, -⟩ := hr
    rcases ho'.2 with ⟨e1, -⟩ | ⟨g', _, _, e1, -⟩
    · rw [e] at e1; simp at e1
    · rw [e] at e1; simp only [Value.slice.injEq, Option.some.injEq] at e1; rw [e1.1]
  have hh : ∀ ad, la = some ad → ∃ a m c, wA.cell? ⟨ad.block, 0, none⟩ = some (.slice a m c) := fun ad e => hrA.2 ad.block (by rw [e, ← hlaS ad e])
  have hpp : w6.heap[p]? = wA.heap[p]? := by
    refine hg.block p (Nat.lt_of_lt_of_le hpl hb.size) (fun e => ?_)
    cases la with
    | none => cases e
    | some ad =>
      obtain ⟨a', m', c', hc'⟩ := hh ad rfl
      have : p = ad.block := by simpa [Value.ownBlock] using e
      rw [← this, tA.c0] at hc'
      cases hc'
  have cs : ∀ i, w6.cell? ⟨p, i, none⟩ = wA.cell? ⟨p, i, none⟩ := fun i => World.cell?_of_block (w := wA) (w' := w6) (a := ⟨p, i, none⟩) hpp
  have c2 : w6.cell? ⟨p, 2, none⟩ = some (.slice la T.length cap) := (cs 2).trans ((hb.cell (p := ⟨p, 2, none⟩) hpl).trans h2)
  have cz : ∀ i, i ≠ 2 → (w6.setCell ⟨p, 2, none⟩ (.slice (some ⟨g, 0, none⟩) m cap')).cell? ⟨p, i, none⟩ = wA.cell? ⟨p, i, none⟩ := fun i hi => (World.cell?_setCell_other _ _ _ _ (addr_ne (by omega))).trans (cs i)
  have hgp : g ≠ p := by
    obtain ⟨a, n', c', hc'⟩ := hhd
    intro e
    rw [e, cs 0, tA.c0] at hc'
    cases hc'
  refine ⟨⟨(cz 0 (by omega)).trans tA.c0, (cz 1 (by omega)).trans tA.c1, ?_, t.base, ⟨some ⟨g, 0, none⟩, cap', ?_, ?_⟩, hok⟩, ?_, ?_, fun k hk hkp hkg => ?_, fun g' n c h => ?_⟩
  · simp only [World.frozen?_setCell]
    exact (World.frozen?_of_block (w := wA) (w' := w6) (a := ⟨p, 2, none⟩) hpp).trans tA.f2
  · rw [World.cell?_setCell_same _ _ _ c2, hT]
  · rw [hT]
    refine ⟨⟨ds', hl, hT, owns_set ho hgp, fun i d e hd he => ?_⟩, fun g' e => ?_⟩
    · obtain ⟨q1, q2, q3⟩ := hgd i d e hd he
      exact ⟨q1.keep q2 (fun a n zs f h => has_keep hg hh tA.c0 2 _ f h), q2, q3⟩
    · have eg : g = g' := by simpa using e
      subst eg
      obtain ⟨a, n', c', hc'⟩ := hhd
      exact ⟨a, n', c', (World.cell?_setCell_other _ _ _ _ (fun e => hgp (by have := congrArg Addr.block e; simp only at this; omega))).trans hc'⟩
  · refine ((hb.mono t.small).grown hg (Nat.le_trans t.small hb.size) (fun k hk => ?_)).setCell t.base _
    cases la with
    | none => cases hk
    | some ad =>
      have : ad.block = k := by simpa [Value.ownBlock] using hk
      rw [← this]
      exact (hr.lt ad.block (by rw [← hlaS ad rfl])).1
  · have := hb.size; have := hg.size
    simp only [World.setCell, Array.size_modify]; omega
  · rw [Below.heap_setCell _ _ _ _ hkp, hg.block k (Nat.lt_of_lt_of_le hk hb.size) (fun e => ?_)]
    · exact hb.block k hk
    · cases la with
      | none => cases e
      | some ad =>
        have : k = ad.block := by simpa [Value.ownBlock] using e
        exact hkg ad.block _ _ (by rw [h2, ← hlaS ad rfl]) this
  · rw [World.cell?_setCell_same _ _ _ c2] at h
    simp only [Option.some.injEq, Value.slice.injEq, Addr.mk.injEq, and_true] at h
    obtain ⟨rfl, _⟩ := h
    rcases hfr with h1 | h1
    · exact .inl ⟨_, _, by rw [h2, h1]⟩
    · exact .inr h1
theorem at_ins {α : Type} {l : List α} {i j : Nat} {x y : α} (hi : i ≤ l.length) (h : (l.take i ++ x :: l.drop i)[j]? = some y) : (j < i ∧ l[j]? = some y) ∨ (j = i ∧ x = y) ∨ (i < j ∧ l[j - 1]? = some y) := by
  have hl : (l.take i).length = i := by rw [List.length_take]; omega
  rcases Nat.lt_trichotomy j i with h1 | h1 | h1
  · rw [List.getElem?_append_left (by omega), List.getElem?_take_of_lt h1] at h
    exact .inl ⟨h1, h⟩
  · rw [List.getElem?_append_right (by omega), hl, h1, Nat.sub_self, List.getElem?_cons_zero] at h
    exact .inr (.inl ⟨h1, Option.some.inj h⟩)
  · rw [List.getElem?_append_right (by omega), hl, show j - i = (j - i - 1) + 1 from by omega, List.getElem?_cons_succ, List.getElem?_drop, show i + (j - i - 1) = j - 1 from by omega] at h
    exact .inr (.inr ⟨h1, h⟩)
theorem madd_end {w wA w6 : World} {B p : Nat} {keys most : Int} {T : List TE} {e : TE} {la : Option Addr} {cap g cap' i : Nat} {ds : List MD} {d : MD} (t : MTab w B p keys most T) (hb : Below w.heap.size w wA) (h2 : w.cell? ⟨p, 2, none⟩ = some (.slice la T.length cap))
    (hlen : ds.length = T.length) (hgd : ∀ (i : Nat) (d : MD) (e : TE), ds[i]? = some d → T[i]? = some e → d.good wA e ∧ d.new 0 ∧ d.ln = 0) (hd : d.good wA e) (hn : d.new 0) (hln : d.ln = 0) (hcut : Cut T e i) (hg : GoodM keys e) (hns : ¬ ∃ x ∈ T, SameP x e) (hnc : ¬ ClashM T e) (hfl : (T.length : Int) < most)
    (hgr : wA.grownBy w6 (Value.slice la T.length cap).ownBlock) (ho : w6.ownsRow B 38 6 (.slice (some ⟨g, 0, none⟩) (T.length + 1) cap') (T.length + 1) ((ds.flatMap MD.cells).take (i * 6) ++ d.cells ++ (ds.flatMap MD.cells).drop (i * 6))) (hfr : la = some ⟨g, 0, none⟩ ∨ w.heap.size ≤ g) :
    MAddDone w (w6.setCell ⟨p, 2, none⟩ (.slice (some ⟨g, 0, none⟩) (T.length + 1) cap')) B p keys most T e (.returned (.int .i64 0)) := by
  have hcode : addCM keys most T e = 0 := by unfold addCM; rw [if_pos hg, if_neg hns, if_neg hnc, if_neg (by omega)]
  refine ⟨by rw [hcode], ?_⟩
  unfold addTM
  rw [if_pos hcode, cut_is hcut]
  have hi := hcut.le
  rw [mflat_take, mflat_drop, show (ds.take i).flatMap MD.cells ++ d.cells ++ (ds.drop i).flatMap MD.cells = (ds.take i ++ d :: ds.drop i).flatMap MD.cells by simp] at ho
  have hl1 : (ds.take i ++ d :: ds.drop i).length = T.length + 1 := by simp; omega
  have hl2 : (T.take i ++ e :: T.drop i).length = T.length + 1 := by simp; omega
  refine mtab_new t hb h2 hgr ho hl1 hl2 (fun j d' e' hd' he' => ?_) ?_ (okM_add t.ok hcut hg hns hnc hfl) hfr
  · rcases at_ins (by omega) hd' with ⟨q1, q2⟩ | ⟨q1, q2⟩ | ⟨q1, q2⟩ <;> rcases at_ins hi he' with ⟨r1, r2⟩ | ⟨r1, r2⟩ | ⟨r1, r2⟩ <;> first | omega | skip
    · exact hgd j d' e' q2 r2
    · subst q2; subst r2; exact ⟨hd, hn, hln⟩
    · exact hgd (j - 1) d' e' q2 r2
  · obtain ⟨x, hx⟩ : ∃ x, (ds.take i ++ d :: ds.drop i)[0]? = some x := ⟨_, List.getElem?_eq_getElem (by omega)⟩
    have h0 : w6.cell? ⟨g, 0, none⟩ = ((ds.take i ++ d :: ds.drop i).flatMap MD.cells)[0]? := by rw [ho.cellAt 0 (by omega)]
    have h1 := mflat_at (ds.take i ++ d :: ds.drop i) 0 0 (by omega) (by omega)
    simp only [Nat.mul_zero, Nat.add_zero] at h1
    rw [h1] at h0
    exact ⟨_, _, _, h0⟩
end Go.Proofs.YtffbnggdckjogaaGreat

namespace Go.Proofs.YtffbnggdckjogaaGreat
open Go.RowKit Mth
theorem rowAt_alloc (w : World) (cs : Array Value) : RowAt (w.alloc (.cells cs 38)) w.heap.size cs.toList := by
  unfold RowAt
  rw [Array.toArray_toList]
  exact heap_alloc_new w _
theorem mstore_ok {wA w6 : World} {B p : Nat} {keys most : Int} {T : List TE} {la : Option Addr} {cap : Nat} (t : MTab wA B p keys most T) (h2 : wA.cell? ⟨p, 2, none⟩ = some (.slice la T.length cap)) (hg : wA.grownBy w6 (Value.slice la T.length cap).ownBlock) : w6.cell? ⟨p, 2, none⟩ = some (.slice la T.length cap) ∧ w6.frozen? ⟨p, 2, none⟩ = false := by
  obtain ⟨la', cap'', h2', hr⟩ := t.lst
  rw [h2] at h2'
  simp only [Option.some.injEq, Value.slice.injEq, true_and] at h2'
  obtain ⟨rfl, rfl⟩ := h2'
  have hpp : w6.heap[p]? = wA.heap[p]? := by
    refine hg.block p (World.block_lt_of_cell? wA _ t.c0) (fun e => ?_)
    cases la with
    | none => cases e
    | some ad =>
      have ha : ad = ⟨ad.block, 0, none⟩ := by
        obtain ⟨⟨ds, -, -, ho', -⟩, -⟩ := hr
        rcases ho'.2 with ⟨e1, -⟩ | ⟨g', _, _, e1, -⟩
        · simp at e1
        · simp only [Value.slice.injEq, Option.some.injEq] at e1; rw [e1.1]
      obtain ⟨a', m', c', hc'⟩ := hr.2 ad.block (by rw [← ha])
      have : p = ad.block := by simpa [Value.ownBlock] using e
      rw [← this, t.c0] at hc'
      cases hc'
  exact ⟨(World.cell?_of_block (w := wA) (w' := w6) (a := ⟨p, 2, none⟩) hpp).trans h2, (World.frozen?_of_block (w := wA) (w' := w6) (a := ⟨p, 2, none⟩) hpp).trans t.f2⟩
set_option maxHeartbeats 8000000 in
set_option maxRecDepth 20000 in
theorem madd_good {w : World} {B p : Nat} {keys most : Int} {T : List TE} {f : MD} {e : TE} (t : MTab w B p keys most T) (hf : f.good w e) (hg : GoodM keys e) (hn : T.length ≤ 100000) (hns : ¬ ∃ x ∈ T, SameP x e) (hnc : ¬ ClashM T e) (hfl : (T.length : Int) < most) :
    Calls Tryz.prog 114 #[.pointer (some ⟨p, 0, none⟩), f.ev] w fun r w' => MAddDone w w' B p keys most T e r := by
  have hb0 := bl_alloc (o := f.ec) (Below.refl w.heap.size w)
  have HI := hid (isEntry_any (t.step hb0).c0 (hf.step hb0))
  have SX : Hid (Six (w.alloc f.ec) w.heap.size (.slice f.ka f.kn f.kc) (.slice f.ma f.mn f.mc) (.int .i64 f.ln) (.int .i64 f.pr) (.int .i64 f.ac) (.slice f.a f.n f.c)) := six_new w _ _ _ _ _ _ _
  obtain ⟨k0, k1, k2, k3, k4, k5, -, -, -, -, -, -⟩ := SX.out
  have HT := hid t
  have HG := hid hg
  have HF := hid hf
  have HB0 := hid hb0
  have HNS := hid hns
  have HNC := hid hnc
  clear t hf hg hb0 hns hnc
  go_enter Tryz.func114, Tryz.ntmps114
  go_wp2_with fail
  refine HI.out.mono ?_
  rintro r w1 ⟨b, rfl, hb, hg1⟩
  have eb : b = true := hb.2 HG.out
  subst eb
  have B1 := hid (bl_step HB0.out hg1.below)
  have S1 := hid (SX.out.step hg1.below)
  have HP := hid (mplace_any (HT.out.step B1.out) (HF.out.step B1.out) HG.out hn)
  clear hb hg1 HI k0 k1 k2 k3 k4 k5 SX HB0
  obtain ⟨k0, k1, k2, k3, k4, k5, -, -, -, -, -, -⟩ := S1.out
  go_wp2_with fail
  refine HP.out.mono ?_
  rintro r w2 ⟨i, fb, rfl, hcut, hfo, hg2⟩
  have hfo' := hfo.trans (cut_found HT.out.ok.srt hcut)
  have efb : fb = false := by
    cases fb with
    | false => rfl
    | true => exact absurd (hfo'.1 rfl) HNS.out
  subst efb
  have HCUT := hid hcut
  have B2 := hid (bl_step B1.out hg2.below)
  have S2 := hid (S1.out.step hg2.below)
  clear hcut hfo hfo' hg2 HP k0 k1 k2 k3 k4 k5 S1 B1
  have HC := hid (clashes_any (HT.out.step B2.out) (HF.out.step B2.out) HG.out hn)
  obtain ⟨k0, k1, k2, k3, k4, k5, -, -, -, -, -, -⟩ := S2.out
  go_wp2_with fail
  refine HC.out.mono ?_
  rintro r w3 ⟨b, rfl, hb, hg3⟩
  have eb : b = false := by
    cases b with
    | false => rfl
    | true => exact absurd (hb.1 rfl) HNC.out
  subst eb
  have B3 := hid (bl_step B2.out hg3.below)
  have S3 := hid (S2.out.step hg3.below)
  obtain ⟨la, cap, p2, -⟩ := (HT.out.step B3.out).lst
  have p1 := (HT.out.step B3.out).c1
  have hfd : ¬ most ≤ (T.length : Int) := by omega
  clear hb hg3 HC k0 k1 k2 k3 k4 k5 S2 B2
  go_wp2_with fail
  go_quiet (fail)
  go_wp2_with fail
  have B4 := hid (below_drewN B3.out nq)
  have S4 : Hid (Six (w3.drewN nq) w.heap.size (.slice f.ka f.kn f.kc) (.slice f.ma f.mn f.mc) (.int .i64 f.ln) (.int .i64 f.pr) (.int .i64 f.ac) (.slice f.a f.n f.c)) := S3.out.step (below_drewN (Below.refl w3.heap.size w3) nq)
  clear p1 p2 S3 B3
  generalize w3.drewN nq = w4 at *
  have T4 := hid (HT.out.step B4.out)
  obtain ⟨la', cap', p2, hrow⟩ := T4.out.lst
  obtain ⟨k0, k1, k2, k3, k4, k5, -, -, -, -, -, -⟩ := S4.out
  have hpl : p < w4.heap.size := World.block_lt_of_cell? w4 _ T4.out.c0
  have f2 := T4.out.f2
  have hpw : p < w.heap.size := World.block_lt_of_cell? w _ HT.out.c0
  have h2w : Hid (w.cell? ⟨p, 2, none⟩ = some (.slice la' T.length cap')) := by
    show w.cell? ⟨p, 2, none⟩ = _
    rw [← B4.out.cell (p := ⟨p, 2, none⟩) hpw]; exact p2
  have hbd : Below w4.heap.size w4 w4.drew := (Below.refl _ _).drew
  have HCP := hid (mcopied_any ((HF.out.step B4.out).step hbd))
  have HROW := hid hrow
  obtain ⟨⟨ds, dl, -, dow, dgd⟩, -⟩ := hrow
  have DOW := hid dow
  have DG := hid dgd
  have hlaB := hid (fun g (e : la' = some ⟨g, 0, none⟩) => (HROW.out.lt g e).2)
  have hbw : B ≤ w4.heap.size := Nat.le_trans HT.out.small B4.out.size
  have hile := HCUT.out.le
  have hiw : w.heap.size < w4.heap.size := World.block_lt_of_cell? w4 _ k0
  clear dow dgd
  go_region_law (first
    | (go_simp; go_at_call 124; refine HCP.out.mono ?_; rintro r w5 ⟨d, rfl, hgd, hnew, hln, hb5⟩; have HLN := hid hln; clear hln; have q2 : w5.cell? ⟨p, 2, none⟩ = some (.slice la' T.length cap') := ((bl_step hbd hb5).cell (p := ⟨p, 2, none⟩) hpl).trans p2; have hpl5 : p < w5.heap.size := World.block_lt_of_cell? w5 _ q2)
    | (go_simp; go_at_call 123; refine (ins_any (B := B) ((owns_below DOW.out (bl_step hbd hb5)).alloc _) (mflat_one ds) (rowAt_alloc w5 _) (by rfl) (mcells_one d) (fun g e => by have := hlaB.out g e; have := hb5.size; have := hbd.size; omega) hn hile (by have := hb5.size; have := hbd.size; simp; omega)).mono ?_; rintro r w6 ⟨g6, c6, rfl, ho6, hg6, hf6⟩; have HF6 := hid hf6; clear hf6; obtain ⟨q6, qf⟩ := mstore_ok (((T4.out.step hbd).step hb5).step (bl_alloc (Below.refl _ _))) ((bl_alloc (Below.refl w5.heap.size w5)).cell (p := ⟨p, 2, none⟩) hpl5 |>.trans q2) hg6))
  all_goals
    have hal : Below w5.heap.size w5 (w5.alloc (.cells #[.slice d.ka d.kn d.kc, .slice d.ma d.mn d.mc, .int .i64 d.ln, .int .i64 d.pr, .int .i64 d.ac, .slice d.a d.n d.c] 38)) := bl_alloc (Below.refl _ _)
    have HEND := hid (madd_end HT.out (bl_step (bl_step (bl_step B4.out hbd) hb5) hal) h2w.out dl (fun j d e hd he => ⟨(((DG.out j d e hd he).1.step hbd).step hb5).step hal, (DG.out j d e hd he).2⟩) (hgd.step hal) (hnew.mono (Nat.zero_le _)) HLN.out HCUT.out HG.out HNS.out HNC.out hfl hg6 ho6 (HF6.out.imp id (fun h => Nat.le_trans (Nat.le_trans B4.out.size (Nat.le_trans hbd.size hb5.size)) (Nat.le_trans (bl_alloc (Below.refl w5.heap.size w5)).size h))))
    clear ho6 hg6 hgd hnew hb5 HCP
    go_wp2
    go_ret
    exact HEND.out
end Go.Proofs.YtffbnggdckjogaaGreat

namespace Go.Proofs.YtffbnggdckjogaaGreat
open Go.RowKit Mth
theorem erase_parts {α : Type} (l : List α) (i : Nat) : l.eraseIdx i = l.take i ++ l.drop (i + 1) := List.eraseIdx_eq_take_drop_succ l i
theorem at_erase {α : Type} {l : List α} {i j : Nat} {y : α} (h : (l.eraseIdx i)[j]? = some y) : (j < i ∧ l[j]? = some y) ∨ (i ≤ j ∧ l[j + 1]? = some y) := by
  rw [List.getElem?_eraseIdx] at h
  split at h
  · exact .inl ⟨by assumption, h⟩
  · exact .inr ⟨by omega, h⟩
theorem mdrop_end {w wA w6 : World} {B p : Nat} {keys most : Int} {T : List TE} {cap g i : Nat} {ds : List MD} (t : MTab w B p keys most T) (hb : Below w.heap.size w wA) (h2 : w.cell? ⟨p, 2, none⟩ = some (.slice (some ⟨g, 0, none⟩) T.length cap))
    (hlen : ds.length = T.length) (hgd : ∀ (i : Nat) (d : MD) (e : TE), ds[i]? = some d → T[i]? = some e → d.good wA e ∧ d.new 0 ∧ d.ln = 0) (hi : i < T.length) {m : Nat} (hm : m + 1 = T.length)
    (hgr : wA.grownBy w6 (some g)) (ho : w6.ownsRow B 38 6 (.slice (some ⟨g, 0, none⟩) m cap) m ((ds.flatMap MD.cells).take (i * 6) ++ (ds.flatMap MD.cells).drop ((i + 1) * 6))) (h0 : m = 0 → w6.cell? ⟨g, 0, none⟩ = some (.slice none 0 0)) :
    MTo w (w6.setCell ⟨p, 2, none⟩ (.slice (some ⟨g, 0, none⟩) m cap)) B p keys most (T.eraseIdx i) := by
  rw [mflat_take, mflat_drop, ← List.flatMap_append, ← erase_parts] at ho
  have hl1 : (ds.eraseIdx i).length = m := by rw [List.length_eraseIdx, if_pos (by omega)]; omega
  have hl2 : (T.eraseIdx i).length = m := by rw [List.length_eraseIdx, if_pos hi]; omega
  refine mtab_new t hb h2 hgr ho hl1 hl2 (fun j d' e' hd' he' => ?_) ?_ (okM_drop t.ok i) (.inl rfl)
  · rcases at_erase hd' with ⟨q1, q2⟩ | ⟨q1, q2⟩ <;> rcases at_erase he' with ⟨r1, r2⟩ | ⟨r1, r2⟩ <;> first | omega | skip
    · exact hgd j d' e' q2 r2
    · exact hgd (j + 1) d' e' q2 r2
  · by_cases hm0 : m = 0
    · exact ⟨_, _, _, h0 hm0⟩
    · have hc : w6.cell? ⟨g, 0, none⟩ = ((ds.eraseIdx i).flatMap MD.cells)[0]? := by rw [ho.cellAt 0 (by omega)]
      have h1 := mflat_at (ds.eraseIdx i) 0 0 (by omega) (by omega)
      simp only [Nat.mul_zero, Nat.add_zero] at h1
      rw [h1] at hc
      exact ⟨_, _, _, hc⟩
set_option maxHeartbeats 4000000 in
set_option maxRecDepth 20000 in
theorem mdrop1_any {w : World} {B p q i : Nat} {keys most : Int} {T : List TE} (t : MTab w B p keys most T) (hq : w.cell? ⟨q, 0, none⟩ = some (.pointer (some ⟨p, 0, none⟩))) (hi : i < T.length) (hn : T.length ≤ 100000) :
    Calls Tryz.prog 127 #[.int .i64 i, .pointer (some ⟨q, 0, none⟩)] w fun r w' => r = .returned (.tuple #[]) ∧ MTo w w' B p keys most (T.eraseIdx i) := by
  obtain ⟨la, cap, p2, hrow⟩ := t.lst
  obtain ⟨g, rfl, -, -⟩ := hrow.some (by omega)
  have HROW := hid hrow
  obtain ⟨⟨ds, dl, -, dow, dgd⟩, -⟩ := hrow
  rcases own_some dow with ⟨h, _⟩ | ⟨g', cur, eg, hBg, -, hR, hnc, hm, hc, hx⟩
  · cases h
  · have eg' : g = g' := by simpa using eg
    subst eg'
    have hbd : Below w.heap.size w w.drew := (Below.refl _ _).drew
    obtain ⟨u, hu⟩ : ∃ u, u = i + 1 := ⟨_, rfl⟩
    have HDEL := hid (del_any (w := w.drew) hR hBg hm hc hx (mflat_one ds) hn hi hnc hu)
    have s1 : (i : Int) + 1 = (u : Int) := by omega
    have w1 : IntKind.i64.wrap (u : Int) = (u : Int) := wrap_small _ (by omega) (by omega)
    have HU := hid hu
    have HT := hid t
    have DG := hid dgd
    have H2 := hid p2
    have f2 := t.f2
    have hqg : q ≠ g := fun e => by
      obtain ⟨a', m', c', hc'⟩ := HROW.out.2 g rfl
      rw [← e, hq] at hc'
      cases hc'
    clear t dow dgd hR hx eg hu
    go_enter Tryz.func127, Tryz.ntmps127
    go_wp2_with fail
    go_region_law (first
      | (go_simp; go_at_call 128; refine HDEL.out.mono ?_; rintro r w6 ⟨m, hm6, rfl, ho6, hg6, h06⟩; have HM6 := hid hm6; clear hm6; obtain ⟨q6, qf⟩ := mstore_ok (HT.out.step hbd) (show w.drew.cell? ⟨p, 2, none⟩ = _ from H2.out) hg6; have qq : w6.cell? ⟨q, 0, none⟩ = some (.pointer (some ⟨p, 0, none⟩)) := hg6.cell (w := w.drew) hq (fun e => hqg (Option.some.inj e))))
    all_goals
      have HEND : Hid (MTo w (w6.setCell ⟨p, 2, none⟩ (.slice (some ⟨g, 0, none⟩) m cap)) B p keys most (T.eraseIdx i)) := by
        have hu := HU.out
        subst hu
        exact mdrop_end HT.out hbd H2.out dl (fun j d e hd he => ⟨(DG.out j d e hd he).1.step hbd, (DG.out j d e hd he).2⟩) hi HM6.out hg6 ho6 h06
      clear ho6 hg6 h06 HDEL
      go_wp2
      go_end0
      exact ⟨rfl, HEND.out⟩
def MDropDone (w w' : World) (B p : Nat) (keys most : Int) (T : List TE) (e : TE) (r : Ending) : Prop := r = .returned (.int .i64 (hasCM keys T e)) ∧ MTo w w' B p keys most (dropTM keys T e)
theorem mdrop_keep {w w' : World} {B p : Nat} {keys most : Int} {T : List TE} {e : TE} {c : Int} (t : MTab w B p keys most T) (hb : Below w.heap.size w w') (hc : hasCM keys T e = c) (h0 : c ≠ 0) : MDropDone w w' B p keys most T e (.returned (.int .i64 c)) := by
  refine ⟨by rw [hc], ?_⟩
  unfold dropTM
  rw [if_neg (by rw [hc]; exact h0)]
  exact MTo.same t hb
abbrev PCT (p : Nat) : Obj := .cells #[.pointer (some ⟨p, 0, none⟩)] 84
end Go.Proofs.YtffbnggdckjogaaGreat
