/- What Add of the document's own table by beginnings does. -/
import Derived.Test.YtlnkfgdepddmlacRAt
import Derived.Test.YtlnkfgdepddmlacRKept
namespace Go.Proofs.Ytlnkfgdepddmlac
open Go.RowKit Mth

/-- what becomes of the table; blocks between S and the end stay -/
structure RowsTo (w w' : World) (B S r : Nat) (wd most : Int) (C : Told2) (es : List (Nat × Nat)) : Prop where
  t : Rws w' B w'.heap.size r wd most C es
  bel : Below B w w'
  trn : Turned w w'
  old : ∀ k, S ≤ k → k < w.heap.size → w'.heap[k]? = w.heap[k]?

theorem Rws.small {w : World} {B S r : Nat} {wd most : Int} {C : Told2} {es : List (Nat × Nat)} (t : Rws w B S r wd most C es) : B ≤ w.heap.size :=
  Nat.le_trans t.base (Nat.le_of_lt (World.block_lt_of_cell? w _ t.hd.c0))

theorem RowsTo.same {w w' : World} {B S r : Nat} {wd most : Int} {C : Told2} {es : List (Nat × Nat)} (t : Rws w B S r wd most C es) (h : Below w.heap.size w w') : RowsTo w w' B S r wd most C es :=
  ⟨(t.step h).up, h.mono t.small, turned_below h, fun k _ hk => h.block k hk⟩

def RAddDone (w w' : World) (B S r : Nat) (wd most : Int) (C : Told2) (es : List (Nat × Nat)) (key : Nat) (n : Int) (h : HitM) (e : Ending) : Prop :=
  e = .returned (.int .i64 (addCode C es wd most key n)) ∧ RowsTo w w' B S r wd most (addC C es wd most key n h) (addE C es wd most key n)

theorem radd_keep {w w' : World} {B S r : Nat} {wd most : Int} {C : Told2} {es : List (Nat × Nat)} {key : Nat} {n : Int} {h : HitM} {c : Int} (t : Rws w B S r wd most C es) (hb : Below w.heap.size w w') (hc : addCode C es wd most key n = c) (h0 : c ≠ 0) : RAddDone w w' B S r wd most C es key n h (.returned (.int .i64 c)) := by
  refine ⟨by rw [hc], ?_⟩
  unfold addC addE
  rw [if_neg (by rw [hc]; exact h0), if_neg (by rw [hc]; exact h0)]
  exact RowsTo.same t hb

/-- one append of a region: an entry behind a row of one's own, with room or without -/
theorem step6 {ops : Array Oper} {o : Oper} {a : Act} {w : World} {K : Act → World → Prop} {Q : Exit → Act → World → Prop} {F : Prop} (hgd : o.guard = none) (s x : Operand)
    (ho : o.op = .call { callee := .builtin .append, args := #[s, x], argTypes := #[28, 28] }) (base n cap : Nat) (la : Option Addr) (xs news : List Value) (ad : Addr) (c : Nat)
    (hs : a.eval s = .slice la n cap) (hx : a.eval x = .slice (some ad) 1 c) (hown : w.ownsRow base 33 6 (.slice la n cap) n xs) (hl : news.length = 1 * 6) (hn : ∀ j u, news[j]? = some u → w.cell? (ad.add j) = some u) (h1 : ∀ u ∈ news, u.oneCell' = true)
    (hsm : n ≤ 100000) (hbase : base ≤ w.heap.size) (h : ∀ g cap' w', w'.ownsRow base 33 6 (.slice (some ⟨g, 0, none⟩) (n + 1) cap') (n + 1) (xs ++ news) → w.grownBy w' (Value.slice la n cap).ownBlock → K (a.put o.dst (.slice (some ⟨g, 0, none⟩) (n + 1) cap')) w') :
    if Region.wanted o (yielded ops a.tmps) = true then Oper.wp Try.prog o a w K Q else F := by
  have hw : Region.wanted o (yielded ops a.tmps) = true := by simp [Region.wanted, hgd]
  rw [if_pos hw]
  obtain ⟨i0, hi, hz0, hz1, hz2⟩ := info_parts Try.infoEntry
  refine wp_append_own w s x 28 ho base 33 i0 NoEntry 6 96 Try.underlying28 hi hz0 hz1 hz2 rfl (by decide) (.slice la n cap) n xs hs hown ad 1 c news hx hl hn h1 (by unfold maxLen; omega) (by omega) hbase ?_
  intro v' w' r1 r2 _
  rcases r1.2 with ⟨_, e⟩ | ⟨g, cap', cur, e, _⟩
  · omega
  · subst e
    exact h g cap' w' r1 r2

/-- the block of a list, if it has one -/
theorem Row.own {w : World} {B : Nat} {la : Option Addr} {n cap : Nat} {E : List Ent} (h : Row w B la n cap E) : (la = none ∧ (Value.slice la n cap).ownBlock = none) ∨ ∃ g, la = Option.some ⟨g, 0, none⟩ ∧ (Value.slice la n cap).ownBlock = Option.some g ∧ B ≤ g ∧ ∃ ka kn kc, w.cell? ⟨g, 0, none⟩ = Option.some (.slice ka kn kc) := by
  by_cases h0 : 0 < n
  · obtain ⟨g, e, hb, _⟩ := h.some h0
    subst e
    exact .inr ⟨g, rfl, rfl, hb, h.head h0⟩
  · obtain ⟨ds, _, _, _, hn, _⟩ := h
    have := hn (by omega)
    subst this
    exact .inl ⟨rfl, rfl⟩

/-- what a list that has grown, or was written into, and the head that knows it leave as it was -/
theorem radd_turn {wA w5 : World} {B r : Nat} {wd most : Int} {la : Option Addr} {n cap : Nat} {E : List Ent} (hr : RHead wA r wd most) (h4 : wA.cell? ⟨r, 4, none⟩ = some (.slice la n cap)) (hl : Row wA B la n cap E) (hg : wA.grownBy w5 (Value.slice la n cap).ownBlock) (v : Value) :
    Turned wA (w5.setCell ⟨r, 4, none⟩ v) ∧ (∀ k, k < wA.heap.size → k ≠ r → (∀ g, la = some ⟨g, 0, none⟩ → k ≠ g) → (w5.setCell ⟨r, 4, none⟩ v).heap[k]? = wA.heap[k]?) ∧ w5.heap[r]? = wA.heap[r]? := by
  have hrl := World.block_lt_of_cell? wA _ h4
  have hrr : w5.heap[r]? = wA.heap[r]? := by
    refine hg.block r hrl ?_
    intro e
    rcases hl.own with ⟨_, h⟩ | ⟨g, _, h, _, ka, kn, kc, hc⟩
    · rw [h] at e; cases e
    · rw [h] at e
      have e' : r = g := Option.some.inj e
      subst e'
      rw [hr.c0] at hc; cases hc
  have hk : ∀ k, k < wA.heap.size → k ≠ r → (∀ g, la = some ⟨g, 0, none⟩ → k ≠ g) → (w5.setCell ⟨r, 4, none⟩ v).heap[k]? = wA.heap[k]? := by
    intro k hk hkr hkg
    rw [Below.heap_setCell _ _ _ _ hkr]
    refine hg.block k hk ?_
    intro e
    rcases hl.own with ⟨_, h⟩ | ⟨g, hla, h, _⟩
    · rw [h] at e; cases e
    · rw [h] at e
      exact hkg g hla (Option.some.inj e)
  refine ⟨⟨by have := hg.size; simpa [World.setCell] using this, fun k hkl => ?_⟩, hk, hrr⟩
  by_cases hkr : k = r
  · subst hkr
    exact .inr (.inr ⟨⟨_, hr.c0⟩, ⟨_, hr.c1⟩, _, _, _, h4⟩)
  · by_cases hkg : ∃ g, la = some ⟨g, 0, none⟩ ∧ k = g
    · obtain ⟨g, e, rfl⟩ := hkg
      rcases hl.own with ⟨h, _⟩ | ⟨g', hla, _, _, ka, kn, kc, hc⟩
      · rw [e] at h; cases h
      · rw [e] at hla
        have : k = g' := by simpa using hla
        subst this
        exact .inr (.inl ⟨ka, kn, kc, hc⟩)
    · exact .inl (hk k hkl hkr (fun g hg' e => hkg ⟨g, hg', e⟩))

/-- the table behind a list that is another one -/
theorem rows_new {w wA w5 : World} {B S r : Nat} {wd most : Int} {la : Option Addr} {n cap : Nat} {E : List Ent} {g' n' cap' : Nat} {ds' : List ED} {C' : Told2} {es' : List (Nat × Nat)} (hb : Below w.heap.size w wA) (hr : RHead w r wd most) (hf : w.frozen? ⟨r, 4, none⟩ = false) (hB : B ≤ r) (hS : r < S) (h4 : w.cell? ⟨r, 4, none⟩ = some (.slice la n cap)) (hl : Row w B la n cap E) (hlS : ∀ g, la = some ⟨g, 0, none⟩ → g < S)
    (hg : wA.grownBy w5 (Value.slice la n cap).ownBlock) (ho : w5.ownsRow B 33 6 (.slice (some ⟨g', 0, none⟩) n' cap') n' (ds'.flatMap ED.cells)) (hn' : 0 < n') (hlen : ds'.length = n') (hes : es'.length = n') (hgood : ∀ (i : Nat) (d : ED) (e : Ent), ds'[i]? = some d → (es'.map (entOf C' (wid wd)))[i]? = some e → d.good wA e ∧ d.new 0) :
    RowsTo w (w5.setCell ⟨r, 4, none⟩ (.slice (some ⟨g', 0, none⟩) n' cap')) B S r wd most C' es' := by
  have hrA := hr.step hb
  have hrl : r < w.heap.size := World.block_lt_of_cell? w _ h4
  have h4A := (hb.cell (p := ⟨r, 4, none⟩) hrl).trans h4
  have fA := (hb.frozen (p := ⟨r, 4, none⟩) hrl).trans hf
  have hlA : Row wA B la n cap E := hl.keep (fun g e h0 => by
    obtain ⟨g2, e2, _, hlt⟩ := hl.some h0
    rw [e] at e2
    have : g = g2 := by simpa using e2
    rw [this]; exact hb.block g2 hlt) (fun a m zs _ hz => hz.step hb)
  obtain ⟨T, hk, hrr⟩ := radd_turn hrA h4A hlA hg (.slice (some ⟨g', 0, none⟩) n' cap')
  have cs : ∀ i, w5.cell? ⟨r, i, none⟩ = wA.cell? ⟨r, i, none⟩ := fun i => World.cell?_of_block (w := wA) (w' := w5) (a := ⟨r, i, none⟩) hrr
  have c4 : w5.cell? ⟨r, 4, none⟩ = some (.slice la n cap) := (cs 4).trans h4A
  have cz : ∀ i, i ≠ 4 → (w5.setCell ⟨r, 4, none⟩ (.slice (some ⟨g', 0, none⟩) n' cap')).cell? ⟨r, i, none⟩ = wA.cell? ⟨r, i, none⟩ := fun i hi => (World.cell?_setCell_other _ _ _ _ (addr_ne (by omega))).trans (cs i)
  have hgr : g' ≠ r := by
    intro e
    obtain ⟨d, hd⟩ : ∃ d, ds'[0]? = some d := ⟨ds'[0]'(by omega), List.getElem?_eq_getElem _⟩
    have h0 : w5.cell? ⟨g', 0, none⟩ = (ds'.flatMap ED.cells)[0]? := by rw [ho.cellAt 0 (by omega)]
    have h1 := flat_at ds' 0 0 (by omega) (by omega)
    simp only [Nat.mul_zero, Nat.add_zero] at h1
    rw [h1, e, cs 0, hrA.c0] at h0
    simp [ED.cells] at h0
  have ho6 : (w5.setCell ⟨r, 4, none⟩ (.slice (some ⟨g', 0, none⟩) n' cap')).ownsRow B 33 6 (.slice (some ⟨g', 0, none⟩) n' cap') n' (ds'.flatMap ED.cells) := by
    refine ⟨ho.1, ?_⟩
    rcases ho.2 with h2 | ⟨g, c, cur, hv, hbg, hh, rest⟩
    · exact .inl h2
    · refine .inr ⟨g, c, cur, hv, hbg, ?_, rest⟩
      have eg : g = g' := by simp only [Value.slice.injEq, Option.some.injEq, Addr.mk.injEq, and_true] at hv; exact hv.1.symm
      rw [Below.heap_setCell _ _ _ _ (by rw [eg]; exact hgr)]
      exact hh
  have TW := Turned.trans_below hb T
  refine ⟨⟨⟨(cz 0 (by omega)).trans hrA.c0, (cz 1 (by omega)).trans hrA.c1, (cz 2 (by omega)).trans hrA.c2, (cz 3 (by omega)).trans hrA.c3⟩, ?_, hB, ?_, some ⟨g', 0, none⟩, cap', ?_, ?_, ?_⟩, ?_, TW, ?_⟩
  · simp only [World.frozen?_setCell]
    exact (World.frozen?_of_block (w := wA) (w' := w5) (a := ⟨r, 4, none⟩) hrr).trans fA
  · have := hg.size; have := hb.size; simp only [World.setCell, Array.size_modify]
    have : r < w.heap.size := hrl
    omega
  · rw [World.cell?_setCell_same _ _ _ c4, hes]
  · rw [hes]
    refine ⟨ds', hlen, by rw [List.length_map]; exact hes, ho6, fun h => by omega, fun i d e hd he => ?_⟩
    obtain ⟨⟨g1, g2, g3, g4, g5, g6, g7, g8⟩, f1, f2⟩ := hgood i d e hd he
    exact ⟨⟨g1, g2, T.has f1 g3, g4, g5, g6, g7, T.has f2 g8⟩, f1, f2⟩
  · intro g e
    have : g' = g := by simpa using e
    subst this
    have := (ho6.lt g' rfl).2
    exact this
  · have hBl : Below B w wA := hb.mono (by omega)
    refine (hBl.grown hg (by have := hb.size; omega) (fun k hk => ?_)).setCell hB _
    rcases hlA.own with ⟨_, h⟩ | ⟨g, _, h, hbg, _⟩
    · rw [h] at hk; cases hk
    · rw [h] at hk; cases hk; exact hbg
  · intro k h1 h2
    rw [hk k (Nat.lt_of_lt_of_le h2 hb.size) (by omega) (fun g hg' e => by have := hlS g hg'; omega)]
    exact hb.block k h2

theorem entOf_up {C : Told2} {W : Nat} {x y : Nat × Nat} (h : y ≠ x) (s : Option HitM) : entOf (upC C x.1 x.2 s) W y = entOf C W y := by
  have e : upC C x.1 x.2 s y.1 y.2 = C y.1 y.2 := upC_other _ _ (fun e => h (Prod.ext e.1 e.2))
  unfold entOf
  rw [e]

/-- the table behind an entry more -/
theorem radd_end {w wA w5 : World} {B S r : Nat} {wd most : Int} {C : Told2} {es : List (Nat × Nat)} {la : Option Addr} {cap : Nat} {ds : List ED} {kb kf ck : Nat} {ln ac : Int} {aa : Option Addr} {an ca key : Nat} {xs : List Int} {g' cap' : Nat}
    (t : Rws w B S r wd most C es) (mem : ∀ n v, (n, v) ∈ es ↔ (C n v).isSome = true) (hg : Good wd key ln) (hC : C (place wd key ln).1 (place wd key ln).2 = none) (hf : (es.length : Int) < most) (hb : Below w.heap.size w wA) (h4 : w.cell? ⟨r, 4, none⟩ = some (.slice la es.length cap))
    (hlen : ds.length = es.length) (hgood : ∀ (i : Nat) (d : ED) (e : Ent), ds[i]? = some d → (es.map (entOf C (wid wd)))[i]? = some e → d.good wA e ∧ d.new 0) (lk : Lst wA 0 (some ⟨kb, kf, none⟩) 1 ck [(key : Int)]) (lx : Lst wA 0 aa an ca xs) (hsm : an ≤ 1000)
    (hgr : wA.grownBy w5 (Value.slice la es.length cap).ownBlock) (ho : w5.ownsRow B 33 6 (.slice (some ⟨g', 0, none⟩) (es.length + 1) cap') (es.length + 1) (ds.flatMap ED.cells ++ ED.cells ⟨some ⟨kb, kf, none⟩, 1, ck, ln, ac, aa, an, ca⟩)) :
    RAddDone w (w5.setCell ⟨r, 4, none⟩ (.slice (some ⟨g', 0, none⟩) (es.length + 1) cap')) B S r wd most C es key ln (ac, xs) (.returned (.int .i64 0)) := by
  have hcode : addCode C es wd most key ln = 0 := by unfold addCode; rw [if_pos hg, hC, if_neg (by simp), if_neg (by omega)]
  refine ⟨by rw [hcode], ?_⟩
  unfold addC addE
  rw [if_pos hcode, if_pos hcode]
  obtain ⟨la2, cap2, h42, hl, hlS⟩ := t.lst
  rw [h4] at h42
  simp only [Option.some.injEq, Value.slice.injEq, true_and] at h42
  obtain ⟨rfl, rfl⟩ := h42
  have hpn : place wd key ln ∉ es := fun hm => by
    have h1 : (C (place wd key ln).1 (place wd key ln).2).isSome = true := (mem _ _).1 hm
    rw [hC] at h1; cases h1
  obtain ⟨W, m, e1, e2, _, _, _, _, h5, h6, h7⟩ := hg.out
  refine rows_new (ds' := ds ++ [⟨some ⟨kb, kf, none⟩, 1, ck, ln, ac, aa, an, ca⟩]) hb t.hd t.f4 t.base t.top h4 hl hlS hgr (by simpa using ho) (by omega) (by simp [hlen]) (by simp) (fun i d e hd he => ?_)
  by_cases hi : i < es.length
  · rw [List.getElem?_append_left (by omega)] at hd
    rw [List.getElem?_map, List.getElem?_append_left hi] at he
    have hx : es[i]? = some (es[i]'hi) := List.getElem?_eq_getElem _
    rw [hx, Option.map_some, entOf_up (fun e => hpn (by rw [← e]; exact List.getElem_mem _))] at he
    refine hgood i d e hd ?_
    rw [List.getElem?_map, hx]
    exact he
  · have hi2 : i < es.length + 1 := by
      have := (List.getElem?_eq_some_iff.1 hd).1
      simp [hlen] at this
      omega
    have ei : i = es.length := by omega
    subst ei
    rw [List.getElem?_append_right (by omega), hlen, Nat.sub_self] at hd
    rw [List.getElem?_map, List.getElem?_append_right (Nat.le_refl _), Nat.sub_self] at he
    simp only [List.getElem?_cons_zero, Option.some.injEq, Option.map_some] at hd he
    subst hd
    subst he
    have hks : (entOf (upC C (place wd key ln).1 (place wd key ln).2 (some (ac, xs))) (wid wd) (place wd key ln)) = ⟨[(key : Int)], ln, ac, xs⟩ := by
      unfold entOf
      rw [upC_same, h6, h7, e2]
      have h8 := Nat.div_add_mod key (2 ^ (W - m))
      rw [h5, Nat.add_zero, Nat.mul_comm] at h8
      simp only [Option.getD_some]
      rw [h8]
    rw [hks]
    exact ⟨⟨by simp, by simp, lk.2.2.1, rfl, rfl, lx.1, hsm, lx.2.2.1⟩, lk.2.2.2, lx.2.2.2⟩

set_option maxHeartbeats 1000000 in
set_option maxRecDepth 20000 in
theorem radd_bad {w : World} {B S r : Nat} {wd most : Int} {C : Told2} {es : List (Nat × Nat)} {kg ko kc : Nat} {ln ac : Int} {aa : Option Addr} {an ca key : Nat} {xs : List Int} (t : Rws w B S r wd most C es) (ha : Arg w kg ko kc aa an ca key xs) (hg : ¬ Good wd key ln) :
    Calls Try.prog 13 #[.pointer (some ⟨r, 0, none⟩), AV kg ko kc ln ac aa an ca] w fun e w' => RAddDone w w' B S r wd most C es key ln (ac, xs) e := by
  have hb0 := bl_alloc (o := AC kg ko kc ln ac aa an ca) (Below.refl w.heap.size w)
  have HM := may_any (ln := ln) (ac := ac) (t.hd.step hb0) (ha.step hb0)
  have HT := hid t
  have B0 := hid hb0
  obtain ⟨x0, x1, x2, x3, x4, x5, _, _, _, _, _, _⟩ := six_new w (.slice (some ⟨kg, ko, none⟩) 1 kc) (.slice none 0 0) (.int .i64 ln) (.int .i64 0) (.int .i64 ac) (.slice aa an ca) 33
  have HM' := hid HM
  have HG := hid hg
  clear t ha hb0 HM hg
  go_enter Try.func13, Try.ntmps13
  go_wp2_with fail
  refine HM'.out.mono ?_
  rintro e w1 ⟨rfl, hb1⟩
  rw [if_neg HG.out]
  have HE := hid (radd_keep (key := key) (n := ln) (h := (ac, xs)) (c := 6) HT.out (bl_step B0.out hb1) (by unfold addCode; rw [if_neg HG.out]) (by decide))
  clear HM' HG HT B0 hb1
  go_wp2
  go_ret
  exact HE.out

theorem at_yes {es : List (Nat × Nat)} {x : Nat × Nat} (h : x ∈ es) : ∃ i : Nat, whereAt es x = (i : Int) ∧ es[i]? = some x := by
  refine ⟨es.idxOf x, by unfold whereAt; rw [if_pos h], ?_⟩
  have hl := List.idxOf_lt_length_of_mem h
  rw [List.getElem?_eq_getElem hl, List.getElem_idxOf]

theorem at_no {es : List (Nat × Nat)} {x : Nat × Nat} (h : x ∉ es) : whereAt es x = -1 := by unfold whereAt; rw [if_neg h]

set_option maxHeartbeats 1000000 in
set_option maxRecDepth 20000 in
theorem radd_twice {w : World} {B S r : Nat} {wd most : Int} {C : Told2} {es : List (Nat × Nat)} {kg ko kc : Nat} {ln ac : Int} {aa : Option Addr} {an ca key : Nat} {xs : List Int} (t : Rws w B S r wd most C es) (nd : es.Nodup) (mem : ∀ n v, (n, v) ∈ es ↔ (C n v).isSome = true) (hl : es.length ≤ 100000) (ha : Arg w kg ko kc aa an ca key xs) (hg : Good wd key ln) (hC : (C (place wd key ln).1 (place wd key ln).2).isSome = true) :
    Calls Try.prog 13 #[.pointer (some ⟨r, 0, none⟩), AV kg ko kc ln ac aa an ca] w fun e w' => RAddDone w w' B S r wd most C es key ln (ac, xs) e := by
  have hb0 := bl_alloc (o := AC kg ko kc ln ac aa an ca) (Below.refl w.heap.size w)
  have HM := hid (may_any (ln := ln) (ac := ac) (t.hd.step hb0) (ha.step hb0))
  have HT := hid t
  have HA := hid ha
  have B0 := hid hb0
  have SX := hid (six_new w (.slice (some ⟨kg, ko, none⟩) 1 kc) (.slice none 0 0) (.int .i64 ln) (.int .i64 0) (.int .i64 ac) (.slice aa an ca) 33)
  obtain ⟨x0, x1, x2, x3, x4, x5, _, _, _, _, _, _⟩ := SX.out
  have HG := hid hg
  obtain ⟨j, hj, _⟩ := at_yes ((mem _ _).2 hC)
  have hj' : whereAt es (place wd key ln) = (j : Int) := hj
  have HJ := hid hj'
  have HC := hid hC
  have HND := hid nd
  clear t ha hb0 hg hj hj' hC nd mem
  go_enter Try.func13, Try.ntmps13
  go_wp2_with fail
  refine HM.out.mono ?_
  rintro e w1 ⟨rfl, hb1⟩
  rw [if_pos HG.out]
  have B1 := hid (bl_step B0.out hb1)
  have HAT := hid (at_any (ac := ac) (HT.out.step B1.out) HND.out hl (HA.out.step B1.out) HG.out)
  obtain ⟨y0, y1, y2, y3, y4, y5, _, _, _, _, _, _⟩ := SX.out.step hb1
  clear HM hb1 x0 x1 x2 x3 x4 x5
  go_wp2_with fail
  refine HAT.out.mono ?_
  rintro e w2 ⟨rfl, hb2⟩
  rw [HJ.out]
  have hj0 : ¬ (j : Int) < 0 := by omega
  have hj1 : (0 : Int) ≤ (j : Int) := by omega
  have HE := hid (radd_keep (key := key) (n := ln) (h := (ac, xs)) (c := 7) HT.out (bl_step B1.out hb2) (by unfold addCode; rw [if_pos HG.out, if_pos HC.out]) (by decide))
  clear HAT HG HT B0 B1 hb2 HC HJ HA HND SX
  go_wp2
  go_ret
  exact HE.out
end Go.Proofs.Ytlnkfgdepddmlac
