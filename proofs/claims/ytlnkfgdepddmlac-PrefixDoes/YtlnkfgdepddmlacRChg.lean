/- What Change of the document's own table by beginnings does. -/
import Derived.Test.YtlnkfgdepddmlacRAdd2
import Derived.Test.YtlnkfgdepddmlacTDrop
namespace Go.Proofs.Ytlnkfgdepddmlac
open Go.RowKit Mth

def RChgDone (w w' : World) (B S r : Nat) (wd most : Int) (C : Told2) (es : List (Nat × Nat)) (key : Nat) (n : Int) (h : HitM) (e : Ending) : Prop :=
  e = .returned (.int .i64 (hasCode C wd key n)) ∧ RowsTo w w' B S r wd most (chgC C wd key n h) es

theorem rchg_keep {w w' : World} {B S r : Nat} {wd most : Int} {C : Told2} {es : List (Nat × Nat)} {key : Nat} {n : Int} {h : HitM} {c : Int} (t : Rws w B S r wd most C es) (hb : Below w.heap.size w w') (hc : hasCode C wd key n = c) (h0 : c ≠ 0) : RChgDone w w' B S r wd most C es key n h (.returned (.int .i64 c)) := by
  refine ⟨by rw [hc], ?_⟩
  unfold chgC
  rw [if_neg (by rw [hc]; exact h0)]
  exact RowsTo.same t hb

set_option maxHeartbeats 1000000 in
set_option maxRecDepth 20000 in
theorem rchg_bad {w : World} {B S r : Nat} {wd most : Int} {C : Told2} {es : List (Nat × Nat)} {kg ko kc : Nat} {ln ac : Int} {aa : Option Addr} {an ca key : Nat} {xs : List Int} (t : Rws w B S r wd most C es) (ha : Arg w kg ko kc aa an ca key xs) (hg : ¬ Good wd key ln) :
    Calls Try.prog 15 #[.pointer (some ⟨r, 0, none⟩), AV kg ko kc ln ac aa an ca] w fun e w' => RChgDone w w' B S r wd most C es key ln (ac, xs) e := by
  have hb0 := bl_alloc (o := AC kg ko kc ln ac aa an ca) (Below.refl w.heap.size w)
  have HM := hid (may_any (ln := ln) (ac := ac) (t.hd.step hb0) (ha.step hb0))
  have HT := hid t
  have B0 := hid hb0
  obtain ⟨x0, x1, x2, x3, x4, x5, -, -, -, -, -, -⟩ := six_new w (.slice (some ⟨kg, ko, none⟩) 1 kc) (.slice none 0 0) (.int .i64 ln) (.int .i64 0) (.int .i64 ac) (.slice aa an ca) 33
  have HG := hid hg
  clear t ha hb0 hg
  go_enter Try.func15, Try.ntmps15
  go_wp2_with fail
  refine HM.out.mono ?_
  rintro e w1 ⟨rfl, hb1⟩
  rw [if_neg HG.out]
  have HE := hid (rchg_keep (key := key) (n := ln) (h := (ac, xs)) (c := 6) HT.out (bl_step B0.out hb1) (by unfold hasCode; rw [if_neg HG.out]) (by decide))
  clear HM HG HT B0 hb1
  go_wp2
  go_ret
  exact HE.out

set_option maxHeartbeats 1000000 in
set_option maxRecDepth 20000 in
theorem rchg_none {w : World} {B S r : Nat} {wd most : Int} {C : Told2} {es : List (Nat × Nat)} {kg ko kc : Nat} {ln ac : Int} {aa : Option Addr} {an ca key : Nat} {xs : List Int} (t : Rws w B S r wd most C es) (nd : es.Nodup) (mem : ∀ n v, (n, v) ∈ es ↔ (C n v).isSome = true) (hl : es.length ≤ 100000) (ha : Arg w kg ko kc aa an ca key xs) (hg : Good wd key ln) (hC : C (place wd key ln).1 (place wd key ln).2 = none) :
    Calls Try.prog 15 #[.pointer (some ⟨r, 0, none⟩), AV kg ko kc ln ac aa an ca] w fun e w' => RChgDone w w' B S r wd most C es key ln (ac, xs) e := by
  have hb0 := bl_alloc (o := AC kg ko kc ln ac aa an ca) (Below.refl w.heap.size w)
  have HM := hid (may_any (ln := ln) (ac := ac) (t.hd.step hb0) (ha.step hb0))
  have HT := hid t
  have HA := hid ha
  have B0 := hid hb0
  have SX := hid (six_new w (.slice (some ⟨kg, ko, none⟩) 1 kc) (.slice none 0 0) (.int .i64 ln) (.int .i64 0) (.int .i64 ac) (.slice aa an ca) 33)
  obtain ⟨x0, x1, x2, x3, x4, x5, -, -, -, -, -, -⟩ := SX.out
  have HG := hid hg
  have hj : whereAt es (place wd key ln) = -1 := at_no (fun hm => by
    have h1 : (C (place wd key ln).1 (place wd key ln).2).isSome = true := (mem _ _).1 hm
    rw [hC] at h1; cases h1)
  have HJ := hid hj
  have HC := hid hC
  have HND := hid nd
  clear t ha hb0 hg hj hC nd mem
  go_enter Try.func15, Try.ntmps15
  go_wp2_with fail
  refine HM.out.mono ?_
  rintro e w1 ⟨rfl, hb1⟩
  rw [if_pos HG.out]
  have B1 := hid (bl_step B0.out hb1)
  have HAT := hid (at_any (ac := ac) (HT.out.step B1.out) HND.out hl (HA.out.step B1.out) HG.out)
  obtain ⟨y0, y1, y2, y3, y4, y5, -, -, -, -, -, -⟩ := SX.out.step hb1
  clear HM hb1 x0 x1 x2 x3 x4 x5
  go_wp2_with fail
  refine HAT.out.mono ?_
  rintro e w2 ⟨rfl, hb2⟩
  rw [HJ.out]
  have HE := hid (rchg_keep (key := key) (n := ln) (h := (ac, xs)) (c := 9) HT.out (bl_step B1.out hb2) (by unfold hasCode; rw [if_pos HG.out, HC.out, if_neg (by simp)]) (by decide))
  clear HAT HG HT B0 B1 hb2 HC HJ HA HND SX
  go_wp2
  go_ret
  exact HE.out

/-- the table behind a list that was written into -/
theorem rows_chg {w wA w5 : World} {B S r : Nat} {wd most : Int} {C C' : Told2} {es : List (Nat × Nat)} {g cap : Nat} {ds' : List ED} (hb : Below w.heap.size w wA) (t : Rws w B S r wd most C es) (h4 : w.cell? ⟨r, 4, none⟩ = some (.slice (some ⟨g, 0, none⟩) es.length cap)) (h0 : 0 < es.length)
    (hg : wA.grownBy w5 (some g)) (ho : w5.ownsRow B 33 6 (.slice (some ⟨g, 0, none⟩) es.length cap) es.length (ds'.flatMap ED.cells)) (hlen : ds'.length = es.length) (hgood : ∀ (i : Nat) (d : ED) (e : Ent), ds'[i]? = some d → (es.map (entOf C' (wid wd)))[i]? = some e → d.good wA e ∧ d.new 0) :
    RowsTo w w5 B S r wd most C' es := by
  obtain ⟨la2, cap2, h42, hl, hlS⟩ := t.lst
  rw [h4] at h42
  simp only [Option.some.injEq, Value.slice.injEq, true_and] at h42
  obtain ⟨rfl, rfl⟩ := h42
  have hrl : r < w.heap.size := World.block_lt_of_cell? w _ h4
  obtain ⟨ka, kn, kc, hc⟩ := hl.head h0
  have hgl : g < w.heap.size := World.block_lt_of_cell? w _ hc
  have hgr : r ≠ g := by rintro rfl; rw [t.hd.c0] at hc; cases hc
  have hrA := t.hd.step hb
  have hrr : w5.heap[r]? = wA.heap[r]? := hg.block r (Nat.lt_of_lt_of_le hrl hb.size) (fun e => hgr (Option.some.inj e))
  have cs : ∀ i, w5.cell? ⟨r, i, none⟩ = wA.cell? ⟨r, i, none⟩ := fun i => World.cell?_of_block (w := wA) (w' := w5) (a := ⟨r, i, none⟩) hrr
  have T : Turned wA w5 := ⟨hg.size, fun k hk => by
    by_cases e : k = g
    · subst e
      exact .inr (.inl ⟨ka, kn, kc, (hb.cell (p := ⟨k, 0, none⟩) hgl).trans hc⟩)
    · exact .inl (hg.block k hk (fun h => e (Option.some.inj h)))⟩
  have hbg : B ≤ g := by
    obtain ⟨g2, e2, hbg, _⟩ := hl.some h0
    have : g = g2 := by simpa using e2
    omega
  refine ⟨⟨⟨(cs 0).trans hrA.c0, (cs 1).trans hrA.c1, (cs 2).trans hrA.c2, (cs 3).trans hrA.c3⟩, ?_, t.base, ?_, some ⟨g, 0, none⟩, cap, ?_, ⟨ds', hlen, by rw [List.length_map], ho, fun h => by omega, fun i d e hd he => ?_⟩, fun g' e => ?_⟩, ?_, Turned.trans_below hb T, fun k h1 h2 => ?_⟩
  · exact (World.frozen?_of_block (w := wA) (w' := w5) (a := ⟨r, 4, none⟩) hrr).trans ((hb.frozen (p := ⟨r, 4, none⟩) hrl).trans t.f4)
  · have := hg.size; have := hb.size; omega
  · exact (cs 4).trans ((hb.cell (p := ⟨r, 4, none⟩) hrl).trans h4)
  · obtain ⟨⟨g1, g2, g3, g4, g5, g6, g7, g8⟩, f1, f2⟩ := hgood i d e hd he
    exact ⟨⟨g1, g2, T.has f1 g3, g4, g5, g6, g7, T.has f2 g8⟩, f1, f2⟩
  · have : g = g' := by simpa using e
    have := hg.size; have := hb.size; omega
  · exact (hb.mono (by omega : B ≤ w.heap.size)).grown hg (by have := hb.size; omega) (fun k hk => by cases hk; exact hbg)
  · have hgS := hlS g rfl
    rw [hg.block k (Nat.lt_of_lt_of_le h2 hb.size) (fun e => by have := Option.some.inj e; omega)]
    exact hb.block k h2

theorem set_flat (ds : List ED) (i : Nat) (d : ED) (hi : i < ds.length) : ((((((ds.flatMap ED.cells).set (i * 6) (.slice d.ka d.kn d.kc)).set (i * 6 + 1) (.slice none 0 0)).set (i * 6 + 2) (.int .i64 d.ln)).set (i * 6 + 3) (.int .i64 0)).set (i * 6 + 4) (.int .i64 d.act)).set (i * 6 + 5) (.slice d.a d.n d.c) = (ds.set i d).flatMap ED.cells := by
  induction ds generalizing i with
  | nil => simp at hi
  | cons x ds ih =>
    cases i with
    | zero => simp [List.flatMap_cons, ED.cells]
    | succ i =>
      have h := ih i (by simpa using hi)
      simp only [List.flatMap_cons, List.set_cons_succ]
      rw [← h]
      have e : ∀ j, (i + 1) * 6 + j = (ED.cells x).length + (i * 6 + j) := by intro j; simp [ED.cells]; omega
      have e0 : (i + 1) * 6 = (ED.cells x).length + (i * 6) := by simp [ED.cells]; omega
      rw [e0]
      simp only [Nat.add_assoc, List.set_append_right, Nat.le_add_right, Nat.add_sub_cancel_left]

theorem own_free {w : World} {base e size g n cap : Nat} {xs : List Value} (h : w.ownsRow base e size (.slice (some ⟨g, 0, none⟩) n cap) n xs) (o : Nat) : w.frozen? ⟨g, o, none⟩ = false := by
  rcases h.2 with ⟨e, _⟩ | ⟨g', cap', cur, e, _, hh, _⟩
  · cases e
  · simp only [Value.slice.injEq, Option.some.injEq, Addr.mk.injEq, and_true] at e
    obtain ⟨rfl, _⟩ := e
    simp [World.frozen?, hh]

theorem grown_trans {a b c : World} {g : Nat} (h : a.grownBy b (some g)) (k : b.grownBy c (some g)) : a.grownBy c (some g) :=
  ⟨k.os.trans h.os, k.tape.trans h.tape, k.output.trans h.output, Nat.le_trans h.size k.size, fun i hi hne => (k.block i (Nat.lt_of_lt_of_le hi h.size) hne).trans (h.block i hi hne)⟩

/-- six stores into a row of one's own -/
theorem own_six {w : World} {B g n cap i : Nat} {ds : List ED} (h : w.ownsRow B 33 6 (.slice (some ⟨g, 0, none⟩) n cap) n (ds.flatMap ED.cells)) (hi : i < ds.length) (d : ED) :
    ((((((w.setCell ⟨g, i * 6, none⟩ (.slice d.ka d.kn d.kc)).setCell ⟨g, i * 6 + 1, none⟩ (.slice none 0 0)).setCell ⟨g, i * 6 + 2, none⟩ (.int .i64 d.ln)).setCell ⟨g, i * 6 + 3, none⟩ (.int .i64 0)).setCell ⟨g, i * 6 + 4, none⟩ (.int .i64 d.act)).setCell ⟨g, i * 6 + 5, none⟩ (.slice d.a d.n d.c)).ownsRow B 33 6 (.slice (some ⟨g, 0, none⟩) n cap) n ((ds.set i d).flatMap ED.cells) ∧
    w.grownBy ((((((w.setCell ⟨g, i * 6, none⟩ (.slice d.ka d.kn d.kc)).setCell ⟨g, i * 6 + 1, none⟩ (.slice none 0 0)).setCell ⟨g, i * 6 + 2, none⟩ (.int .i64 d.ln)).setCell ⟨g, i * 6 + 3, none⟩ (.int .i64 0)).setCell ⟨g, i * 6 + 4, none⟩ (.int .i64 d.act)).setCell ⟨g, i * 6 + 5, none⟩ (.slice d.a d.n d.c)) (some g) := by
  have h1 := h.stored (i * 6) (.slice d.ka d.kn d.kc)
  have h2 := h1.1.stored (i * 6 + 1) (.slice none 0 0)
  have h3 := h2.1.stored (i * 6 + 2) (.int .i64 d.ln)
  have h4 := h3.1.stored (i * 6 + 3) (.int .i64 0)
  have h5 := h4.1.stored (i * 6 + 4) (.int .i64 d.act)
  have h6 := h5.1.stored (i * 6 + 5) (.slice d.a d.n d.c)
  have e := set_flat ds i d hi
  rw [e] at h6
  exact ⟨h6.1, grown_trans h1.2 (grown_trans h2.2 (grown_trans h3.2 (grown_trans h4.2 (grown_trans h5.2 h6.2))))⟩

/-- the table behind an entry that says something else -/
theorem rchg_end {w w4 : World} {B S r : Nat} {wd most : Int} {C : Told2} {es : List (Nat × Nat)} {g cap : Nat} {ds : List ED} {kb kf ck : Nat} {ln ac : Int} {aa : Option Addr} {an ca key j : Nat} {xs : List Int}
    (t : Rws w B S r wd most C es) (nd : es.Nodup) (hg : Good wd key ln) (hC : (C (place wd key ln).1 (place wd key ln).2).isSome = true) (hj : es[j]? = some (place wd key ln)) (hb : Below w.heap.size w w4) (h4 : w.cell? ⟨r, 4, none⟩ = some (.slice (some ⟨g, 0, none⟩) es.length cap))
    (hlen : ds.length = es.length) (ho : w4.ownsRow B 33 6 (.slice (some ⟨g, 0, none⟩) es.length cap) es.length (ds.flatMap ED.cells)) (hgood : ∀ (i : Nat) (d : ED) (e : Ent), ds[i]? = some d → (es.map (entOf C (wid wd)))[i]? = some e → d.good w4 e ∧ d.new 0) (lk : Lst w4 0 (some ⟨kb, kf, none⟩) 1 ck [(key : Int)]) (lx : Lst w4 0 aa an ca xs) (hsm : an ≤ 1000) :
    RChgDone w ((((((w4.setCell ⟨g, j * 6, none⟩ (.slice (some ⟨kb, kf, none⟩) 1 ck)).setCell ⟨g, j * 6 + 1, none⟩ (.slice none 0 0)).setCell ⟨g, j * 6 + 2, none⟩ (.int .i64 ln)).setCell ⟨g, j * 6 + 3, none⟩ (.int .i64 0)).setCell ⟨g, j * 6 + 4, none⟩ (.int .i64 ac)).setCell ⟨g, j * 6 + 5, none⟩ (.slice aa an ca)) B S r wd most C es key ln (ac, xs) (.returned (.int .i64 0)) := by
  have hcode : hasCode C wd key ln = 0 := by unfold hasCode; rw [if_pos hg, if_pos hC]
  refine ⟨by rw [hcode], ?_⟩
  unfold chgC
  rw [if_pos hcode]
  have hjl : j < es.length := (List.getElem?_eq_some_iff.1 hj).1
  obtain ⟨ho6, hg6⟩ := own_six ho (i := j) (by omega) ⟨some ⟨kb, kf, none⟩, 1, ck, ln, ac, aa, an, ca⟩
  obtain ⟨W, m, e1, e2, _, _, _, _, h5, h6, h7⟩ := hg.out
  refine rows_chg hb t h4 (by omega) hg6 ho6 (by simp [hlen]) (fun i d e hd he => ?_)
  by_cases hi : i = j
  · subst hi
    rw [List.getElem?_set_self (by omega)] at hd
    rw [List.getElem?_map, hj] at he
    simp only [Option.some.injEq, Option.map_some] at hd he
    subst hd
    subst he
    have hks : (entOf (upC C (place wd key ln).1 (place wd key ln).2 (some (ac, xs))) (wid wd) (place wd key ln)) = ⟨[(key : Int)], ln, ac, xs⟩ := by
      unfold entOf
      rw [upC_same, h6, h7, e2]
      have h8 := Nat.div_add_mod key (2 ^ (W - m))
      rw [h5, Nat.add_zero, Nat.mul_comm] at h8
      simp only [Option.getD_some]
      rw [h8]
    rw [hks]
    exact ⟨⟨by simp, by simp, lk.2.2.1, rfl, rfl, lx.1, hsm, lx.2.2.1⟩, lk.2.2.2, lx.2.2.2⟩
  · rw [List.getElem?_set_ne (fun e => hi e.symm)] at hd
    have hil : i < es.length := by
      have := (List.getElem?_eq_some_iff.1 hd).1
      omega
    have hx : es[i]? = some (es[i]'hil) := List.getElem?_eq_getElem _
    have hne : es[i]'hil ≠ place wd key ln := by
      intro e
      have h1 := where_is nd hj
      have h2 := where_is nd (hx.trans (by rw [e]))
      omega
    rw [List.getElem?_map, hx, Option.map_some, entOf_up hne] at he
    refine hgood i d e hd ?_
    rw [List.getElem?_map, hx]
    exact he

set_option maxHeartbeats 2000000 in
set_option maxRecDepth 20000 in
theorem rchg_good {w : World} {B S r : Nat} {wd most : Int} {C : Told2} {es : List (Nat × Nat)} {kg ko kc : Nat} {ln ac : Int} {aa : Option Addr} {an ca key : Nat} {xs : List Int} (t : Rws w B S r wd most C es) (nd : es.Nodup) (mem : ∀ n v, (n, v) ∈ es ↔ (C n v).isSome = true) (hl : es.length ≤ 100000) (ha : Arg w kg ko kc aa an ca key xs) (hg : Good wd key ln) (hC : (C (place wd key ln).1 (place wd key ln).2).isSome = true) :
    Calls Try.prog 15 #[.pointer (some ⟨r, 0, none⟩), AV kg ko kc ln ac aa an ca] w fun e w' => RChgDone w w' B S r wd most C es key ln (ac, xs) e := by
  have hb0 := bl_alloc (o := AC kg ko kc ln ac aa an ca) (Below.refl w.heap.size w)
  have HM := hid (may_any (ln := ln) (ac := ac) (t.hd.step hb0) (ha.step hb0))
  have HT := hid t
  have HA := hid ha
  have B0 := hid hb0
  have SX := hid (six_new w (.slice (some ⟨kg, ko, none⟩) 1 kc) (.slice none 0 0) (.int .i64 ln) (.int .i64 0) (.int .i64 ac) (.slice aa an ca) 33)
  obtain ⟨x0, x1, x2, x3, x4, x5, -, -, -, -, -, -⟩ := SX.out
  have HG := hid hg
  obtain ⟨j, hj, hjx⟩ := at_yes ((mem _ _).2 hC)
  have hj' : whereAt es (place wd key ln) = (j : Int) := hj
  have hjl : j < es.length := (List.getElem?_eq_some_iff.1 hjx).1
  have hjx' : es[j]? = some (place wd key ln) := hjx
  have HJ := hid hj'
  have HJX := hid hjx'
  have HC := hid hC
  have HND := hid nd
  clear t ha hb0 hg hj hj' hC nd mem hjx hjx'
  go_enter Try.func15, Try.ntmps15
  go_wp2_with fail
  refine HM.out.mono ?_
  rintro e w1 ⟨rfl, hb1⟩
  rw [if_pos HG.out]
  have B1 := hid (bl_step B0.out hb1)
  have HAT := hid (at_any (ac := ac) (HT.out.step B1.out) HND.out hl (HA.out.step B1.out) HG.out)
  obtain ⟨y0, y1, y2, y3, y4, y5, -, -, -, -, -, -⟩ := SX.out.step hb1
  have S1 := hid (SX.out.step hb1)
  clear HM hb1 x0 x1 x2 x3 x4 x5 SX B0
  go_wp2_with fail
  refine HAT.out.mono ?_
  rintro e w2 ⟨rfl, hb2⟩
  rw [HJ.out]
  have hj0 : ¬ (j : Int) < 0 := by omega
  have hjn : (j : Int) < (es.length : Int) := by omega
  have B2 := hid (bl_step B1.out hb2)
  have S2 := hid (S1.out.step hb2)
  have T2 := hid (HT.out.step B2.out)
  obtain ⟨la, cap, r4, hrow, hlS⟩ := T2.out.lst
  obtain ⟨g, e0, _, _⟩ := hrow.some (by omega)
  subst e0
  have h4w : w.cell? ⟨r, 4, none⟩ = some (.slice (some ⟨g, 0, none⟩) es.length cap) := by
    rw [← B2.out.cell (p := ⟨r, 4, none⟩) (show r < w.heap.size from World.block_lt_of_cell? w _ HT.out.hd.c0)]
    exact r4
  have H4 := hid h4w
  obtain ⟨g2, cap2, ka2, kc2, ea, en, ec, r42, c0, c1, c2, c3, c4', c5, -⟩ := T2.out.entry HJX.out
  have eg : g = g2 := by rw [r4] at r42; simp only [Option.some.injEq, Value.slice.injEq, Addr.mk.injEq, and_true, true_and] at r42; exact r42.1
  subst eg
  obtain ⟨ds, dl, _, dow, _, dgood⟩ := hrow
  have DOW := hid dow
  have DG := hid dgood
  have A2 := hid (HA.out.step B2.out)
  have hbd : Below w2.heap.size w2 w2.drew := (Below.refl _ _).drew
  have HKP := hid (kept_any (ln := ln) (ac := ac) (T2.out.hd.step hbd) (A2.out.step hbd))
  clear HAT hb2 HJ y0 y1 y2 y3 y4 y5 S1 hlS h4w dow dgood r42
  obtain ⟨y0, y1, y2, y3, y4, y5, -, -, -, -, -, -⟩ := S2.out
  go_wp2_with fail
  go_region_with (go_at_call 42; refine HKP.out.mono ?_; rintro e w4 ⟨kb, kf, ck, a4, c4, rfl, lk4, la4, hb4⟩; have p4 : w4.cell? ⟨r, 4, none⟩ = some (.slice (some ⟨g, 0, none⟩) es.length cap) := ((bl_step hbd hb4).cell (p := ⟨r, 4, none⟩) (show r < w2.heap.size from World.block_lt_of_cell? w2 _ r4)).trans r4; have OW4 := hid (owns_below DOW.out (bl_step hbd hb4)); have fr0 := own_free OW4.out (j * 6); have fr1 := own_free OW4.out (j * 6 + 1); have fr2 := own_free OW4.out (j * 6 + 2); have fr3 := own_free OW4.out (j * 6 + 3); have fr4 := own_free OW4.out (j * 6 + 4); have fr5 := own_free OW4.out (j * 6 + 5); have MV := moved_below (bl_step hbd hb4); have tt := tight_slice ka2 1 kc2; have q0 := MV.cell c0 c0 tt; have q1 := MV.cell c1 c0 tt; have q2 := MV.cell c2 c0 tt; have q3 := MV.cell c3 c0 tt; have q4 := MV.cell c4' c0 tt; have q5 := MV.cell c5 c0 tt; clear MV tt)
  all_goals
    rw [fst_one] at lk4
    have HEND := hid (rchg_end (ac := ac) HT.out HND.out HG.out HC.out HJX.out (bl_step (bl_step B2.out hbd) hb4) H4.out dl OW4.out (fun i d e hd he => ⟨(DG.out i d e hd he).1.moved (moved_below (bl_step hbd hb4)), (DG.out i d e hd he).2⟩) (lk4.mono (Nat.zero_le _)) (la4.mono (Nat.zero_le _)) (by have := HA.out.small; omega))
    clear lk4 la4 hb4 HKP OW4
    go_wp2
    go_ret
    exact HEND.out

theorem rchg_any {w : World} {B S r : Nat} {wd most : Int} {C : Told2} {es : List (Nat × Nat)} {kg ko kc : Nat} {ln ac : Int} {aa : Option Addr} {an ca key : Nat} {xs : List Int} (t : Rws w B S r wd most C es) (nd : es.Nodup) (mem : ∀ n v, (n, v) ∈ es ↔ (C n v).isSome = true) (hl : es.length ≤ 100000) (ha : Arg w kg ko kc aa an ca key xs) :
    Calls Try.prog 15 #[.pointer (some ⟨r, 0, none⟩), AV kg ko kc ln ac aa an ca] w fun e w' => RChgDone w w' B S r wd most C es key ln (ac, xs) e := by
  by_cases hg : Good wd key ln
  · by_cases hC : (C (place wd key ln).1 (place wd key ln).2).isSome = true
    · exact rchg_good t nd mem hl ha hg hC
    · exact rchg_none t nd mem hl ha hg (isSome_not hC)
  · exact rchg_bad t ha hg
end Go.Proofs.Ytlnkfgdepddmlac
