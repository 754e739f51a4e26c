/- What Drop of the document's own table by beginnings does. -/
import Derived.Test.YtlnkfgdepddmlacRChg
import Derived.Deep.RegionHeld3
namespace Go.Proofs.Ytlnkfgdepddmlac
open Go.RowKit Mth

def RDropDone (w w' : World) (B S r : Nat) (wd most : Int) (C : Told2) (es : List (Nat × Nat)) (key : Nat) (n : Int) (e : Ending) : Prop :=
  e = .returned (.int .i64 (hasCode C wd key n)) ∧ RowsTo w w' B S r wd most (dropC C wd key n) (dropE C es wd key n)

theorem rdrop_keep {w w' : World} {B S r : Nat} {wd most : Int} {C : Told2} {es : List (Nat × Nat)} {key : Nat} {n : Int} {c : Int} (t : Rws w B S r wd most C es) (hb : Below w.heap.size w w') (hc : hasCode C wd key n = c) (h0 : c ≠ 0) : RDropDone w w' B S r wd most C es key n (.returned (.int .i64 c)) := by
  refine ⟨by rw [hc], ?_⟩
  unfold dropC dropE
  rw [if_neg (by rw [hc]; exact h0), if_neg (by rw [hc]; exact h0)]
  exact RowsTo.same t hb

set_option maxHeartbeats 1000000 in
set_option maxRecDepth 20000 in
theorem rdrop_bad {w : World} {B S r : Nat} {wd most : Int} {C : Told2} {es : List (Nat × Nat)} {kg ko kc : Nat} {ln ac : Int} {aa : Option Addr} {an ca key : Nat} {xs : List Int} (t : Rws w B S r wd most C es) (ha : Arg w kg ko kc aa an ca key xs) (hg : ¬ Good wd key ln) :
    Calls Try.prog 17 #[.pointer (some ⟨r, 0, none⟩), AV kg ko kc ln ac aa an ca] w fun e w' => RDropDone w w' B S r wd most C es key ln e := by
  have hb0 := bl_alloc (o := AC kg ko kc ln ac aa an ca) (Below.refl w.heap.size w)
  have HM := hid (may_any (ln := ln) (ac := ac) (t.hd.step hb0) (ha.step hb0))
  have HT := hid t
  have B0 := hid hb0
  obtain ⟨x0, x1, x2, x3, x4, x5, -, -, -, -, -, -⟩ := six_new w (.slice (some ⟨kg, ko, none⟩) 1 kc) (.slice none 0 0) (.int .i64 ln) (.int .i64 0) (.int .i64 ac) (.slice aa an ca) 33
  have HG := hid hg
  clear t ha hb0 hg
  go_enter Try.func17, Try.ntmps17
  go_wp2_with fail
  refine HM.out.mono ?_
  rintro e w1 ⟨rfl, hb1⟩
  rw [if_neg HG.out]
  have HE := hid (rdrop_keep (key := key) (n := ln) (c := 6) HT.out (bl_step B0.out hb1) (by unfold hasCode; rw [if_neg HG.out]) (by decide))
  clear HM HG HT B0 hb1
  go_wp2
  go_ret
  exact HE.out

set_option maxHeartbeats 1000000 in
set_option maxRecDepth 20000 in
theorem rdrop_none {w : World} {B S r : Nat} {wd most : Int} {C : Told2} {es : List (Nat × Nat)} {kg ko kc : Nat} {ln ac : Int} {aa : Option Addr} {an ca key : Nat} {xs : List Int} (t : Rws w B S r wd most C es) (nd : es.Nodup) (mem : ∀ n v, (n, v) ∈ es ↔ (C n v).isSome = true) (hl : es.length ≤ 100000) (ha : Arg w kg ko kc aa an ca key xs) (hg : Good wd key ln) (hC : C (place wd key ln).1 (place wd key ln).2 = none) :
    Calls Try.prog 17 #[.pointer (some ⟨r, 0, none⟩), AV kg ko kc ln ac aa an ca] w fun e w' => RDropDone w w' B S r wd most C es key ln e := by
  have hb0 := bl_alloc (o := AC kg ko kc ln ac aa an ca) (Below.refl w.heap.size w)
  have HM := hid (may_any (ln := ln) (ac := ac) (t.hd.step hb0) (ha.step hb0))
  have HT := hid t
  have HA := hid ha
  have B0 := hid hb0
  have SX := hid (six_new w (.slice (some ⟨kg, ko, none⟩) 1 kc) (.slice none 0 0) (.int .i64 ln) (.int .i64 0) (.int .i64 ac) (.slice aa an ca) 33)
  obtain ⟨x0, x1, x2, x3, x4, x5, -, -, -, -, -, -⟩ := SX.out
  have HG := hid hg
  have hj : whereAt es (place wd key ln) = -1 := at_no (fun hm => by
    have h1 : (C (place wd key ln).1 (place wd key ln).2).isSome = true := (mem _ _).1 hm
    rw [hC] at h1; cases h1)
  have HJ := hid hj
  have HC := hid hC
  have HND := hid nd
  clear t ha hb0 hg hj hC nd mem
  go_enter Try.func17, Try.ntmps17
  go_wp2_with fail
  refine HM.out.mono ?_
  rintro e w1 ⟨rfl, hb1⟩
  rw [if_pos HG.out]
  have B1 := hid (bl_step B0.out hb1)
  have HAT := hid (at_any (ac := ac) (HT.out.step B1.out) HND.out hl (HA.out.step B1.out) HG.out)
  obtain ⟨y0, y1, y2, y3, y4, y5, -, -, -, -, -, -⟩ := SX.out.step hb1
  clear HM hb1 x0 x1 x2 x3 x4 x5
  go_wp2_with fail
  refine HAT.out.mono ?_
  rintro e w2 ⟨rfl, hb2⟩
  rw [HJ.out]
  have HE := hid (rdrop_keep (key := key) (n := ln) (c := 9) HT.out (bl_step B1.out hb2) (by unfold hasCode; rw [if_pos HG.out, HC.out, if_neg (by simp)]) (by decide))
  clear HAT HG HT B0 B1 hb2 HC HJ HA HND SX
  go_wp2
  go_ret
  exact HE.out

/-- one append of a region: m entries behind a row of one's own -/
theorem stepM {ops : Array Oper} {o : Oper} {a : Act} {w : World} {K : Act → World → Prop} {Q : Exit → Act → World → Prop} {F : Prop} (hgd : o.guard = none) (s x : Operand)
    (ho : o.op = .call { callee := .builtin .append, args := #[s, x], argTypes := #[28, 28] }) (base n m : Nat) (v : Value) (xs news : List Value) (ad : Addr) (c : Nat)
    (hs : a.eval s = v) (hx : a.eval x = .slice (some ad) m c) (hown : w.ownsRow base 33 6 v n xs) (hl : news.length = m * 6) (hn : ∀ j u, news[j]? = some u → w.cell? (ad.add j) = some u) (h1 : ∀ u ∈ news, u.oneCell' = true)
    (hsm : n + m ≤ 100001) (hbase : base ≤ w.heap.size) (h : ∀ v' w', w'.ownsRow base 33 6 v' (n + m) (xs ++ news) → w.grownBy w' v.ownBlock → (v' = .slice none 0 0 ↔ v = .slice none 0 0 ∧ m = 0) → K (a.put o.dst v') w') :
    if Region.wanted o (yielded ops a.tmps) = true then Oper.wp Try.prog o a w K Q else F := by
  have hw : Region.wanted o (yielded ops a.tmps) = true := by simp [Region.wanted, hgd]
  rw [if_pos hw]
  obtain ⟨i0, hi, hz0, hz1, hz2⟩ := info_parts Try.infoEntry
  refine wp_append_own w s x 28 ho base 33 i0 NoEntry 6 96 Try.underlying28 hi hz0 hz1 hz2 rfl (by decide) v n xs hs hown ad m c news hx hl hn h1 (by unfold maxLen; omega) (by omega) hbase ?_
  intro v' w' r1 r2 r3
  exact h v' w' r1 r2 r3

theorem own_grown {w w' : World} {Z n : Nat} {v : Value} {xs : List Value} (hZ : Z ≤ w.heap.size) (h : w.ownsRow Z 33 6 v n xs) (g : w.grownBy w' v.ownBlock) : Below Z w w' :=
  ⟨g.os, g.tape, g.output, g.size, fun k hk => g.block k (by omega) (fun e => by have := (h.lt k e.symm).1; omega)⟩

theorem own6_is {w : World} {Z n : Nat} {v : Value} {xs : List Value} (h : w.ownsRow Z 33 6 v n xs) : ∃ a c, v = .slice a n c := by
  rcases h.2 with ⟨rfl, rfl⟩ | ⟨g, c, cur, rfl, _⟩
  · exact ⟨none, 0, rfl⟩
  · exact ⟨_, c, rfl⟩

theorem own_mono {w : World} {Z B n : Nat} {v : Value} {xs : List Value} (h : w.ownsRow Z 33 6 v n xs) (hB : B ≤ Z) : w.ownsRow B 33 6 v n xs := by
  refine ⟨h.1, ?_⟩
  rcases h.2 with h2 | ⟨g, c, cur, hv, hg, r⟩
  · exact .inl h2
  · exact .inr ⟨g, c, cur, hv, Nat.le_trans hB hg, r⟩

/-- the table behind a list that is empty now -/
theorem rows_nil {w wA : World} {B S r : Nat} {wd most : Int} {C C' : Told2} {es : List (Nat × Nat)} (hb : Below w.heap.size w wA) (t : Rws w B S r wd most C es) : RowsTo w (wA.setCell ⟨r, 4, none⟩ (.slice none 0 0)) B S r wd most C' [] := by
  obtain ⟨la, cap, h4, _, _⟩ := t.lst
  have hrl : r < w.heap.size := World.block_lt_of_cell? w _ h4
  have hrA := t.hd.step hb
  have h4A := (hb.cell (p := ⟨r, 4, none⟩) hrl).trans h4
  have cz : ∀ i, i ≠ 4 → (wA.setCell ⟨r, 4, none⟩ (.slice none 0 0)).cell? ⟨r, i, none⟩ = wA.cell? ⟨r, i, none⟩ := fun i hi => World.cell?_setCell_other _ _ _ _ (addr_ne (by omega))
  have T : Turned wA (wA.setCell ⟨r, 4, none⟩ (.slice none 0 0)) := ⟨by simp [World.setCell], fun k _ => by
    by_cases e : k = r
    · subst e; exact .inr (.inr ⟨⟨_, hrA.c0⟩, ⟨_, hrA.c1⟩, _, _, _, h4A⟩)
    · exact .inl (Below.heap_setCell _ _ _ _ e)⟩
  refine ⟨⟨⟨(cz 0 (by omega)).trans hrA.c0, (cz 1 (by omega)).trans hrA.c1, (cz 2 (by omega)).trans hrA.c2, (cz 3 (by omega)).trans hrA.c3⟩, ?_, t.base, ?_, none, 0, ?_, ?_, fun g e => by cases e⟩, (hb.mono t.small).setCell t.base _, Turned.trans_below hb T, fun k h1 h2 => ?_⟩
  · simp only [World.frozen?_setCell]
    exact (hb.frozen (p := ⟨r, 4, none⟩) hrl).trans t.f4
  · have := hb.size; simp only [World.setCell, Array.size_modify]; omega
  · exact World.cell?_setCell_same _ _ _ h4A
  · exact ⟨[], rfl, rfl, World.ownsRow_nil _ _ _ _, fun _ => rfl, by simp⟩
  · have := t.top
    rw [Below.heap_setCell _ _ _ _ (by simp only; omega)]
    exact hb.block k h2

theorem grown_none {w w' : World} (h : w.grownBy w' (Value.slice none 0 0).ownBlock) : Below w.heap.size w w' := (Below.refl _ _).grown h (Nat.le_refl _) (by intro k hk; cases hk)

theorem take_len (ds : List ED) (j : Nat) (h : j ≤ ds.length) : ((ds.take j).flatMap ED.cells).length = j * 6 := by
  rw [flat_length, List.length_take, Nat.min_eq_left h, Nat.mul_comm]

/-- the cells of the first entries -/
theorem take_cells {w : World} {B g n cap : Nat} {ds : List ED} (ho : w.ownsRow B 33 6 (.slice (some ⟨g, 0, none⟩) n cap) n (ds.flatMap ED.cells)) (hl : ds.length = n) (j : Nat) (hj : j ≤ n) : ∀ (k : Nat) (u : Value), ((ds.take j).flatMap ED.cells)[k]? = some u → w.cell? ((⟨g, 0, none⟩ : Addr).add k) = some u := by
  intro k u hk
  have hlen := take_len ds j (by omega)
  have hkl : k < j * 6 := by rw [← hlen]; exact (List.getElem?_eq_some_iff.1 hk).1
  have e : ds.flatMap ED.cells = (ds.take j).flatMap ED.cells ++ (ds.drop j).flatMap ED.cells := by rw [← List.flatMap_append, List.take_append_drop]
  rw [Addr.add_lit, Nat.zero_add, ho.cellAt k (by omega), e, List.getElem?_append_left (by omega)]
  exact hk

/-- the cells of the last ones -/
theorem drop_cells {w : World} {B g n cap : Nat} {ds : List ED} (ho : w.ownsRow B 33 6 (.slice (some ⟨g, 0, none⟩) n cap) n (ds.flatMap ED.cells)) (hl : ds.length = n) (j o : Nat) (hj : j ≤ n) (hoo : o = j * 6) : ∀ (k : Nat) (u : Value), ((ds.drop j).flatMap ED.cells)[k]? = some u → w.cell? ((⟨g, o, none⟩ : Addr).add k) = some u := by
  intro k u hk
  subst hoo
  have hlen := take_len ds j (by omega)
  have hl2 : ((ds.drop j).flatMap ED.cells).length = (n - j) * 6 := by rw [flat_length, List.length_drop, hl, Nat.mul_comm]
  have hkl : k < (n - j) * 6 := by rw [← hl2]; exact (List.getElem?_eq_some_iff.1 hk).1
  have e : ds.flatMap ED.cells = (ds.take j).flatMap ED.cells ++ (ds.drop j).flatMap ED.cells := by rw [← List.flatMap_append, List.take_append_drop]
  rw [Addr.add_lit, ho.cellAt (j * 6 + k) (by omega), e, List.getElem?_append_right (by omega), hlen, Nat.add_sub_cancel_left]
  exact hk

theorem cells_one (ds : List ED) : ∀ u ∈ ds.flatMap ED.cells, u.oneCell' = true := by
  intro u hu
  obtain ⟨d, _, h⟩ := List.mem_flatMap.1 hu
  exact six_one d u h

theorem erase_at {es : List (Nat × Nat)} {x : Nat × Nat} {j : Nat} (nd : es.Nodup) (h : es[j]? = some x) : es.erase x = es.take j ++ es.drop (j + 1) := by
  have hw := where_is nd h
  have hm : x ∈ es := List.mem_of_getElem? h
  unfold whereAt at hw
  rw [if_pos hm] at hw
  have e : es.idxOf x = j := by omega
  rw [List.erase_eq_eraseIdx_of_idxOf e, List.eraseIdx_eq_take_drop_succ]

/-- the table behind an entry less -/
theorem rdrop_end {w w2 w4 : World} {B S r : Nat} {wd most : Int} {C : Told2} {es : List (Nat × Nat)} {g cap : Nat} {ds : List ED} {ln : Int} {key j u : Nat} {a2 : Option Addr} {c2 : Nat} {v1 : Value}
    (t : Rws w B S r wd most C es) (nd : es.Nodup) (hg : Good wd key ln) (hC : (C (place wd key ln).1 (place wd key ln).2).isSome = true) (hj : es[j]? = some (place wd key ln)) (hb : Below w.heap.size w w4) (h4 : w.cell? ⟨r, 4, none⟩ = some (.slice (some ⟨g, 0, none⟩) es.length cap))
    (hlen : ds.length = es.length) (hu : u = j + 1) (hgood : ∀ (i : Nat) (d : ED) (e : Ent), ds[i]? = some d → (es.map (entOf C (wid wd)))[i]? = some e → d.good w2 e ∧ d.new 0) (hb2 : Below w2.heap.size w2 w4) (hBz : B ≤ w2.heap.size)
    (ho : w4.ownsRow w2.heap.size 33 6 (.slice a2 (j + (es.length - u)) c2) (j + (es.length - u)) ((ds.take j).flatMap ED.cells ++ (ds.drop u).flatMap ED.cells)) (hn3 : v1 = .slice none 0 0 ↔ Value.slice none 0 0 = .slice none 0 0 ∧ j = 0) (hn4 : Value.slice a2 (j + (es.length - u)) c2 = .slice none 0 0 ↔ v1 = .slice none 0 0 ∧ es.length - u = 0) :
    RDropDone w (w4.setCell ⟨r, 4, none⟩ (.slice a2 (j + (es.length - u)) c2)) B S r wd most C es key ln (.returned (.int .i64 0)) := by
  have hcode : hasCode C wd key ln = 0 := by unfold hasCode; rw [if_pos hg, if_pos hC]
  refine ⟨by rw [hcode], ?_⟩
  unfold dropC dropE
  rw [if_pos hcode, if_pos hcode]
  have hjl : j < es.length := (List.getElem?_eq_some_iff.1 hj).1
  have hE := erase_at nd hj
  subst hu
  by_cases h1 : j + (es.length - (j + 1)) = 0
  · have e1 : v1 = .slice none 0 0 := hn3.2 ⟨rfl, by omega⟩
    have e2 := hn4.2 ⟨e1, by omega⟩
    rw [e2]
    have e3 : es.erase (place wd key ln) = [] := by
      rw [hE]
      have : j = 0 := by omega
      subst this
      simp only [List.take_zero, List.nil_append]
      exact List.drop_eq_nil_of_le (by omega)
    rw [e3]
    exact rows_nil hb t
  · obtain ⟨la2, cap2, h42, hl, hlS⟩ := t.lst
    rw [h4] at h42
    simp only [Option.some.injEq, Value.slice.injEq, true_and] at h42
    obtain ⟨rfl, rfl⟩ := h42
    have ho' := own_mono ho hBz
    rcases ho.2 with ⟨_, e⟩ | ⟨g', c', cur, e, _⟩
    · omega
    · simp only [Value.slice.injEq, true_and] at e
      obtain ⟨rfl, rfl⟩ := e
      have hlen' : (ds.take j ++ ds.drop (j + 1)).length = j + (es.length - (j + 1)) := by simp [hlen]; omega
      have hes' : (es.erase (place wd key ln)).length = j + (es.length - (j + 1)) := by rw [hE]; simp; omega
      refine rows_new (ds' := ds.take j ++ ds.drop (j + 1)) hb t.hd t.f4 t.base t.top h4 hl hlS (World.grownBy.refl _ _) (by rw [List.flatMap_append]; exact ho') (by omega) hlen' hes' (fun i d e hd he => ?_)
      rw [List.getElem?_map] at he
      cases hx : (es.erase (place wd key ln))[i]? with
      | none => rw [hx] at he; cases he
      | some x =>
        rw [hx, Option.map_some] at he
        have hxm : x ∈ es.erase (place wd key ln) := List.mem_of_getElem? hx
        have hne : x ≠ place wd key ln := (nd.mem_erase_iff.1 hxm).1
        rw [entOf_up hne] at he
        rw [hE] at hx
        by_cases hi : i < j
        · rw [List.getElem?_append_left (by simp; omega), List.getElem?_take_of_lt hi] at hd hx
          obtain ⟨q1, q2⟩ := hgood i d e hd (by rw [List.getElem?_map, hx]; exact he)
          exact ⟨q1.moved (moved_below hb2), q2⟩
        · rw [List.getElem?_append_right (by simp; omega), List.getElem?_drop] at hd hx
          have el : (ds.take j).length = j := by simp; omega
          have el2 : (es.take j).length = j := by simp; omega
          rw [el] at hd
          rw [el2] at hx
          obtain ⟨q1, q2⟩ := hgood (j + 1 + (i - j)) d e hd (by rw [List.getElem?_map, hx]; exact he)
          exact ⟨q1.moved (moved_below hb2), q2⟩

set_option maxHeartbeats 4000000 in
set_option maxRecDepth 20000 in
theorem rdrop_good {w : World} {B S r : Nat} {wd most : Int} {C : Told2} {es : List (Nat × Nat)} {kg ko kc : Nat} {ln ac : Int} {aa : Option Addr} {an ca key : Nat} {xs : List Int} (t : Rws w B S r wd most C es) (nd : es.Nodup) (mem : ∀ n v, (n, v) ∈ es ↔ (C n v).isSome = true) (hl : es.length ≤ 100000) (ha : Arg w kg ko kc aa an ca key xs) (hg : Good wd key ln) (hC : (C (place wd key ln).1 (place wd key ln).2).isSome = true) :
    Calls Try.prog 17 #[.pointer (some ⟨r, 0, none⟩), AV kg ko kc ln ac aa an ca] w fun e w' => RDropDone w w' B S r wd most C es key ln e := by
  have hb0 := bl_alloc (o := AC kg ko kc ln ac aa an ca) (Below.refl w.heap.size w)
  have HM := hid (may_any (ln := ln) (ac := ac) (t.hd.step hb0) (ha.step hb0))
  have HT := hid t
  have HA := hid ha
  have B0 := hid hb0
  have SX := hid (six_new w (.slice (some ⟨kg, ko, none⟩) 1 kc) (.slice none 0 0) (.int .i64 ln) (.int .i64 0) (.int .i64 ac) (.slice aa an ca) 33)
  obtain ⟨x0, x1, x2, x3, x4, x5, -, -, -, -, -, -⟩ := SX.out
  have HG := hid hg
  obtain ⟨j, hj, hjx⟩ := at_yes ((mem _ _).2 hC)
  have hj' : whereAt es (place wd key ln) = (j : Int) := hj
  have hjl : j < es.length := (List.getElem?_eq_some_iff.1 hjx).1
  have hjx' : es[j]? = some (place wd key ln) := hjx
  have HJ := hid hj'
  have HJX := hid hjx'
  have HC := hid hC
  have HND := hid nd
  clear t ha hb0 hg hj hj' hC nd mem hjx hjx'
  go_enter Try.func17, Try.ntmps17
  go_wp2_with fail
  refine HM.out.mono ?_
  rintro e w1 ⟨rfl, hb1⟩
  rw [if_pos HG.out]
  have B1 := hid (bl_step B0.out hb1)
  have HAT := hid (at_any (ac := ac) (HT.out.step B1.out) HND.out hl (HA.out.step B1.out) HG.out)
  obtain ⟨y0, y1, y2, y3, y4, y5, -, -, -, -, -, -⟩ := SX.out.step hb1
  have S1 := hid (SX.out.step hb1)
  clear HM hb1 x0 x1 x2 x3 x4 x5 SX B0
  go_wp2_with fail
  refine HAT.out.mono ?_
  rintro e w2 ⟨rfl, hb2⟩
  rw [HJ.out]
  have hj0 : ¬ (j : Int) < 0 := by omega
  have hjn : (j : Int) < (es.length : Int) := by omega
  have B2 := hid (bl_step B1.out hb2)
  have S2 := hid (S1.out.step hb2)
  have T2 := hid (HT.out.step B2.out)
  obtain ⟨la, cap, r4, hrow, hlS⟩ := T2.out.lst
  obtain ⟨g, e0, _, _⟩ := hrow.some (by omega)
  subst e0
  have h4w : w.cell? ⟨r, 4, none⟩ = some (.slice (some ⟨g, 0, none⟩) es.length cap) := by
    rw [← B2.out.cell (p := ⟨r, 4, none⟩) (show r < w.heap.size from World.block_lt_of_cell? w _ HT.out.hd.c0)]
    exact r4
  have H4 := hid h4w
  obtain ⟨ds, dl, _, dow, _, dgood⟩ := hrow
  have DOW := hid dow
  have DG := hid dgood
  have f4 := T2.out.f4
  have hcap : es.length ≤ cap := by
    rcases dow.2 with ⟨h, _⟩ | ⟨_, _, _, h, _, _, h', _⟩
    · cases h
    · simp only [Value.slice.injEq] at h; omega
  have hcapi : (j : Int) ≤ (cap : Int) := by omega
  have hbd : Below w2.heap.size w2 w2.drew := (Below.refl _ _).drew
  clear HAT hb2 HJ y0 y1 y2 y3 y4 y5 S1 hlS h4w dow dgood HA
  go_wp2_with fail
  obtain ⟨u, hu⟩ : ∃ u, u = j + 1 := ⟨_, rfl⟩
  have HU := hid hu
  have hs1 : (j : Int) + 1 = (u : Int) := by omega
  have hu1 : (u : Int) ≤ (es.length : Int) := by omega
  have hu2 : (es.length : Int) ≤ (cap : Int) := by omega
  have hu3 : (u : Int) ≤ (cap : Int) := by omega
  clear hu
  have hwu : IntKind.i64.wrap (u : Int) = (u : Int) := wrap_small _ (by omega) (by omega)
  have hu0 : (0 : Int) ≤ (u : Int) := by omega
  have hrl2 : r < w2.heap.size := World.block_lt_of_cell? w2 _ r4
  have HZ : Hid (∃ ad : Addr, (if cap = u then some (⟨g, 0, none⟩ : Addr) else some ⟨g, u * 6, none⟩) = some ad ∧ ∀ w', Below w2.heap.size w2 w' → ∀ (k : Nat) (x : Value), ((ds.drop u).flatMap ED.cells)[k]? = some x → w'.cell? (ad.add k) = some x) := by
    by_cases hcu : cap = u
    · refine ⟨⟨g, 0, none⟩, by rw [if_pos hcu], fun w' hb' k x hk => ?_⟩
      have : (ds.drop u) = [] := List.drop_eq_nil_of_le (by omega)
      rw [this] at hk
      simp at hk
    · exact ⟨⟨g, u * 6, none⟩, by rw [if_neg hcu], fun w' hb' => drop_cells (owns_below DOW.out hb') dl u _ (by omega) rfl⟩
  obtain ⟨ad, hadd, hac⟩ := HZ.out
  have HAC := hid hac
  clear hac
  go_region_law (first
    | (refine stepM (by rfl) _ _ (by rfl) w2.heap.size 0 j (.slice none 0 0) [] ((ds.take j).flatMap ED.cells) ⟨g, 0, none⟩ cap (by rfl) (by rfl) (World.ownsRow_nil _ _ _ _) (take_len ds j (by omega)) (take_cells (owns_below DOW.out hbd) dl j (by omega)) (cells_one _) (by omega) (Nat.le_refl _) ?_; intro v1 w3 ho3 hg3 hn3; have hb3 := bl_step hbd (grown_none hg3); have p4 : w3.cell? ⟨r, 4, none⟩ = some (.slice (some ⟨g, 0, none⟩) es.length cap) := (hb3.cell (p := ⟨r, 4, none⟩) hrl2).trans r4)
    | (refine stepM (by rfl) _ _ (by rfl) w2.heap.size (0 + j) (es.length - u) v1 ([] ++ (ds.take j).flatMap ED.cells) ((ds.drop u).flatMap ED.cells) ad (cap - u) (by rfl) (by rfl) ho3 (by rw [flat_length, List.length_drop, dl, Nat.mul_comm]) (HAC.out _ hb3) (cells_one _) (by omega) hb3.size ?_; intro v2 w4 ho4 hg4 hn4; have hb4 := hb3.trans (own_grown hb3.size ho3 hg4); obtain ⟨a2, c2, rfl⟩ := own6_is ho4; have p5 : w4.cell? ⟨r, 4, none⟩ = some (.slice (some ⟨g, 0, none⟩) es.length cap) := (hb4.cell (p := ⟨r, 4, none⟩) hrl2).trans r4; have p6 : w4.frozen? ⟨r, 4, none⟩ = false := (hb4.frozen (p := ⟨r, 4, none⟩) hrl2).trans f4))
  all_goals
    rw [Nat.zero_add, List.nil_append] at ho4
    rw [Nat.zero_add] at hn4
    have HEND := hid (rdrop_end HT.out HND.out HG.out HC.out HJX.out (bl_step B2.out hb4) H4.out dl HU.out DG.out hb4 T2.out.small ho4 hn3 hn4)
    clear ho4 hg4 hn4 ho3 hg3 hn3
    go_wp2
    go_ret
    exact HEND.out

theorem rdrop_any {w : World} {B S r : Nat} {wd most : Int} {C : Told2} {es : List (Nat × Nat)} {kg ko kc : Nat} {ln ac : Int} {aa : Option Addr} {an ca key : Nat} {xs : List Int} (t : Rws w B S r wd most C es) (nd : es.Nodup) (mem : ∀ n v, (n, v) ∈ es ↔ (C n v).isSome = true) (hl : es.length ≤ 100000) (ha : Arg w kg ko kc aa an ca key xs) :
    Calls Try.prog 17 #[.pointer (some ⟨r, 0, none⟩), AV kg ko kc ln ac aa an ca] w fun e w' => RDropDone w w' B S r wd most C es key ln e := by
  by_cases hg : Good wd key ln
  · by_cases hC : (C (place wd key ln).1 (place wd key ln).2).isSome = true
    · exact rdrop_good t nd mem hl ha hg hC
    · exact rdrop_none t nd mem hl ha hg (isSome_not hC)
  · exact rdrop_bad t ha hg
end Go.Proofs.Ytlnkfgdepddmlac
