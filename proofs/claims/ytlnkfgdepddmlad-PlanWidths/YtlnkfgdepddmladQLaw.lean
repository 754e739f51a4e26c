/- The walk of the law PlanWidths. -/
import Derived.Test.YtlnkfgdepddmladQWidths2
import Derived.Test.YtlnkfgdepddmladQBegun
import Derived.Test.YtlnkfgdepddmladQLaw0
namespace Go.Proofs.Ytlnkfgdepddmlad
open Go.RowKit

theorem keep15w {w w' : World} {s s1 s2 : Nat} {v0 v1 v2 v3 v4 v5 v6 v7 v8 v9 v10 v11 v12 v13 v14 : Value} (h : w.cell? ⟨s, 0, none⟩ = some v0 ∧ w.cell? ⟨s, 1, none⟩ = some v1 ∧ w.cell? ⟨s, 2, none⟩ = some v2 ∧ w.cell? ⟨s, 3, none⟩ = some v3 ∧ w.cell? ⟨s, 4, none⟩ = some v4 ∧ w.cell? ⟨s, 5, none⟩ = some v5 ∧ w.cell? ⟨s, 6, none⟩ = some v6 ∧ w.cell? ⟨s1, 0, none⟩ = some v7 ∧ w.cell? ⟨s1, 1, none⟩ = some v8 ∧ w.cell? ⟨s2, 0, none⟩ = some v9 ∧ w.cell? ⟨s2, 1, none⟩ = some v10 ∧ w.cell? ⟨s2, 2, none⟩ = some v11 ∧ w.cell? ⟨s2, 3, none⟩ = some v12 ∧ w.cell? ⟨s2, 4, none⟩ = some v13 ∧ w.cell? ⟨s2, 5, none⟩ = some v14) (b : Below w.heap.size w w') : w'.cell? ⟨s, 0, none⟩ = some v0 ∧ w'.cell? ⟨s, 1, none⟩ = some v1 ∧ w'.cell? ⟨s, 2, none⟩ = some v2 ∧ w'.cell? ⟨s, 3, none⟩ = some v3 ∧ w'.cell? ⟨s, 4, none⟩ = some v4 ∧ w'.cell? ⟨s, 5, none⟩ = some v5 ∧ w'.cell? ⟨s, 6, none⟩ = some v6 ∧ w'.cell? ⟨s1, 0, none⟩ = some v7 ∧ w'.cell? ⟨s1, 1, none⟩ = some v8 ∧ w'.cell? ⟨s2, 0, none⟩ = some v9 ∧ w'.cell? ⟨s2, 1, none⟩ = some v10 ∧ w'.cell? ⟨s2, 2, none⟩ = some v11 ∧ w'.cell? ⟨s2, 3, none⟩ = some v12 ∧ w'.cell? ⟨s2, 4, none⟩ = some v13 ∧ w'.cell? ⟨s2, 5, none⟩ = some v14 :=
  ⟨cell_keep (h.1) b, cell_keep (h.2.1) b, cell_keep (h.2.2.1) b, cell_keep (h.2.2.2.1) b, cell_keep (h.2.2.2.2.1) b, cell_keep (h.2.2.2.2.2.1) b, cell_keep (h.2.2.2.2.2.2.1) b, cell_keep (h.2.2.2.2.2.2.2.1) b, cell_keep (h.2.2.2.2.2.2.2.2.1) b, cell_keep (h.2.2.2.2.2.2.2.2.2.1) b, cell_keep (h.2.2.2.2.2.2.2.2.2.2.1) b, cell_keep (h.2.2.2.2.2.2.2.2.2.2.2.1) b, cell_keep (h.2.2.2.2.2.2.2.2.2.2.2.2.1) b, cell_keep (h.2.2.2.2.2.2.2.2.2.2.2.2.2.1) b, cell_keep (h.2.2.2.2.2.2.2.2.2.2.2.2.2.2) b⟩

/-- the three boxes of the law -/
theorem law_boxes (d : PlanD) (r : RefD) (t : TabD) (w : World) :
    ∃ W3 s s1 s2, W3 = (((w.alloc d.box).alloc (.cells #[.int .i64 r.h, .int .i64 r.f] 31)).alloc t.box) ∧ s = w.heap.size ∧ s1 = w.heap.size + 1 ∧ s2 = w.heap.size + 1 + 1 ∧ (W3.cell? ⟨s, 0, none⟩ = some (.slice d.heads.a d.heads.n d.heads.c) ∧ W3.cell? ⟨s, 1, none⟩ = some (.slice d.mta.a d.mta.n d.mta.c) ∧ W3.cell? ⟨s, 2, none⟩ = some (.slice d.states.a d.states.n d.states.c) ∧ W3.cell? ⟨s, 3, none⟩ = some (.slice d.acts.a d.acts.n d.acts.c) ∧ W3.cell? ⟨s, 4, none⟩ = some (.slice d.tabs.a d.tabs.n d.tabs.c) ∧ W3.cell? ⟨s, 5, none⟩ = some (.slice d.nodes.a d.nodes.n d.nodes.c) ∧ W3.cell? ⟨s, 6, none⟩ = some (.slice d.out.a d.out.n d.out.c) ∧ W3.cell? ⟨s1, 0, none⟩ = some (.int .i64 r.h) ∧ W3.cell? ⟨s1, 1, none⟩ = some (.int .i64 r.f) ∧ W3.cell? ⟨s2, 0, none⟩ = some (.int .i64 t.kind) ∧ W3.cell? ⟨s2, 1, none⟩ = some (.slice t.keys.a t.keys.n t.keys.c) ∧ W3.cell? ⟨s2, 2, none⟩ = some (.slice t.acts.a t.acts.n t.acts.c) ∧ W3.cell? ⟨s2, 3, none⟩ = some (.int .i64 t.cap) ∧ W3.cell? ⟨s2, 4, none⟩ = some (.int .i64 t.dflt) ∧ W3.cell? ⟨s2, 5, none⟩ = some (.slice t.args.a t.args.n t.args.c)) := by
  refine ⟨_, _, _, _, rfl, rfl, rfl, rfl, ?_⟩
  refine ⟨?_, ?_, ?_, ?_, ?_, ?_, ?_, ?_, ?_, ?_, ?_, ?_, ?_, ?_, ?_⟩
  all_goals first
    | exact (World.cell?_alloc_at _ _ _ _ (by simp)).trans rfl
    | exact (World.cell?_alloc_past _ _ _ (by simp)).trans ((World.cell?_alloc_at _ _ _ _ (by simp)).trans rfl)
    | exact (World.cell?_alloc_past _ _ _ (by simp; omega)).trans ((World.cell?_alloc_past _ _ _ (by simp)).trans ((World.cell?_alloc_at _ _ _ _ rfl).trans rfl))

set_option maxHeartbeats 8000000 in
set_option maxRecDepth 20000 in
theorem planwidths_main (d : PlanD) (r : RefD) (aa : Option Addr) (an ac : Nat) (zs : List Int) (t : TabD) (op : Int) (w : World) (hl : d.lie w) (hz : Has .i64 w aa an zs) (hk : QRow 2 RefD.lie w t.keys t.ks) :
    Calls Try.prog 3 #[d.v, .agg #[.int .i64 r.h, .int .i64 r.f], .slice aa an ac, t.v, .int .i64 op] w fun e w' => e = .returned (.bool true) ∧ Below w.heap.size w w' := by
  obtain ⟨W3, s, s1, s2, eW, es, es1, es2, hc⟩ := law_boxes d r t w
  have HB3 : Hid (Below w.heap.size w W3) := by rw [eW]; exact bl_alloc (bl_alloc (bl_alloc (Below.refl _ _)))
  have EW := hid eW
  have E0 := hid es
  have E1 := hid es1
  have E2 := hid es2
  have HL := hid hl
  have HZ := hid hz
  have HK := hid hk
  have HC := hid hc
  have HBG := hid (plan_begun W3)
  clear eW es es1 es2 hl hz hk hc
  go_enter Try.func3, Try.ntmps3
  go_wp2_with fail
  rw [← EW.out, ← E2.out, ← E1.out, ← E0.out]
  refine HBG.out.mono ?_
  rintro e w1 ⟨rfl, hb1⟩
  clear EW E0 E1 E2 HBG
  have HB1 := hid (bl_step HB3.out hb1)
  obtain ⟨z0, z1, z2, z3, z4, z5, z6, z7, z8, z9, z10, z11, z12, z13, z14⟩ := keep15w HC.out hb1
  have HGR := hid (great_any d w1 (HL.out.step HB1.out))
  clear hb1 HB3 HC
  go_wp2_with fail
  refine HGR.out.mono ?_
  rintro e w2 ⟨b, rfl, hb2⟩
  have HB2 := hid (bl_step HB1.out hb2)
  obtain ⟨y0, y1, y2, y3, y4, y5, y6, y7, y8, y9, y10, y11, y12, y13, y14⟩ := keep15w (s := s) (s1 := s1) (s2 := s2) ⟨z0, z1, z2, z3, z4, z5, z6, z7, z8, z9, z10, z11, z12, z13, z14⟩ hb2
  clear hb2 HB1 HGR z0 z1 z2 z3 z4 z5 z6 z7 z8 z9 z10 z11 z12 z13 z14
  have DONE : Hid (∀ w', Below w.heap.size w w' → Ending.returned (Value.bool true) = Ending.returned (.bool true) ∧ Below w.heap.size w w') := fun w' h => ⟨rfl, h⟩
  cases b with
  | true =>
    go_wp2
    go_ret
    exact ⟨rfl, HB2.out⟩
  | false =>
    by_cases h5 : (500 : Int) < (an : Int)
    · have f5 := decide_eq_true h5
      go_wp2
      go_ret
      exact ⟨rfl, HB2.out⟩
    have f5 := decide_eq_false h5
    by_cases h6 : (500 : Int) < (t.keys.n : Int)
    · have f6 := decide_eq_true h6
      go_wp2
      go_ret
      exact ⟨rfl, HB2.out⟩
    have f6 := decide_eq_false h6
    have hn : t.keys.n ≤ 500 := by omega
    have HC6 : Hid (∀ w', Below w2.heap.size w2 w' → Calls Try.prog 6 #[d.v, .agg #[.int .i64 r.h, .int .i64 r.f], .slice aa an ac] w' fun e w'' => e = .returned (.int .i64 (widthC d r.h r.f zs)) ∧ Below w'.heap.size w' w'') := fun w' h => width_any d r.h r.f aa an ac zs w' (HL.out.step (bl_step HB2.out h)) (HZ.out.step (bl_step HB2.out h))
    have HC7 : Hid (∀ w', Below w2.heap.size w2 w' → Calls Try.prog 7 #[d.v, .agg #[.int .i64 r.h, .int .i64 r.f], .slice aa an ac] w' fun e w'' => e = .returned (.int .i64 (widthC d r.h r.f zs)) ∧ Below w'.heap.size w' w'') := fun w' h => widthOf_any d r.h r.f aa an ac zs w' (HL.out.step (bl_step HB2.out h)) (HZ.out.step (bl_step HB2.out h))
    have HC9 : Hid (∀ w', Below w2.heap.size w2 w' → Calls Try.prog 9 #[d.v, t.v] w' (WidthsDone w' (widthsL d t.ks))) := fun w' h => widths_any d t w' (HL.out.step (bl_step HB2.out h)) (HK.out.step RefD.keeps (bl_step HB2.out h)) hn
    have HC10 : Hid (∀ w', Below w2.heap.size w2 w' → Calls Try.prog 10 #[d.v, t.v] w' (WidthsDone w' (widthsL d t.ks))) := fun w' h => widthsOf_any d t w' (HL.out.step (bl_step HB2.out h)) (HK.out.step RefD.keeps (bl_step HB2.out h)) hn
    have HLN : Hid ((widthsL d t.ks).length ≤ 1000) := by show (widthsL d t.ks).length ≤ 1000; rw [widthsL, List.length_map, HK.out.1]; omega
    generalize widthC d r.h r.f zs = X at *
    generalize widthsL d t.ks = L at *
    have HCUR := hid (Below.refl w2.heap.size w2).drew
    clear HL HZ HK h5 h6 DONE hn
    go_wp2_with fail
    go_region_held3 (fun w' => w'.cell? ⟨s, 0, none⟩ = some (.slice d.heads.a d.heads.n d.heads.c) ∧ w'.cell? ⟨s, 1, none⟩ = some (.slice d.mta.a d.mta.n d.mta.c) ∧ w'.cell? ⟨s, 2, none⟩ = some (.slice d.states.a d.states.n d.states.c) ∧ w'.cell? ⟨s, 3, none⟩ = some (.slice d.acts.a d.acts.n d.acts.c) ∧ w'.cell? ⟨s, 4, none⟩ = some (.slice d.tabs.a d.tabs.n d.tabs.c) ∧ w'.cell? ⟨s, 5, none⟩ = some (.slice d.nodes.a d.nodes.n d.nodes.c) ∧ w'.cell? ⟨s, 6, none⟩ = some (.slice d.out.a d.out.n d.out.c) ∧ w'.cell? ⟨s1, 0, none⟩ = some (.int .i64 r.h) ∧ w'.cell? ⟨s1, 1, none⟩ = some (.int .i64 r.f) ∧ w'.cell? ⟨s2, 0, none⟩ = some (.int .i64 t.kind) ∧ w'.cell? ⟨s2, 1, none⟩ = some (.slice t.keys.a t.keys.n t.keys.c) ∧ w'.cell? ⟨s2, 2, none⟩ = some (.slice t.acts.a t.acts.n t.acts.c) ∧ w'.cell? ⟨s2, 3, none⟩ = some (.int .i64 t.cap) ∧ w'.cell? ⟨s2, 4, none⟩ = some (.int .i64 t.dflt) ∧ w'.cell? ⟨s2, 5, none⟩ = some (.slice t.args.a t.args.n t.args.c))
      (first
        | go_keep
        | (go_split_ands
           exact keep15w ⟨by assumption, by assumption, by assumption, by assumption, by assumption, by assumption, by assumption, by assumption, by assumption, by assumption, by assumption, by assumption, by assumption, by assumption, by assumption⟩ hbx))
      (first
        | (go_at_call 6; refine (HC6.out _ HCUR.out).mono ?_; rintro e wx ⟨rfl, hbx⟩; have HCUR := hid (bl_step HCUR.out hbx))
        | (go_at_call 7; refine (HC7.out _ HCUR.out).mono ?_; rintro e wx ⟨rfl, hbx⟩; have HCUR := hid (bl_step HCUR.out hbx))
        | (go_at_call 9; refine (HC9.out _ HCUR.out).mono ?_; rintro e wx ⟨a1, c1, rfl, _, hL1, hbx⟩; have HL1 := hid hL1; clear hL1; have HCUR := hid (bl_step HCUR.out hbx))
        | (go_at_call 10; refine (HC10.out _ HCUR.out).mono ?_; rintro e wx ⟨a2, c2, rfl, _, hL2, hbx⟩; have HL2 := hid hL2; clear hL2; have HL1 := hid (HL1.out.step hbx); have HCUR := hid (bl_step HCUR.out hbx))
        | (go_at_call 8; refine (qsame_below _ _ HLN.out HL1.out HL2.out).mono ?_; rintro e wx ⟨rfl, hbx⟩; have HCUR := hid (bl_step HCUR.out hbx))
        | (go_at_call 11; refine (takes_any _ _).mono ?_; rintro e wx ⟨rfl, rfl⟩)
        | (go_at_call 12; refine (takesOf_any _ _).mono ?_; rintro e wx ⟨rfl, hbx⟩; have HCUR := hid (bl_step HCUR.out hbx)))
    all_goals
      have HE := hid (bl_step HB2.out HCUR.out)
      clear HCUR HC6 HC7 HC9 HC10
      go_wp2
      go_ret
      exact ⟨rfl, HE.out⟩
end Go.Proofs.Ytlnkfgdepddmlad
