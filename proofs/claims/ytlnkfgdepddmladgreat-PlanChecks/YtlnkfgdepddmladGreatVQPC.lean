/- The walk of the law PlanChecks. -/
import Derived.Test.YtlnkfgdepddmladGreatVQForm
import Derived.Test.YtlnkfgdepddmladGreatVQOwn2
import Derived.Test.YtlnkfgdepddmladGreatVQSame5
import Derived.Test.YtlnkfgdepddmladGreatVQDup2
import Derived.Test.YtlnkfgdepddmladGreatVQBegun
namespace Go.Proofs.YtlnkfgdepddmladGreat
open Go.RowKit

/-- no list of it is beyond what a copy takes -/
theorem fits_of {d : PlanD} {w : World} (hl : d.lie w) (h : d.p.little) : d.fits := by
  have mem : ∀ {α β : Type} {L : List α} {f : α → β} {x : α}, x ∈ L → f x ∈ L.map f := fun hx => List.mem_map.2 ⟨_, hx, rfl⟩
  have lie_at : ∀ {α : Type} {k : Nat} {P : α → World → Nat → Nat → Prop} {w : World} {s : QSl} {S : List α}, QRow k P w s S → ∀ y ∈ S, ∃ g o, P y w g o := fun h y hy => by
    obtain ⟨i, hi, rfl⟩ := List.getElem_of_mem hy
    obtain ⟨g, off, _, hp⟩ := h.2 i _ (List.getElem?_eq_getElem hi)
    exact ⟨g, _, hp⟩
  refine ⟨⟨?_, fun x hx => ?_⟩, ?_, ⟨?_, fun x hx => ?_⟩, ⟨?_, fun x hx => ?_⟩, ⟨?_, fun x hx => ?_⟩, ⟨?_, fun x hx => ?_⟩, ?_⟩
  · have := h.hs; simp [PlanD.p, hl.hs.1] at this; omega
  · obtain ⟨g, o, hp⟩ := lie_at hl.hs x hx
    have : x.ws.length ≤ 500 := h.hw _ (mem hx)
    have e := hp.2.1
    omega
  · have := h.ms; simp [PlanD.p, hl.ms.1] at this; omega
  · have := h.ss; simp [PlanD.p, hl.ss.1] at this; omega
  · obtain ⟨g, o, hp⟩ := lie_at hl.ss x hx
    have : x.cs.length ≤ 500 := h.sc _ (mem hx)
    have e := hp.2.2.2.2.2.1
    omega
  · have := h.al; simp [PlanD.p, hl.al.1] at this; omega
  · obtain ⟨g, o, hp⟩ := lie_at hl.al x hx
    have h1 := h.aw _ (mem hx)
    have h2 : x.ws.length ≤ 500 := h1.1
    have h3 : (x.os.map OpD.p).length ≤ 50 := h1.2
    rw [List.length_map] at h3
    have e := hp.2.2.1.1
    have e2 := hp.2.2.2.1
    refine ⟨by omega, by omega, fun y hy => ?_⟩
    obtain ⟨g', o', hp'⟩ := lie_at hp.2.2.2 y hy
    have : y.es.length ≤ 500 := h.ae _ (mem hx) _ (mem hy)
    have e3 := hp'.2.2.2.2.2.1
    omega
  · have := h.ts; simp [PlanD.p, hl.ts.1] at this; omega
  · obtain ⟨g, o, hp⟩ := lie_at hl.ts x hx
    have h1 := h.tl _ (mem hx)
    have h2 : x.ks.length ≤ 500 := h1.1
    have h3 : x.al.length ≤ 500 := h1.2.1
    have h4 : x.zs.length ≤ 500 := h1.2.2
    have e := hp.2.2.2.2.2.2.1.1
    have e2 := hp.2.2.2.2.2.2.2.1.1
    have e3 := hp.2.2.2.2.2.2.2.2.1
    omega
  · have := h.ns; simp [PlanD.p, hl.ns.1] at this; omega
  · obtain ⟨g, o, hp⟩ := lie_at hl.ns x hx
    have : x.es.length ≤ 500 := h.ne _ (mem hx)
    have e := hp.2.2.2.2.2.1
    omega
  · have := h.os; simp [PlanD.p, hl.os.1] at this; omega

theorem form_told (d : PlanD) (w : World) (hl : d.lie w) (hm : d.p.little) : Calls Tryz.prog 22 #[d.v] w fun e w' => e = .returned (.agg #[.int .i64 (chkP d.p).1, .int .i64 (chkP d.p).2]) ∧ Below w.heap.size w w' :=
  (form_any d w hl hm).mono fun e w' ⟨C, A, hC, he, hb⟩ => by
    obtain ⟨rfl, rfl⟩ := chk_is hl hC
    exact ⟨he, hb⟩

theorem pkeep14 {w w' : World} {s t : Nat} {v0 v1 v2 v3 v4 v5 v6 u0 u1 u2 u3 u4 u5 u6 : Value} (h : w.cell? ⟨s, 0, none⟩ = some v0 ∧ w.cell? ⟨s, 1, none⟩ = some v1 ∧ w.cell? ⟨s, 2, none⟩ = some v2 ∧ w.cell? ⟨s, 3, none⟩ = some v3 ∧ w.cell? ⟨s, 4, none⟩ = some v4 ∧ w.cell? ⟨s, 5, none⟩ = some v5 ∧ w.cell? ⟨s, 6, none⟩ = some v6 ∧ w.cell? ⟨t, 0, none⟩ = some u0 ∧ w.cell? ⟨t, 1, none⟩ = some u1 ∧ w.cell? ⟨t, 2, none⟩ = some u2 ∧ w.cell? ⟨t, 3, none⟩ = some u3 ∧ w.cell? ⟨t, 4, none⟩ = some u4 ∧ w.cell? ⟨t, 5, none⟩ = some u5 ∧ w.cell? ⟨t, 6, none⟩ = some u6) (b : Below w.heap.size w w') : w'.cell? ⟨s, 0, none⟩ = some v0 ∧ w'.cell? ⟨s, 1, none⟩ = some v1 ∧ w'.cell? ⟨s, 2, none⟩ = some v2 ∧ w'.cell? ⟨s, 3, none⟩ = some v3 ∧ w'.cell? ⟨s, 4, none⟩ = some v4 ∧ w'.cell? ⟨s, 5, none⟩ = some v5 ∧ w'.cell? ⟨s, 6, none⟩ = some v6 ∧ w'.cell? ⟨t, 0, none⟩ = some u0 ∧ w'.cell? ⟨t, 1, none⟩ = some u1 ∧ w'.cell? ⟨t, 2, none⟩ = some u2 ∧ w'.cell? ⟨t, 3, none⟩ = some u3 ∧ w'.cell? ⟨t, 4, none⟩ = some u4 ∧ w'.cell? ⟨t, 5, none⟩ = some u5 ∧ w'.cell? ⟨t, 6, none⟩ = some u6 :=
  ⟨cell_keep h.1 b, cell_keep h.2.1 b, cell_keep h.2.2.1 b, cell_keep h.2.2.2.1 b, cell_keep h.2.2.2.2.1 b, cell_keep h.2.2.2.2.2.1 b, cell_keep h.2.2.2.2.2.2.1 b, cell_keep h.2.2.2.2.2.2.2.1 b, cell_keep h.2.2.2.2.2.2.2.2.1 b, cell_keep h.2.2.2.2.2.2.2.2.2.1 b, cell_keep h.2.2.2.2.2.2.2.2.2.2.1 b, cell_keep h.2.2.2.2.2.2.2.2.2.2.2.1 b, cell_keep h.2.2.2.2.2.2.2.2.2.2.2.2.1 b, cell_keep h.2.2.2.2.2.2.2.2.2.2.2.2.2 b⟩

set_option maxHeartbeats 16000000 in
set_option maxRecDepth 20000 in
theorem planchecks_main (d : PlanD) (w : World) (hl : d.lie w) (h0 : d.nil0) : Calls Tryz.prog 4 #[d.v] w fun e w' => e = .returned (.bool true) ∧ Below w.heap.size w w' := by
  obtain ⟨W1, hW⟩ : ∃ W1, W1 = w.alloc d.box := ⟨_, rfl⟩
  obtain ⟨s, hs⟩ : ∃ s, s = w.heap.size := ⟨_, rfl⟩
  have hc : W1.cell? ⟨s, 0, none⟩ = some (.slice d.heads.a d.heads.n d.heads.c) ∧ W1.cell? ⟨s, 1, none⟩ = some (.slice d.mta.a d.mta.n d.mta.c) ∧ W1.cell? ⟨s, 2, none⟩ = some (.slice d.states.a d.states.n d.states.c) ∧ W1.cell? ⟨s, 3, none⟩ = some (.slice d.acts.a d.acts.n d.acts.c) ∧ W1.cell? ⟨s, 4, none⟩ = some (.slice d.tabs.a d.tabs.n d.tabs.c) ∧ W1.cell? ⟨s, 5, none⟩ = some (.slice d.nodes.a d.nodes.n d.nodes.c) ∧ W1.cell? ⟨s, 6, none⟩ = some (.slice d.out.a d.out.n d.out.c) := by rw [hW, hs]; refine ⟨?_, ?_, ?_, ?_, ?_, ?_, ?_⟩ <;> exact (World.cell?_alloc_at _ _ _ _ rfl).trans rfl
  have HB0 : Hid (Below w.heap.size w W1) := by rw [hW]; exact bl_alloc (Below.refl _ _)
  have EW := hid hW
  have ES := hid hs
  have HL := hid hl
  have H0 := hid h0
  have HC := hid hc
  have HBG := hid (plan_begun W1)
  clear hW hs hc hl h0
  go_enter Tryz.func4, Tryz.ntmps4
  go_wp2_with fail
  rw [← EW.out, ← ES.out]
  refine HBG.out.mono ?_
  rintro e w1 ⟨rfl, hb1⟩
  clear EW ES HBG
  have HB1 := hid (bl_step HB0.out hb1)
  have HC1 := hid (keep7 HC.out hb1)
  obtain ⟨z0, z1, z2, z3, z4, z5, z6⟩ := keep7 HC.out hb1
  have HGR := hid (great_told d w1 (HL.out.step HB1.out))
  clear hb1 HB0 HC
  go_wp2_with fail
  refine HGR.out.mono ?_
  rintro e w2 ⟨b, rfl, hg, hb2⟩
  have HB2 := hid (bl_step HB1.out hb2)
  have HC2 := hid (keep7 HC1.out hb2)
  have HG := hid hg
  clear hb2 HB1 HGR z0 z1 z2 z3 z4 z5 z6 hg HC1
  obtain ⟨z0, z1, z2, z3, z4, z5, z6⟩ := HC2.out
  cases b with
  | true =>
    go_wp2
    go_ret
    exact ⟨rfl, HB2.out⟩
  | false =>
    have hlit := HG.out rfl
    have HD := hid (dup_plan d w2 (HL.out.step HB2.out) H0.out (fits_of HL.out hlit))
    have HLT := hid hlit
    clear hlit HG
    go_wp2_with fail
    refine HD.out.mono ?_
    rintro e w3 ⟨d1, rfl, hl1, h01, hp1, hb3⟩
    have HB3 := hid (bl_step HB2.out hb3)
    have HC3 := hid (keep7 HC2.out hb3)
    obtain ⟨W4, hW4⟩ : ∃ W4, W4 = w3.alloc d1.box := ⟨_, rfl⟩
    obtain ⟨t, ht⟩ : ∃ t, t = w3.heap.size := ⟨_, rfl⟩
    have B4 : Hid (Below w3.heap.size w3 W4) := by rw [hW4]; exact bl_alloc (Below.refl _ _)
    have hy : W4.cell? ⟨t, 0, none⟩ = some (.slice d1.heads.a d1.heads.n d1.heads.c) ∧ W4.cell? ⟨t, 1, none⟩ = some (.slice d1.mta.a d1.mta.n d1.mta.c) ∧ W4.cell? ⟨t, 2, none⟩ = some (.slice d1.states.a d1.states.n d1.states.c) ∧ W4.cell? ⟨t, 3, none⟩ = some (.slice d1.acts.a d1.acts.n d1.acts.c) ∧ W4.cell? ⟨t, 4, none⟩ = some (.slice d1.tabs.a d1.tabs.n d1.tabs.c) ∧ W4.cell? ⟨t, 5, none⟩ = some (.slice d1.nodes.a d1.nodes.n d1.nodes.c) ∧ W4.cell? ⟨t, 6, none⟩ = some (.slice d1.out.a d1.out.n d1.out.c) := by rw [hW4, ht]; refine ⟨?_, ?_, ?_, ?_, ?_, ?_, ?_⟩ <;> exact (World.cell?_alloc_at _ _ _ _ rfl).trans rfl
    have HB4 := hid (bl_step HB3.out B4.out)
    have hl4 := hl1.step B4.out
    have hlit1 : d1.p.little := by rw [hp1]; exact HLT.out
    have HCK : Hid (∀ w', Below W4.heap.size W4 w' → Calls Tryz.prog 21 #[d1.v] w' fun e w'' => e = .returned (.agg #[.int .i64 (chkP d.p).1, .int .i64 (chkP d.p).2]) ∧ Below w'.heap.size w' w'') := fun w' h => by
      have := check_told d1 w' (hl4.step h) (small_of (hl4.step h) hlit1)
      rw [hp1] at this
      exact this
    have HFF : Hid (∀ w', Below W4.heap.size W4 w' → Calls Tryz.prog 22 #[d.v] w' fun e w'' => e = .returned (.agg #[.int .i64 (chkP d.p).1, .int .i64 (chkP d.p).2]) ∧ Below w'.heap.size w' w'') := fun w' h => form_told d w' (HL.out.step (bl_step HB4.out h)) HLT.out
    have HS1 : Hid (∀ w', Below W4.heap.size W4 w' → Calls Tryz.prog 23 #[d1.v, d.v, .bool false] w' (Yes w')) := fun w' h => samePlan_any false d1 d w' (hl4.step h) (HL.out.step (bl_step HB4.out h)) (by rw [hp1]; exact eqplan_refl _ _) hlit1
    have HOW : Hid (∀ w', Below W4.heap.size W4 w' → Calls Tryz.prog 24 #[d1.v] w' (PlanDone d1 w')) := fun w' h => own_plan d1 w' (hl4.step h) h01 (fits_of hl1 hlit1)
    have HS2 : Hid (∀ (d2 : PlanD) w', Below W4.heap.size W4 w' → d2.lie w' → d2.p = d1.p → Calls Tryz.prog 23 #[d2.v, d.v, .bool false] w' (Yes w')) := fun d2 w' h h2 hp2 => samePlan_any false d2 d w' h2 (HL.out.step (bl_step HB4.out h)) (by rw [hp2, hp1]; exact eqplan_refl _ _) (by rw [hp2]; exact hlit1)
    obtain ⟨z0, z1, z2, z3, z4, z5, z6⟩ := keep7 HC3.out B4.out
    obtain ⟨y0, y1, y2, y3, y4, y5, y6⟩ := hy
    generalize (chkP d.p).1 = CC at *
    generalize (chkP d.p).2 = AA at *
    have HCUR := hid (Below.refl W4.heap.size W4).drew
    have EW4 := hid hW4
    have ET := hid ht
    clear hl1 h01 hp1 hb3 hl4 hlit1 hW4 ht HD HC2 HC3 B4
    go_wp2_with fail
    rw [← EW4.out, ← ET.out]
    clear EW4 ET
    go_region_held3 (fun w' => w'.cell? ⟨s, 0, none⟩ = some (.slice d.heads.a d.heads.n d.heads.c) ∧ w'.cell? ⟨s, 1, none⟩ = some (.slice d.mta.a d.mta.n d.mta.c) ∧ w'.cell? ⟨s, 2, none⟩ = some (.slice d.states.a d.states.n d.states.c) ∧ w'.cell? ⟨s, 3, none⟩ = some (.slice d.acts.a d.acts.n d.acts.c) ∧ w'.cell? ⟨s, 4, none⟩ = some (.slice d.tabs.a d.tabs.n d.tabs.c) ∧ w'.cell? ⟨s, 5, none⟩ = some (.slice d.nodes.a d.nodes.n d.nodes.c) ∧ w'.cell? ⟨s, 6, none⟩ = some (.slice d.out.a d.out.n d.out.c) ∧ w'.cell? ⟨t, 0, none⟩ = some (.slice d1.heads.a d1.heads.n d1.heads.c) ∧ w'.cell? ⟨t, 1, none⟩ = some (.slice d1.mta.a d1.mta.n d1.mta.c) ∧ w'.cell? ⟨t, 2, none⟩ = some (.slice d1.states.a d1.states.n d1.states.c) ∧ w'.cell? ⟨t, 3, none⟩ = some (.slice d1.acts.a d1.acts.n d1.acts.c) ∧ w'.cell? ⟨t, 4, none⟩ = some (.slice d1.tabs.a d1.tabs.n d1.tabs.c) ∧ w'.cell? ⟨t, 5, none⟩ = some (.slice d1.nodes.a d1.nodes.n d1.nodes.c) ∧ w'.cell? ⟨t, 6, none⟩ = some (.slice d1.out.a d1.out.n d1.out.c))
      (first
        | go_keep
        | (go_split_ands
           exact pkeep14 ⟨by assumption, by assumption, by assumption, by assumption, by assumption, by assumption, by assumption, by assumption, by assumption, by assumption, by assumption, by assumption, by assumption, by assumption⟩ hbx))
      (first
        | (go_at_call 21; refine (HCK.out _ HCUR.out).mono ?_; rintro e wx ⟨rfl, hbx⟩; have HCUR := hid (bl_step HCUR.out hbx))
        | (go_at_call 22; refine (HFF.out _ HCUR.out).mono ?_; rintro e wx ⟨rfl, hbx⟩; have HCUR := hid (bl_step HCUR.out hbx))
        | (go_at_call 23; (with_reducible refine (HS1.out _ HCUR.out).mono ?_); rintro e wx ⟨rfl, hbx⟩; have HCUR := hid (bl_step HCUR.out hbx))
        | (go_at_call 24; refine (HOW.out _ HCUR.out).mono ?_; rintro e wx ⟨d2, rfl, hl2, _, hp2, hbx⟩; have HCUR := hid (bl_step HCUR.out hbx); have HL2 := hid hl2; have HP2 := hid hp2; clear hl2 hp2)
        | (go_at_call 23; (with_reducible refine (HS2.out d2 _ HCUR.out HL2.out HP2.out).mono ?_); rintro e wx ⟨rfl, hbx⟩; have HCUR := hid (bl_step HCUR.out hbx)))
    all_goals
      have HE := hid (bl_step HB4.out HCUR.out)
      clear HCUR HCK HFF HS1 HOW HS2
      go_wp2
      go_ret
      exact ⟨rfl, HE.out⟩
end Go.Proofs.YtlnkfgdepddmladGreat
