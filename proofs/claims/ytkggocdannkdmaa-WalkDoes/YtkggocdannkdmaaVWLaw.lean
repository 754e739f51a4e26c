/- The walk of the law WalkDoes. -/
import Derived.Test.YtkggocdannkdmaaVWTwo
import Derived.Test.YtkggocdannkdmaaVWOf1
import Derived.Test.YtkggocdannkdmaaVQPC
namespace Go.Proofs.Ytkggocdannkdmaa
open Go.RowKit

theorem walkis_one {p : PPlan} {C A C' A' : Int} (h : WalkIs p C A) (h' : WalkIs p C' A') : C = C' ∧ A = A' := by
  rcases h with ⟨h0, rfl, rfl⟩ | ⟨h0, hf⟩
  · rcases h' with ⟨_, rfl, rfl⟩ | ⟨h1, _⟩
    · exact ⟨rfl, rfl⟩
    · exact absurd h1 h0
  · rcases h' with ⟨h1, _⟩ | ⟨_, hf'⟩
    · exact absurd h0 h1
    · exact firstW_one hf hf'

set_option maxHeartbeats 16000000 in
set_option maxRecDepth 20000 in
theorem walkdoes_main (d : PlanD) (w : World) (hl : d.lie w) (h0 : d.nil0) : Calls Try.prog 3 #[d.v] w fun e w' => e = .returned (.bool true) ∧ Below w.heap.size w w' := by
  obtain ⟨W1, hW⟩ : ∃ W1, W1 = w.alloc d.box := ⟨_, rfl⟩
  obtain ⟨s, hs⟩ : ∃ s, s = w.heap.size := ⟨_, rfl⟩
  have hc : W1.cell? ⟨s, 0, none⟩ = some (.slice d.heads.a d.heads.n d.heads.c) ∧ W1.cell? ⟨s, 1, none⟩ = some (.slice d.mta.a d.mta.n d.mta.c) ∧ W1.cell? ⟨s, 2, none⟩ = some (.slice d.states.a d.states.n d.states.c) ∧ W1.cell? ⟨s, 3, none⟩ = some (.slice d.acts.a d.acts.n d.acts.c) ∧ W1.cell? ⟨s, 4, none⟩ = some (.slice d.tabs.a d.tabs.n d.tabs.c) ∧ W1.cell? ⟨s, 5, none⟩ = some (.slice d.nodes.a d.nodes.n d.nodes.c) ∧ W1.cell? ⟨s, 6, none⟩ = some (.slice d.out.a d.out.n d.out.c) := by rw [hW, hs]; refine ⟨?_, ?_, ?_, ?_, ?_, ?_, ?_⟩ <;> exact (World.cell?_alloc_at _ _ _ _ rfl).trans rfl
  have HB0 : Hid (Below w.heap.size w W1) := by rw [hW]; exact bl_alloc (Below.refl _ _)
  have EW := hid hW
  have ES := hid hs
  have HL := hid hl
  have H0 := hid h0
  have HC := hid hc
  have HBG := hid (walk_begun W1)
  clear hW hs hc hl h0
  go_enter Try.func3, Try.ntmps3
  go_wp2_with fail
  rw [← EW.out, ← ES.out]
  refine HBG.out.mono ?_
  rintro e w1 ⟨rfl, hb1⟩
  clear EW ES HBG
  have HB1 := hid (bl_step HB0.out hb1)
  have HC1 := hid (keep7 HC.out hb1)
  obtain ⟨z0, z1, z2, z3, z4, z5, z6⟩ := keep7 HC.out hb1
  have HGR := hid (great_told d w1 (HL.out.step HB1.out))
  clear hb1 HB0 HC
  go_wp2_with fail
  refine HGR.out.mono ?_
  rintro e w2 ⟨b, rfl, hg, hb2⟩
  have HB2 := hid (bl_step HB1.out hb2)
  have HC2 := hid (keep7 HC1.out hb2)
  have HG := hid hg
  clear hb2 HB1 HGR z0 z1 z2 z3 z4 z5 z6 hg HC1
  obtain ⟨z0, z1, z2, z3, z4, z5, z6⟩ := HC2.out
  cases b with
  | true =>
    go_wp2
    go_ret
    exact ⟨rfl, HB2.out⟩
  | false =>
    have hlit := HG.out rfl
    have HD := hid (dup_plan d w2 (HL.out.step HB2.out) H0.out (fits_of HL.out hlit))
    have HLT := hid hlit
    clear hlit HG
    go_wp2_with fail
    refine HD.out.mono ?_
    rintro e w3 ⟨d1, rfl, hl1, h01, hp1, hb3⟩
    have HB3 := hid (bl_step HB2.out hb3)
    have HC3 := hid (keep7 HC2.out hb3)
    obtain ⟨W4, hW4⟩ : ∃ W4, W4 = w3.alloc d1.box := ⟨_, rfl⟩
    obtain ⟨t, ht⟩ : ∃ t, t = w3.heap.size := ⟨_, rfl⟩
    have B4 : Hid (Below w3.heap.size w3 W4) := by rw [hW4]; exact bl_alloc (Below.refl _ _)
    have hy : W4.cell? ⟨t, 0, none⟩ = some (.slice d1.heads.a d1.heads.n d1.heads.c) ∧ W4.cell? ⟨t, 1, none⟩ = some (.slice d1.mta.a d1.mta.n d1.mta.c) ∧ W4.cell? ⟨t, 2, none⟩ = some (.slice d1.states.a d1.states.n d1.states.c) ∧ W4.cell? ⟨t, 3, none⟩ = some (.slice d1.acts.a d1.acts.n d1.acts.c) ∧ W4.cell? ⟨t, 4, none⟩ = some (.slice d1.tabs.a d1.tabs.n d1.tabs.c) ∧ W4.cell? ⟨t, 5, none⟩ = some (.slice d1.nodes.a d1.nodes.n d1.nodes.c) ∧ W4.cell? ⟨t, 6, none⟩ = some (.slice d1.out.a d1.out.n d1.out.c) := by rw [hW4, ht]; refine ⟨?_, ?_, ?_, ?_, ?_, ?_, ?_⟩ <;> exact (World.cell?_alloc_at _ _ _ _ rfl).trans rfl
    have HB4 := hid (bl_step HB3.out B4.out)
    have hl4 := hl1.step B4.out
    have hlit1 : d1.p.little := by rw [hp1]; exact HLT.out
    have HWK : Hid (∀ w', Below W4.heap.size W4 w' → Calls Try.prog 8 #[d1.v] w' (WalkDone d.p w')) := fun w' h => by
      have := walk_any d1 w' (hl4.step h) (small_of (hl4.step h) hlit1)
      rw [hp1] at this
      exact this
    have HOF : Hid (∀ w', Below W4.heap.size W4 w' → Calls Try.prog 9 #[d.v] w' (WalkDone d.p w')) := fun w' h => walkof_any d w' (HL.out.step (bl_step HB4.out h)) HLT.out
    have HS1 : Hid (∀ w', Below W4.heap.size W4 w' → Calls Try.prog 10 #[d1.v, d.v, .bool false] w' (Yes w')) := fun w' h => samePlan_any false d1 d w' (hl4.step h) (HL.out.step (bl_step HB4.out h)) (by rw [hp1]; exact eqplan_refl _ _) hlit1
    have HZY : Hid ((W4.cell? ⟨s, 0, none⟩ = some (.slice d.heads.a d.heads.n d.heads.c) ∧ W4.cell? ⟨s, 1, none⟩ = some (.slice d.mta.a d.mta.n d.mta.c) ∧ W4.cell? ⟨s, 2, none⟩ = some (.slice d.states.a d.states.n d.states.c) ∧ W4.cell? ⟨s, 3, none⟩ = some (.slice d.acts.a d.acts.n d.acts.c) ∧ W4.cell? ⟨s, 4, none⟩ = some (.slice d.tabs.a d.tabs.n d.tabs.c) ∧ W4.cell? ⟨s, 5, none⟩ = some (.slice d.nodes.a d.nodes.n d.nodes.c) ∧ W4.cell? ⟨s, 6, none⟩ = some (.slice d.out.a d.out.n d.out.c)) ∧ (W4.cell? ⟨t, 0, none⟩ = some (.slice d1.heads.a d1.heads.n d1.heads.c) ∧ W4.cell? ⟨t, 1, none⟩ = some (.slice d1.mta.a d1.mta.n d1.mta.c) ∧ W4.cell? ⟨t, 2, none⟩ = some (.slice d1.states.a d1.states.n d1.states.c) ∧ W4.cell? ⟨t, 3, none⟩ = some (.slice d1.acts.a d1.acts.n d1.acts.c) ∧ W4.cell? ⟨t, 4, none⟩ = some (.slice d1.tabs.a d1.tabs.n d1.tabs.c) ∧ W4.cell? ⟨t, 5, none⟩ = some (.slice d1.nodes.a d1.nodes.n d1.nodes.c) ∧ W4.cell? ⟨t, 6, none⟩ = some (.slice d1.out.a d1.out.n d1.out.c))) := ⟨keep7 HC3.out B4.out, hy⟩
    obtain ⟨y0, y1, y2, y3, y4, y5, y6⟩ := HZY.out.2
    have EW4 := hid hW4
    have ET := hid ht
    have HK1 := hid (HWK.out W4 (Below.refl _ _))
    clear hl1 h01 hp1 hb3 hl4 hlit1 hW4 ht HD HC2 HC3 B4 hy z0 z1 z2 z3 z4 z5 z6 HWK
    go_wp2_with fail
    rw [← EW4.out, ← ET.out]
    refine HK1.out.mono ?_
    rintro e w5 ⟨C, A, sa, sn, sc, rfl, hi, hne, hro, hb5⟩
    clear EW4 ET HK1 y0 y1 y2 y3 y4 y5 y6
    obtain ⟨f5, hf5⟩ : ∃ f5, f5 = w5.heap.size := ⟨_, rfl⟩
    obtain ⟨W6, hW6⟩ : ∃ W6, W6 = w5.alloc (.cells #[.int .i64 C, .int .i64 A] 35) := ⟨_, rfl⟩
    have b6 : Below w5.heap.size w5 W6 := by rw [hW6]; exact bl_alloc (Below.refl _ _)
    have HB6 := hid (bl_step hb5 b6)
    have g0 : W6.cell? ⟨f5, 0, none⟩ = some (.int .i64 C) := by rw [hW6, hf5]; exact (World.cell?_alloc_at _ _ _ _ rfl).trans rfl
    have g1 : W6.cell? ⟨f5, 1, none⟩ = some (.int .i64 A) := by rw [hW6, hf5]; exact (World.cell?_alloc_at _ _ _ _ rfl).trans rfl
    have HK2 := hid (HOF.out W6 HB6.out)
    have EW6 := hid hW6
    have EF5 := hid hf5
    have HI := hid hi
    have HNE := hid hne
    have HRO : Hid (∀ h : (chkP d.p).1 = 0, C = 0 → SetsRow W6 sa sn (APp d.p h d.p.ss.length)) := fun h hc => (hro h hc).step b6
    obtain ⟨z0, z1, z2, z3, z4, z5, z6⟩ := keep7 HZY.out.1 HB6.out
    have G0 := hid g0
    have G1 := hid g1
    clear hi hne hro hb5 b6 hW6 hf5 HOF g0 g1
    rw [EW6.out] at z0 z1 z2 z3 z4 z5 z6
    go_wp2_with fail
    rw [← EW6.out, ← EF5.out]
    refine HK2.out.mono ?_
    rintro e w7 ⟨C', A', ta, tn, tc, rfl, hi', hne', hro', hb7⟩
    obtain ⟨rfl, rfl⟩ := walkis_one HI.out hi'
    clear EW6 EF5 HK2 z0 z1 z2 z3 z4 z5 z6 hi'
    obtain ⟨f7, hf7⟩ : ∃ f7, f7 = w7.heap.size := ⟨_, rfl⟩
    obtain ⟨W8, hW8⟩ : ∃ W8, W8 = w7.alloc (.cells #[.int .i64 C, .int .i64 A] 35) := ⟨_, rfl⟩
    have b8 : Below w7.heap.size w7 W8 := by rw [hW8]; exact bl_alloc (Below.refl _ _)
    have b68 : Below W6.heap.size W6 W8 := bl_step hb7 b8
    have hro8 := fun h hc => (hro' h hc).step b8
    obtain ⟨erow, hsn9, HROW⟩ : sn = tn ∧ sn ≤ 9 ∧ Hid (∀ w', Below W8.heap.size W8 w' → ∀ i, i < sn → ∃ ga gb x, sa = some ⟨ga, 0, none⟩ ∧ ta = some ⟨gb, 0, none⟩ ∧ Five w' ga (i * 5) x ∧ Five w' gb (i * 5) x) := by
      by_cases hC : C = 0
      · have h0 : (chkP d.p).1 = 0 := by
          rcases HI.out with ⟨h1, h2, _⟩ | ⟨h, _⟩
          · exact absurd (h2.symm.trans hC) h1
          · exact h
        obtain ⟨l1, ga, e1, r1⟩ := (HRO.out h0 hC).step b68
        obtain ⟨l2, gb, e2, r2⟩ := hro8 h0 hC
        have h9 : (APp d.p h0 d.p.ss.length).length = d.p.ss.length + 1 := (ap_inv h0 (Nat.le_refl _)).1
        have h8 : (d.p.ss.length : Int) ≤ 8 := (chk_zero h0 2 (by decide)).2.1
        refine ⟨l1.symm.trans l2, by omega, fun w' hb i hi => ?_⟩
        have hx : (APp d.p h0 d.p.ss.length)[i]? = some (APp d.p h0 d.p.ss.length)[i] := List.getElem?_eq_getElem (by omega)
        exact ⟨ga, gb, _, e1, e2, (r1 i _ hx).step hb, (r2 i _ hx).step hb⟩
      · obtain ⟨_, h1, _⟩ := HNE.out hC
        obtain ⟨_, h2, _⟩ := hne' hC
        refine ⟨h1.trans h2.symm, by omega, fun w' hb i hi => ?_⟩
        omega
    subst erow
    have HS9 := hid hsn9
    clear hsn9
    have h0' := cell_keep G0.out b68
    have h1' := cell_keep G1.out b68
    have u0 : W8.cell? ⟨f7, 0, none⟩ = some (.int .i64 C) := by rw [hW8, hf7]; exact (World.cell?_alloc_at _ _ _ _ rfl).trans rfl
    have u1 : W8.cell? ⟨f7, 1, none⟩ = some (.int .i64 A) := by rw [hW8, hf7]; exact (World.cell?_alloc_at _ _ _ _ rfl).trans rfl
    have HB8 := hid (bl_step HB6.out b68)
    obtain ⟨z0, z1, z2, z3, z4, z5, z6⟩ := keep7 HZY.out.1 HB8.out
    obtain ⟨y0, y1, y2, y3, y4, y5, y6⟩ := keep7 HZY.out.2 HB8.out
    have HK3 := hid (HS1.out W8 HB8.out)
    have HBW := hid (bl_step HB4.out HB8.out)
    have EW8 := hid hW8
    have EF7 := hid hf7
    clear hro' hne' hb7 b8 b68 hro8 HI HNE HRO hW8 hf7 HB6 HB8 HZY HS1 G0 G1 HL H0 HLT HB2 HB3 HB4
    rw [EW8.out] at z0 z1 z2 z3 z4 z5 z6 y0 y1 y2 y3 y4 y5 y6 h0' h1' u0 u1
    rw [EF7.out] at u0 u1
    go_wp2_with fail
    rw [← EW8.out]
    refine HK3.out.mono ?_
    rintro e w9 ⟨rfl, hb9⟩
    have HB9 := hid hb9
    have HEND : Hid (∀ w', Below w9.heap.size w9 w' → Below w.heap.size w w') := fun w' h => bl_step (bl_step HBW.out hb9) h
    have HRW : Hid (∀ w', Below w9.heap.size w9 w' → ∀ i, i < sn → ∃ ga gb x, sa = some ⟨ga, 0, none⟩ ∧ ta = some ⟨gb, 0, none⟩ ∧ Five w' ga (i * 5) x ∧ Five w' gb (i * 5) x) := fun w' h => HROW.out w' (bl_step hb9 h)
    clear hb9 HB9 HBW HROW EW8 EF7 HK3 z0 z1 z2 z3 z4 z5 z6 y0 y1 y2 y3 y4 y5 y6 h0' h1' u0 u1
    go_wp2
    go_loopw [8] (fun qv wr => ∃ i : Nat, i ≤ sn ∧ qv = .int .i64 i ∧ Hid (Below w9.heap.size w9 wr)) (fun qv _ => sn - (intOf qv).toNat)
    case atStart => exact ⟨0, Nat.zero_le _, rfl, Below.refl _ _⟩
    case round =>
      obtain ⟨i, hi, rfl, HBR⟩ := hrel
      by_cases hlt : i < sn
      · have hiI : (i : Int) < (sn : Int) := by omega
        obtain ⟨ga, gb, x, ea, eb, ⟨a0, a1, a2, a3, a4⟩, ⟨b0, b1, b2, b3, b4⟩⟩ := HRW.out wr HBR.out i hlt
        subst ea
        subst eb
        have p0 := cell_by a0
        have p1 := cell_by a1
        have p2 := cell_by a2
        have p3 := cell_by a3
        have p4 := cell_by a4
        have q0 := cell_by b0
        have q1 := cell_by b1
        have q2 := cell_by b2
        have q3 := cell_by b3
        have q4 := cell_by b4
        have HSN : Hid (i < sn) := hlt
        go_wp2_with fail
        haveI inhB : ∀ w : World, Inhabited (BelowBy w) := fun w => ⟨⟨w, Below.refl _ _⟩⟩
        refine wp_region_quiet_below (by kernel_rfl) (by kernel_rfl) ?_
        repeat (go_big_quiet_step (fail))
        refine wpQuiet_nil ?_
        intro wq hw'
        obtain ⟨⟨_, hwq⟩, hw''⟩ := hw'
        subst hw''
        have RB : Hid (Below w9.heap.size w9 wq) := bl_step HBR.out hwq
        clear HRW HBR hwq p0 p1 p2 p3 p4 q0 q1 q2 q3 q4 a0 a1 a2 a3 a4 b0 b1 b2 b3 b4 inhB
        have hs9 := HS9.out
        go_wp2
        go_roundw
        case rel => exact ⟨i + 1, by omega, by go_num, RB⟩
        case measure => simp [intOf]; omega
      · have hiI : ¬ (i : Int) < (sn : Int) := by omega
        have HX := hid (HEND.out wr HBR.out)
        clear HRW HBR HEND
        go_wp2
        go_ret
        exact ⟨rfl, HX.out⟩
end Go.Proofs.Ytkggocdannkdmaa
