/- Texts of one chain, joined: ZBack. -/
import Derived.Test.YtedeiaokohdhpaaGreatG44
import Derived.Test.YtedeiaokohdhpaaGreatG47
import Derived.Test.YtedeiaokohdhpaaGreatG51
import Derived.Test.YtedeiaokohdhpaaGreatG1
namespace Go.Proofs.YtedeiaokohdhpaaGreat
open Go.RowKit
@[reducible] def ND : PlanD := ⟨⟨none, 0, 0⟩, [], ⟨none, 0, 0⟩, [], ⟨none, 0, 0⟩, [], ⟨none, 0, 0⟩, [], ⟨none, 0, 0⟩, [], ⟨none, 0, 0⟩, [], ⟨none, 0, 0⟩, []⟩
theorem nd_lie (w : World) : ND.lie w := ⟨⟨rfl, by simp⟩, has_nil _ _, ⟨rfl, by simp⟩, ⟨rfl, by simp⟩, ⟨rfl, by simp⟩, ⟨rfl, by simp⟩, has_nil _ _, Nat.le_refl _⟩
theorem nd_little : ND.p.little := ⟨Nat.zero_le _, Nat.zero_le _, Nat.zero_le _, Nat.zero_le _, Nat.zero_le _, Nat.zero_le _, Nat.zero_le _, by simp [PlanD.p], by simp [PlanD.p], by simp [PlanD.p], by simp [PlanD.p], by simp [PlanD.p], by simp [PlanD.p]⟩
theorem tree_le (es : List PushD) : (treeP (some (es.map stepX))).length = es.length := by simp
theorem little_planX {d : PlanD} (h : d.p.little) : (planP (planX d)).little := by
  have mem : ∀ {α β : Type} {L : List α} {f : α → β} {x : α}, x ∈ L → f x ∈ L.map f := fun hx => List.mem_map.2 ⟨_, hx, rfl⟩
  have hos : ∀ o : OpD, (deedP (deedX o)).es.length ≤ o.es.length := fun o => by
    unfold deedX
    (repeat' split) <;> first | exact Nat.le_of_eq (tree_le _) | exact Nat.zero_le _
  have hns : ∀ o : NodeD, (nodeP (nodeX o)).es.length ≤ o.es.length := fun o => by
    unfold nodeX
    (repeat' split) <;> first | exact Nat.le_of_eq (tree_le _) | exact Nat.zero_le _
  have l := h
  obtain ⟨l0, l1, l2, l3, l4, l5, l6, _, _, _, _, _, _⟩ := l
  simp only [PlanD.p, List.length_map] at l0 l1 l2 l3 l4 l5 l6
  refine ⟨by simpa [planX] using l0, l1, by simpa [planX] using l2, by simpa [planX] using l3, by simpa [planX] using l4, by simpa [planX] using l5, l6, ?_, ?_, ?_, ?_, ?_, ?_⟩
  · exact h.hw
  · intro x hx
    obtain ⟨y, hy, rfl⟩ := List.mem_map.1 hx
    obtain ⟨z, hz, rfl⟩ := List.mem_map.1 hy
    have := h.sc _ (mem hz)
    simpa [stateX, StateD.p] using this
  · intro x hx
    obtain ⟨y, hy, rfl⟩ := List.mem_map.1 hx
    obtain ⟨z, hz, rfl⟩ := List.mem_map.1 hy
    have := h.aw _ (mem hz)
    simpa [actX, ActD.p] using this
  · intro x hx o ho
    obtain ⟨y, hy, rfl⟩ := List.mem_map.1 hx
    obtain ⟨z, hz, rfl⟩ := List.mem_map.1 hy
    obtain ⟨o1, ho1, rfl⟩ := List.mem_map.1 ho
    obtain ⟨o2, ho2, rfl⟩ := List.mem_map.1 ho1
    have := h.ae _ (mem hz) _ (mem ho2)
    exact Nat.le_trans (hos o2) this
  · intro x hx
    obtain ⟨y, hy, rfl⟩ := List.mem_map.1 hx
    obtain ⟨z, hz, rfl⟩ := List.mem_map.1 hy
    have := h.tl _ (mem hz)
    simpa [tabX, TabD.p] using this
  · intro x hx
    obtain ⟨y, hy, rfl⟩ := List.mem_map.1 hx
    obtain ⟨z, hz, rfl⟩ := List.mem_map.1 hy
    exact Nat.le_trans (hns z) (h.ne _ (mem hz))
theorem cells7 (w5 : World) (d2 : PlanD) (o : Obj) : (∀ W6, W6 = (w5.alloc (.cells #[.slice d2.heads.a d2.heads.n d2.heads.c, .slice d2.mta.a d2.mta.n d2.mta.c, .slice d2.states.a d2.states.n d2.states.c, .slice d2.acts.a d2.acts.n d2.acts.c, .slice d2.tabs.a d2.tabs.n d2.tabs.c, .slice d2.nodes.a d2.nodes.n d2.nodes.c, .slice d2.out.a d2.out.n d2.out.c] 29)).alloc o → ∀ b, b = w5.heap.size →
    W6.cell? ⟨b, 0, none⟩ = some (.slice d2.heads.a d2.heads.n d2.heads.c) ∧ W6.cell? ⟨b, 1, none⟩ = some (.slice d2.mta.a d2.mta.n d2.mta.c) ∧ W6.cell? ⟨b, 2, none⟩ = some (.slice d2.states.a d2.states.n d2.states.c) ∧ W6.cell? ⟨b, 3, none⟩ = some (.slice d2.acts.a d2.acts.n d2.acts.c) ∧ W6.cell? ⟨b, 4, none⟩ = some (.slice d2.tabs.a d2.tabs.n d2.tabs.c) ∧ W6.cell? ⟨b, 5, none⟩ = some (.slice d2.nodes.a d2.nodes.n d2.nodes.c) ∧ W6.cell? ⟨b, 6, none⟩ = some (.slice d2.out.a d2.out.n d2.out.c)) := by
  rintro W6 rfl b rfl
  refine ⟨?_, ?_, ?_, ?_, ?_, ?_, ?_⟩ <;> exact (World.cell?_alloc_past _ _ _ (by simp)).trans ((World.cell?_alloc_at _ _ _ _ rfl).trans rfl)
set_option maxHeartbeats 16000000 in
set_option maxRecDepth 20000 in
theorem codecback_main (d : PlanD) (a : Option Addr) (n c : Nat) (zs : List Int) (w : World) (hl : d.lie w) (hz : Has .u8 w a n zs) (hnc : n ≤ c) : Calls Tryz.prog 4 #[d.v, .slice a n c] w fun e w' => e = .returned (.bool true) ∧ Below w.heap.size w w' := by
  obtain ⟨W1, hW⟩ : ∃ W1, W1 = w.alloc d.box := ⟨_, rfl⟩
  obtain ⟨s, hs⟩ : ∃ s, s = w.heap.size := ⟨_, rfl⟩
  have hc : W1.cell? ⟨s, 0, none⟩ = some (.slice d.heads.a d.heads.n d.heads.c) ∧ W1.cell? ⟨s, 1, none⟩ = some (.slice d.mta.a d.mta.n d.mta.c) ∧ W1.cell? ⟨s, 2, none⟩ = some (.slice d.states.a d.states.n d.states.c) ∧ W1.cell? ⟨s, 3, none⟩ = some (.slice d.acts.a d.acts.n d.acts.c) ∧ W1.cell? ⟨s, 4, none⟩ = some (.slice d.tabs.a d.tabs.n d.tabs.c) ∧ W1.cell? ⟨s, 5, none⟩ = some (.slice d.nodes.a d.nodes.n d.nodes.c) ∧ W1.cell? ⟨s, 6, none⟩ = some (.slice d.out.a d.out.n d.out.c) := by rw [hW, hs]; refine ⟨?_, ?_, ?_, ?_, ?_, ?_, ?_⟩ <;> exact (World.cell?_alloc_at _ _ _ _ rfl).trans rfl
  have HB0 : Hid (Below w.heap.size w W1) := by rw [hW]; exact bl_alloc (Below.refl _ _)
  have EW := hid hW
  have ES := hid hs
  have HL := hid hl
  have HC := hid hc
  have HZ := hid hz
  have HNC := hid hnc
  have HBY : Hid (∀ z ∈ zs, 0 ≤ z ∧ z < 256) := fun z hz' => by have := bounds_u8 (hz.2.1 z hz'); omega
  have HBG := hid (codec_begun W1)
  have hfd : ∀ (W : World) (x y : Int), (Instr.field 35 (.agg #[.int .i64 x, .int .i64 y]) 0).run Tryz.prog W = .ok (.int .i64 x) W := fun _ _ _ => by kernel_rfl
  clear hW hs hc hl hz hnc
  go_enter Tryz.func4, Tryz.ntmps4
  go_wp2_with fail
  rw [← EW.out, ← ES.out]
  refine HBG.out.mono ?_
  rintro e w1 ⟨rfl, hb1⟩
  clear EW ES HBG
  have HB1 := hid (bl_step HB0.out hb1)
  have HC1 := hid (ekeep7 HC.out hb1)
  obtain ⟨z0, z1, z2, z3, z4, z5, z6⟩ := ekeep7 HC.out hb1
  have HGR := hid (great_told d w1 (HL.out.step HB1.out))
  clear hb1 HB0 HC
  go_wp2_with fail
  refine HGR.out.mono ?_
  rintro e w2 ⟨b, rfl, hg, hb2⟩
  have HB2 := hid (bl_step HB1.out hb2)
  have HC2 := hid (ekeep7 HC1.out hb2)
  have HG := hid hg
  clear hb2 HB1 HGR z0 z1 z2 z3 z4 z5 z6 hg HC1
  obtain ⟨z0, z1, z2, z3, z4, z5, z6⟩ := HC2.out
  cases b with
  | true =>
    go_wp2
    go_ret
    exact ⟨rfl, HB2.out⟩
  | false =>
    have HLT := hid (HG.out rfl)
    clear HG
    by_cases h9 : (9000 : Int) < (n : Int)
    · go_wp2
      go_ret
      exact ⟨rfl, HB2.out⟩
    have HN9 : Hid (n ≤ 9000) := by show n ≤ 9000; omega
    have HEN := hid (encode_little d w2 (HL.out.step HB2.out) HLT.out)
    go_wp2_with fail
    refine HEN.out.mono ?_
    intro e w3 hE
    clear HEN z0 z1 z2 z3 z4 z5 z6
    rcases hE with ⟨hc, rfl, hb3⟩ | ⟨hc, g, cap, rfl, ho, hb3⟩
    · have hne : ((chkP d.p).1 == 0) = false := by simpa using hc
      generalize (chkP d.p).1 = C at *
      generalize (chkP d.p).2 = A at *
      obtain ⟨W4, e4⟩ : ∃ W4, W4 = w3.alloc (.cells #[.int .i64 C, .int .i64 A] 35) := ⟨_, rfl⟩
      have HB4 : Hid (Below w.heap.size w W4) := by rw [e4]; exact bl_alloc (bl_step HB2.out hb3)
      have E4 := hid e4
      clear hc hb3 HB2 HC2 e4
      dsimp only
      go_upto_region 10 with fail
      rw [← E4.out]
      clear E4
      have HDE := hid (decode_any a n c zs W4 (by have := HN9.out; omega) HNC.out (HZ.out.step HB4.out))
      go_wp2_with fail
      refine HDE.out.mono ?_
      intro e w5 hD
      clear HDE
      obtain ⟨hb5, hD⟩ := hD
      have HB5 := hid (bl_step HB4.out hb5)
      cases hx : decX zs with
      | none =>
        rw [hx] at hD
        obtain ⟨C, A, hC, rfl⟩ := hD
        have hcn : (C != 0) = true := by simpa using hC
        have HSP : Hid (∀ w', Calls Tryz.prog 12 #[noPlan, noPlan, .bool false] w' (Yes w')) := fun w' => samePlan_any false ND ND w' (nd_lie w') (nd_lie w') (eqplan_refl false _) nd_little
        clear hb5 hC
        dsimp only
        go_wp2_with fail
        refine (HSP.out _).mono ?_
        rintro e w6 ⟨rfl, hb6⟩
        have HB6 := hid (bl_step (bl_alloc (bl_alloc HB5.out)) hb6)
        clear hb6
        go_wp2
        go_ret
        exact ⟨rfl, HB6.out⟩
      | some x =>
        rw [hx] at hD
        obtain ⟨v, hv, rfl⟩ := hD
        obtain ⟨d2, rfl, hdl, _, hdp⟩ := plan_of hv
        obtain ⟨hk0, henc, hfew⟩ := enc_dec HBY.out hx hdl hdp
        obtain ⟨hsm, hwf⟩ := small_few hfew (by decide) hdl hdp
        have hbl : (bodyL d2).length ≤ 9000000 := by
          have h1 := enc_len d2
          rw [henc] at h1
          have h2 := HZ.out.1
          have := HN9.out
          omega
        obtain ⟨W6, e6⟩ : ∃ W6, W6 = (w5.alloc (.cells #[.slice d2.heads.a d2.heads.n d2.heads.c, .slice d2.mta.a d2.mta.n d2.mta.c, .slice d2.states.a d2.states.n d2.states.c, .slice d2.acts.a d2.acts.n d2.acts.c, .slice d2.tabs.a d2.tabs.n d2.tabs.c, .slice d2.nodes.a d2.nodes.n d2.nodes.c, .slice d2.out.a d2.out.n d2.out.c] 29)).alloc (.cells #[.int .i64 0, .int .i64 0] 35) := ⟨_, rfl⟩
        obtain ⟨b9, e9⟩ : ∃ b9, b9 = w5.heap.size := ⟨_, rfl⟩
        obtain ⟨b10, e10⟩ : ∃ b10, b10 = w5.heap.size + 1 := ⟨_, rfl⟩
        have hb56 : Below w5.heap.size w5 W6 := by rw [e6]; exact bl_alloc (bl_alloc (Below.refl _ _))
        have HB6 := hid (bl_step HB5.out hb56)
        have HEN2 : Hid (Calls Tryz.prog 8 #[d2.v] W6 fun e w' => ∃ g cap, e = .returned (.tuple #[.slice (some ⟨g, 0, none⟩) n cap, .agg #[.int .i64 0, .int .i64 0]]) ∧ Has .u8 w' (some ⟨g, 0, none⟩) n zs ∧ Below W6.heap.size W6 w') := (encode_any d2 W6 (hdl.step hb56) hsm hwf hbl).mono fun e w' h => by
          rcases h with ⟨h, _⟩ | ⟨_, g, cap, he, ho, hb⟩
          · exact absurd hk0 h
          · rw [henc, HZ.out.1] at he ho
            exact ⟨g, cap, he, has_of_owns ho (bytes_byt HBY.out), hb⟩
        obtain ⟨r0, r1, r2, r3, r4, r5, r6⟩ := cells7 w5 d2 (.cells #[.int .i64 0, .int .i64 0] 35) W6 e6 b9 e9
        have q0 : W6.cell? ⟨b10, 0, none⟩ = some (.int .i64 0) := by rw [e6, e10]; exact (World.cell?_alloc_at _ _ _ _ (by simp)).trans rfl
        have E6 := hid e6
        have E9 := hid e9
        have E10 := hid e10
        clear e6 e9 e10 hb56 hsm hwf hbl hk0 henc hfew hdl hdp hb5 hv
        dsimp only
        go_upto_region 11 with fail
        rw [← E6.out, ← E10.out, ← E9.out]
        clear E6
        go_wp2_with fail
        refine HEN2.out.mono ?_
        rintro e w7 ⟨g, cap, rfl, hzs, hb7⟩
        have HB7 := hid (bl_step HB6.out hb7)
        have HSB : Hid (∀ o, Calls Tryz.prog 13 #[.slice (some ⟨g, 0, none⟩) n cap, .slice a n c] (w7.alloc o) fun e w' => e = .returned (.bool true) ∧ w' = w7.alloc o) := fun o => same_bytes cap c hzs.alloc (HZ.out.step HB7.out).alloc
        clear HEN2 hzs hb7 r0 r1 r2 r3 r4 r5 r6 q0
        dsimp only
        go_wp2_with fail
        refine (HSB.out _).mono ?_
        rintro e w8 ⟨rfl, rfl⟩
        go_wp2
        go_ret
        exact ⟨rfl, bl_alloc HB7.out⟩
    · have hdn := dec_enc (HL.out.step HB2.out) (wfew_of (HL.out.step HB2.out) HLT.out) hc
      have h8 := enc_8000 (HL.out.step HB2.out) hc
      have hel := enc_len d
      have hzx : Has .u8 w3 (some ⟨g, 0, none⟩) (encL d).length (encL d) := has_of_owns ho (bytes_byt (enc_byt d))
      have hcap : (encL d).length ≤ cap := by
        rcases ho.2 with ⟨e2, _⟩ | ⟨g2, c2, cur, e2, _, _, h, _⟩
        · cases e2
        · simp only [Value.slice.injEq, true_and] at e2
          omega
      obtain ⟨W4, e4⟩ : ∃ W4, W4 = w3.alloc (.cells #[.int .i64 0, .int .i64 0] 35) := ⟨_, rfl⟩
      have hb34 : Below w3.heap.size w3 W4 := by rw [e4]; exact bl_alloc (Below.refl _ _)
      have HB4 := hid (bl_step (bl_step HB2.out hb3) hb34)
      have HC4 := hid (ekeep7 (ekeep7 HC2.out hb3) hb34)
      have HDX := hid (decode_any (some ⟨g, 0, none⟩) (encL d).length cap (encL d) W4 (by omega) hcap (hzx.step hb34))
      have HDN := hid hdn
      have HSX : Hid (∀ y ∈ d.ss, y.cs.length = y.cases.n) := fun y hy => by obtain ⟨g', o', hp⟩ := qmem HL.out.ss y hy; exact hp.2.2.2.2.2.1
      generalize (encL d).length = N at *
      have E4 := hid e4
      clear e4 hb34 hb3 HB2 HC2 ho hzx hcap hdn h8 hel hc
      dsimp only
      go_upto_region 7 with fail
      rw [← E4.out]
      clear E4
      go_wp2_with fail
      refine HDX.out.mono ?_
      intro e w5 hD
      clear HDX
      obtain ⟨hb5, hD⟩ := hD
      rw [HDN.out] at hD
      obtain ⟨v, hv, rfl⟩ := hD
      obtain ⟨d2, rfl, hdl, _, hdp⟩ := plan_of hv
      have HB5 := hid (bl_step HB4.out hb5)
      have HC5 := hid (ekeep7 HC4.out hb5)
      obtain ⟨W6, e6⟩ : ∃ W6, W6 = (w5.alloc (.cells #[.slice d2.heads.a d2.heads.n d2.heads.c, .slice d2.mta.a d2.mta.n d2.mta.c, .slice d2.states.a d2.states.n d2.states.c, .slice d2.acts.a d2.acts.n d2.acts.c, .slice d2.tabs.a d2.tabs.n d2.tabs.c, .slice d2.nodes.a d2.nodes.n d2.nodes.c, .slice d2.out.a d2.out.n d2.out.c] 29)).alloc (.cells #[.int .i64 0, .int .i64 0] 35) := ⟨_, rfl⟩
      obtain ⟨b7, e7⟩ : ∃ b7, b7 = w5.heap.size := ⟨_, rfl⟩
      obtain ⟨b8, e8⟩ : ∃ b8, b8 = w5.heap.size + 1 := ⟨_, rfl⟩
      have hb56 : Below w5.heap.size w5 W6 := by rw [e6]; exact bl_alloc (bl_alloc (Below.refl _ _))
      have HB6 := hid (bl_step HB5.out hb56)
      obtain ⟨z0, z1, z2, z3, z4, z5, z6⟩ := ekeep7 HC5.out hb56
      obtain ⟨r0, r1, r2, r3, r4, r5, r6⟩ := cells7 w5 d2 (.cells #[.int .i64 0, .int .i64 0] 35) W6 e6 b7 e7
      have q0 : W6.cell? ⟨b8, 0, none⟩ = some (.int .i64 0) := by rw [e6, e8]; exact (World.cell?_alloc_at _ _ _ _ (by simp)).trans rfl
      have HSP := hid (samePlan_any true d2 d W6 (hdl.step hb56) (HL.out.step HB6.out) (by rw [hdp]; exact eq_plan d HSX.out) (by rw [hdp]; exact little_planX HLT.out))
      have E6 := hid e6
      have E7 := hid e7
      have E8 := hid e8
      clear e6 e7 e8 hb56 hdl hdp hb5 hv HDN HC4 HC5 HB4
      dsimp only
      go_upto_region 8 with fail
      rw [← E6.out, ← E8.out, ← E7.out]
      clear E6
      go_wp2_with fail
      refine HSP.out.mono ?_
      rintro e w9 ⟨rfl, hb9⟩
      have HB9 := hid (bl_step HB6.out hb9)
      clear HSP hb9 z0 z1 z2 z3 z4 z5 z6 r0 r1 r2 r3 r4 r5 r6 q0
      dsimp only
      go_upto_region 10 with fail
      have HDE := hid (decode_any a n c zs w9 (by have := HN9.out; omega) HNC.out (HZ.out.step HB9.out))
      go_wp2_with fail
      refine HDE.out.mono ?_
      intro e w5 hD
      clear HDE
      obtain ⟨hb5, hD⟩ := hD
      have HB5 := hid (bl_step HB9.out hb5)
      cases hx : decX zs with
      | none =>
        rw [hx] at hD
        obtain ⟨C, A, hC, rfl⟩ := hD
        have hcn : (C != 0) = true := by simpa using hC
        have HSP : Hid (∀ w', Calls Tryz.prog 12 #[noPlan, noPlan, .bool false] w' (Yes w')) := fun w' => samePlan_any false ND ND w' (nd_lie w') (nd_lie w') (eqplan_refl false _) nd_little
        clear hb5 hC
        dsimp only
        go_wp2_with fail
        refine (HSP.out _).mono ?_
        rintro e w6 ⟨rfl, hb6⟩
        have HB6 := hid (bl_step (bl_alloc (bl_alloc HB5.out)) hb6)
        clear hb6
        go_wp2
        go_ret
        exact ⟨rfl, HB6.out⟩
      | some x =>
        rw [hx] at hD
        obtain ⟨v, hv, rfl⟩ := hD
        obtain ⟨d2, rfl, hdl, _, hdp⟩ := plan_of hv
        obtain ⟨hk0, henc, hfew⟩ := enc_dec HBY.out hx hdl hdp
        obtain ⟨hsm, hwf⟩ := small_few hfew (by decide) hdl hdp
        have hbl : (bodyL d2).length ≤ 9000000 := by
          have h1 := enc_len d2
          rw [henc] at h1
          have h2 := HZ.out.1
          have := HN9.out
          omega
        obtain ⟨W6, e6⟩ : ∃ W6, W6 = (w5.alloc (.cells #[.slice d2.heads.a d2.heads.n d2.heads.c, .slice d2.mta.a d2.mta.n d2.mta.c, .slice d2.states.a d2.states.n d2.states.c, .slice d2.acts.a d2.acts.n d2.acts.c, .slice d2.tabs.a d2.tabs.n d2.tabs.c, .slice d2.nodes.a d2.nodes.n d2.nodes.c, .slice d2.out.a d2.out.n d2.out.c] 29)).alloc (.cells #[.int .i64 0, .int .i64 0] 35) := ⟨_, rfl⟩
        obtain ⟨b9, e9⟩ : ∃ b9, b9 = w5.heap.size := ⟨_, rfl⟩
        obtain ⟨b10, e10⟩ : ∃ b10, b10 = w5.heap.size + 1 := ⟨_, rfl⟩
        have hb56 : Below w5.heap.size w5 W6 := by rw [e6]; exact bl_alloc (bl_alloc (Below.refl _ _))
        have HB6 := hid (bl_step HB5.out hb56)
        have HEN2 : Hid (Calls Tryz.prog 8 #[d2.v] W6 fun e w' => ∃ g cap, e = .returned (.tuple #[.slice (some ⟨g, 0, none⟩) n cap, .agg #[.int .i64 0, .int .i64 0]]) ∧ Has .u8 w' (some ⟨g, 0, none⟩) n zs ∧ Below W6.heap.size W6 w') := (encode_any d2 W6 (hdl.step hb56) hsm hwf hbl).mono fun e w' h => by
          rcases h with ⟨h, _⟩ | ⟨_, g, cap, he, ho, hb⟩
          · exact absurd hk0 h
          · rw [henc, HZ.out.1] at he ho
            exact ⟨g, cap, he, has_of_owns ho (bytes_byt HBY.out), hb⟩
        obtain ⟨r0, r1, r2, r3, r4, r5, r6⟩ := cells7 w5 d2 (.cells #[.int .i64 0, .int .i64 0] 35) W6 e6 b9 e9
        have q0 : W6.cell? ⟨b10, 0, none⟩ = some (.int .i64 0) := by rw [e6, e10]; exact (World.cell?_alloc_at _ _ _ _ (by simp)).trans rfl
        have E6 := hid e6
        have E9 := hid e9
        have E10 := hid e10
        clear e6 e9 e10 hb56 hsm hwf hbl hk0 henc hfew hdl hdp hb5 hv
        dsimp only
        go_upto_region 11 with fail
        rw [← E6.out, ← E10.out, ← E9.out]
        clear E6
        go_wp2_with fail
        refine HEN2.out.mono ?_
        rintro e w7 ⟨g, cap, rfl, hzs, hb7⟩
        have HB7 := hid (bl_step HB6.out hb7)
        have HSB : Hid (∀ o, Calls Tryz.prog 13 #[.slice (some ⟨g, 0, none⟩) n cap, .slice a n c] (w7.alloc o) fun e w' => e = .returned (.bool true) ∧ w' = w7.alloc o) := fun o => same_bytes cap c hzs.alloc (HZ.out.step HB7.out).alloc
        clear HEN2 hzs hb7 r0 r1 r2 r3 r4 r5 r6 q0
        dsimp only
        go_wp2_with fail
        refine (HSB.out _).mono ?_
        rintro e w8 ⟨rfl, rfl⟩
        go_wp2
        go_ret
        exact ⟨rfl, bl_alloc HB7.out⟩
end Go.Proofs.YtedeiaokohdhpaaGreat
