/- The document's judge of actions. -/
import Derived.Test.YtlnkfgdepddmladGreatVQR2
import Derived.Test.YtlnkfgdepddmladGreatVQAct
namespace Go.Proofs.YtlnkfgdepddmladGreat
open Go.RowKit

theorem first_drop {α : Type} {L : List α} {f : α → Int} {k : Nat} {x : α} (h : L[k]? = some x) : firstC ((L.drop k).map f) = if f x ≠ 0 then f x else firstC ((L.drop (k + 1)).map f) := by
  obtain ⟨hk, e⟩ := List.getElem?_eq_some_iff.1 h
  rw [List.drop_eq_getElem_cons hk, e]
  rfl

set_option maxHeartbeats 16000000 in
set_option maxRecDepth 20000 in
theorem ract_any (d : PlanD) (x : ActD) (w : World) (hl : d.lie w) (hws : Has .i64 w x.w.a x.w.n x.ws) (hos : QRow 5 OpD.lie w x.ops x.os) (hp : ∀ r, 0 ≤ d.p.width r []) :
    Calls Tryz.prog 57 #[d.v, .agg #[.slice x.w.a x.w.n x.w.c, .slice x.ops.a x.ops.n x.ops.c]] w fun e w' => e = .returned (.int .i64 (actC d.p x.p)) ∧ Below w.heap.size w w' := by
  have HRES : Hid (actC d.p x.p = if 3 < x.ws.length ∨ 5 < x.os.length then 2 else or2 (firstC (x.ws.map widC)) (firstC (x.os.map (fun o => deedC d.p x.ws o.p)))) := by
    show actC d.p x.p = _
    unfold actC ActD.p
    simp only [List.length_map, List.map_map]
    rfl
  have HWL := hid hws.1
  have HOL := hid hos.1
  obtain ⟨W2, hW⟩ : ∃ W2, W2 = ((w.alloc (.cells #[.slice d.heads.a d.heads.n d.heads.c, .slice d.mta.a d.mta.n d.mta.c, .slice d.states.a d.states.n d.states.c, .slice d.acts.a d.acts.n d.acts.c, .slice d.tabs.a d.tabs.n d.tabs.c, .slice d.nodes.a d.nodes.n d.nodes.c, .slice d.out.a d.out.n d.out.c] 65)).alloc (.cells #[.slice x.w.a x.w.n x.w.c, .slice x.ops.a x.ops.n x.ops.c] 83)) := ⟨_, rfl⟩
  obtain ⟨b0, h0⟩ : ∃ b0, b0 = w.heap.size := ⟨_, rfl⟩
  obtain ⟨b1, h1⟩ : ∃ b1, b1 = w.heap.size + 1 := ⟨_, rfl⟩
  have z0 : W2.cell? ⟨b0, 0, none⟩ = some (.slice d.heads.a d.heads.n d.heads.c) := by rw [hW, h0]; exact (World.cell?_alloc_past _ _ _ (by simp)).trans ((World.cell?_alloc_at _ _ _ _ rfl).trans rfl)
  have z1 : W2.cell? ⟨b0, 1, none⟩ = some (.slice d.mta.a d.mta.n d.mta.c) := by rw [hW, h0]; exact (World.cell?_alloc_past _ _ _ (by simp)).trans ((World.cell?_alloc_at _ _ _ _ rfl).trans rfl)
  have z2 : W2.cell? ⟨b0, 2, none⟩ = some (.slice d.states.a d.states.n d.states.c) := by rw [hW, h0]; exact (World.cell?_alloc_past _ _ _ (by simp)).trans ((World.cell?_alloc_at _ _ _ _ rfl).trans rfl)
  have z3 : W2.cell? ⟨b0, 3, none⟩ = some (.slice d.acts.a d.acts.n d.acts.c) := by rw [hW, h0]; exact (World.cell?_alloc_past _ _ _ (by simp)).trans ((World.cell?_alloc_at _ _ _ _ rfl).trans rfl)
  have z4 : W2.cell? ⟨b0, 4, none⟩ = some (.slice d.tabs.a d.tabs.n d.tabs.c) := by rw [hW, h0]; exact (World.cell?_alloc_past _ _ _ (by simp)).trans ((World.cell?_alloc_at _ _ _ _ rfl).trans rfl)
  have z5 : W2.cell? ⟨b0, 5, none⟩ = some (.slice d.nodes.a d.nodes.n d.nodes.c) := by rw [hW, h0]; exact (World.cell?_alloc_past _ _ _ (by simp)).trans ((World.cell?_alloc_at _ _ _ _ rfl).trans rfl)
  have z6 : W2.cell? ⟨b0, 6, none⟩ = some (.slice d.out.a d.out.n d.out.c) := by rw [hW, h0]; exact (World.cell?_alloc_past _ _ _ (by simp)).trans ((World.cell?_alloc_at _ _ _ _ rfl).trans rfl)
  have y0 : W2.cell? ⟨b1, 0, none⟩ = some (.slice x.w.a x.w.n x.w.c) := by rw [hW, h1]; exact (World.cell?_alloc_at _ _ _ _ (by simp)).trans rfl
  have y1 : W2.cell? ⟨b1, 1, none⟩ = some (.slice x.ops.a x.ops.n x.ops.c) := by rw [hW, h1]; exact (World.cell?_alloc_at _ _ _ _ (by simp)).trans rfl
  have HB : Hid (Below w.heap.size w W2) := by rw [hW]; exact bl_alloc (bl_alloc (Below.refl _ _))
  have E3 := hid hW
  have E0 := hid h0
  have E1 := hid h1
  have HL := hid hl
  have HW := hid hws
  have HO := hid hos
  have HP := hid hp
  clear hW h0 h1 hl hws hos hp
  by_cases h3 : (3 : Int) < (x.w.n : Int)
  · have d3 := decide_eq_true h3
    rw [if_pos (.inl (by rw [HWL.out]; omega))] at HRES
    clear h3
    go_enter Tryz.func57, Tryz.ntmps57
    go_wp2
    go_ret
    exact ⟨by rw [HRES.out]; rfl, bl_alloc (bl_alloc (Below.refl _ _))⟩
  have d3 := decide_eq_false h3
  by_cases h5 : (5 : Int) < (x.ops.n : Int)
  · have d5 := decide_eq_true h5
    rw [if_pos (.inr (by rw [HOL.out]; omega))] at HRES
    clear h3 h5
    go_enter Tryz.func57, Tryz.ntmps57
    go_wp2
    go_ret
    exact ⟨by rw [HRES.out]; rfl, bl_alloc (bl_alloc (Below.refl _ _))⟩
  have d5 := decide_eq_false h5
  rw [if_neg (by rw [HWL.out, HOL.out]; omega)] at HRES
  have hwn : x.w.n ≤ 3 := by omega
  have hon : x.ops.n ≤ 5 := by omega
  clear h3 h5
  go_enter Tryz.func57, Tryz.ntmps57
  go_wp2
  rw [← E3.out, ← E1.out, ← E0.out]
  clear E3 E1 E0 d3 d5
  go_loopw [5] (fun q wr => ∃ k : Nat, k ≤ x.w.n ∧ q = .int .i64 k ∧ Hid (firstC (x.ws.map widC) = firstC ((x.ws.drop k).map widC)) ∧ Hid (W2 = wr)) (fun q _ => x.w.n - (intOf q).toNat)
  case atStart => exact ⟨0, Nat.zero_le _, rfl, rfl, rfl⟩
  case round =>
    obtain ⟨k, hk, rfl, hgo, hWr⟩ := hrel
    obtain rfl := hWr.out
    clear hWr
    by_cases hlt : k < x.w.n
    · obtain ⟨g, off, u, ea, hu, r0⟩ := int_at (HW.out.step HB.out) hlt
      have hki : (k : Int) < (x.w.n : Int) := by omega
      have hst := first_drop (f := widC) hu
      clear hu
      by_cases g1 : u < 1
      · have f1 := decide_eq_true g1
        have HG : Hid (actC d.p x.p = 6) := by
          show actC d.p x.p = 6
          rw [HRES.out, hgo.out, hst, show widC u = 6 from if_pos (.inl g1)]
          rfl
        clear hst hgo g1
        go_wp2
        go_ret
        exact ⟨by rw [HG.out]; rfl, HB.out⟩
      have f1 := decide_eq_false g1
      by_cases g2 : 48 < u
      · have f2 := decide_eq_true g2
        have HG : Hid (actC d.p x.p = 6) := by
          show actC d.p x.p = 6
          rw [HRES.out, hgo.out, hst, show widC u = 6 from if_pos (.inr g2)]
          rfl
        clear hst hgo g1 g2
        go_wp2
        go_ret
        exact ⟨by rw [HG.out]; rfl, HB.out⟩
      · have f2 := decide_eq_false g2
        have HG : Hid (firstC (x.ws.map widC) = firstC ((x.ws.drop (k + 1)).map widC)) := by
          show firstC (x.ws.map widC) = _
          rw [hgo.out, hst, show widC u = 0 from if_neg (by omega)]
          rfl
        clear hst hgo g1 g2
        go_wp2
        go_roundw
        case rel => exact ⟨k + 1, by omega, by go_num, HG, trivial⟩
        case measure => simp [intOf]; omega
    · have ek : k = x.w.n := by omega
      have HR2 : Hid (actC d.p x.p = firstC (x.os.map (fun o => deedC d.p x.ws o.p))) := by
        show actC d.p x.p = _
        have : firstC (x.ws.map widC) = 0 := by rw [hgo.out, ek, ← HWL.out, List.drop_length]; rfl
        rw [HRES.out, this]
        rfl
      have hki : ¬ (k : Int) < (x.w.n : Int) := by omega
      have HBZ : Hid (Below W2.heap.size W2 W2) := Below.refl _ _
      clear hgo HRES ek
      go_wp2
      go_loopw [6, 7] (fun q _ wr => ∃ j : Nat, j ≤ x.ops.n ∧ q = .int .i64 j ∧ Hid (firstC (x.os.map (fun o => deedC d.p x.ws o.p)) = firstC ((x.os.drop j).map (fun o => deedC d.p x.ws o.p))) ∧ Hid (Below W2.heap.size W2 wr)) (fun q _ _ => x.ops.n - (intOf q).toNat)
      case atStart => exact ⟨0, Nat.zero_le _, rfl, rfl, HBZ⟩
      case round =>
        obtain ⟨j, hj, rfl, hgo, hbw⟩ := hrel
        clear HBZ
        have BW := hid (bl_step HB.out hbw.out)
        have z0 := cell_keep z0 hbw.out
        have z1 := cell_keep z1 hbw.out
        have z2 := cell_keep z2 hbw.out
        have z3 := cell_keep z3 hbw.out
        have z4 := cell_keep z4 hbw.out
        have z5 := cell_keep z5 hbw.out
        have z6 := cell_keep z6 hbw.out
        have y0 := cell_keep y0 hbw.out
        have y1 := cell_keep y1 hbw.out
        by_cases hlj : j < x.ops.n
        · obtain ⟨g, off, o, ea, ho, ⟨q0, _⟩, ⟨q1, _⟩, ⟨q2, _⟩, ⟨q3, _⟩, ⟨q4, _⟩, he⟩ := row_at (HO.out.step OpD.keeps BW.out) hlj
          have hji : (j : Int) < (x.ops.n : Int) := by omega
          have hst := first_drop (f := fun o => deedC d.p x.ws o.p) ho
          have HD : Hid (∀ p : BelowBy wr, Calls Tryz.prog 120 #[d.v, o.v, .slice x.w.a x.w.n x.w.c] p.to fun e w' => e = .returned (.int .i64 (deedC d.p x.ws o.p)) ∧ Below p.to.heap.size p.to w') := fun p => rdeed_any d o x.w.a x.w.n x.w.c x.ws p.to (HL.out.step (bl_step BW.out p.h)) (HW.out.step (bl_step BW.out p.h)) (he.step PushD.keeps p.h) (HP.out o.r)
          rw [ea] at y1
          have z0' := cell_by z0
          have z1' := cell_by z1
          have z2' := cell_by z2
          have z3' := cell_by z3
          have z4' := cell_by z4
          have z5' := cell_by z5
          have z6' := cell_by z6
          have y0' := cell_by y0
          have y1' := cell_by y1
          have q0' := cell_by q0
          have q1' := cell_by q1
          have q2' := cell_by q2
          have q3' := cell_by q3
          have q4' := cell_by q4
          clear ho he
          generalize deedC d.p x.ws o.p = C at *
          by_cases hC : C = 0
          · have HG : Hid (firstC (x.os.map (fun o => deedC d.p x.ws o.p)) = firstC ((x.os.drop (j + 1)).map (fun o => deedC d.p x.ws o.p))) := by
              show firstC (x.os.map (fun o => deedC d.p x.ws o.p)) = _
              rw [hgo.out, hst, if_neg (by simpa using hC)]
            have bC : (C != 0) = false := by simpa using hC
            clear hst hgo hC
            go_wp2_with fail
            haveI inhB : ∀ w : World, Inhabited (BelowBy w) := fun w => ⟨⟨w, Below.refl _ _⟩⟩
            refine wp_region_quiet_below (by kernel_rfl) (by kernel_rfl) ?_
            repeat (go_big_quiet_step (first | (go_at_call 120; exact calls_below _ (HD.out _))))
            refine wpQuiet_nil ?_
            intro wq hw'
            obtain ⟨⟨_, hwq⟩, hw''⟩ := hw'
            subst hw''
            have HE := hid (bl_step hbw.out hwq)
            clear hwq HD hbw BW
            go_wp2
            go_roundw
            case rel => exact ⟨j + 1, by omega, by go_num, HG, HE⟩
            case measure => simp [intOf]; omega
          · have HG : Hid (actC d.p x.p = C) := by
              show actC d.p x.p = C
              rw [HR2.out, hgo.out, hst, if_pos hC]
            have bC : (C != 0) = true := by simpa using hC
            clear hst hgo hC
            go_wp2_with fail
            haveI inhB : ∀ w : World, Inhabited (BelowBy w) := fun w => ⟨⟨w, Below.refl _ _⟩⟩
            refine wp_region_quiet_below (by kernel_rfl) (by kernel_rfl) ?_
            repeat (go_big_quiet_step (first | (go_at_call 120; exact calls_below _ (HD.out _))))
            refine wpQuiet_nil ?_
            intro wq hw'
            obtain ⟨⟨_, hwq⟩, hw''⟩ := hw'
            subst hw''
            have HE := hid (bl_step BW.out hwq)
            clear hwq HD hbw BW
            go_wp2
            go_ret
            exact ⟨by rw [HG.out]; rfl, HE.out⟩
        · have ej : j = x.ops.n := by omega
          have hji : ¬ (j : Int) < (x.ops.n : Int) := by omega
          have HG : Hid (actC d.p x.p = 0) := by
            show actC d.p x.p = 0
            rw [HR2.out, hgo.out, ej, ← HOL.out, List.drop_length]
            rfl
          clear hgo ej
          go_wp2
          go_ret
          exact ⟨by rw [HG.out]; rfl, BW.out⟩
end Go.Proofs.YtlnkfgdepddmladGreat
