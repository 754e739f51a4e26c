/- The document's judge of nodes. -/
import Derived.Test.YtkggocdannkdmaaGreatJ7
import Derived.Test.YtkggocdannkdmaaGreatJ13
import Derived.Deep.CutBlock
import Derived.Deep.DeepCutAuto
namespace Go.Proofs.YtkggocdannkdmaaGreat
open Go.RowKit

theorem map_getD_r {α β : Type} {l : List α} {f : α → β} {n : Nat} {x : α} (h : l[n]? = some x) (y : β) : (l.map f).getD n y = f x := by
  rw [List.getD_eq_getElem?_getD, List.getElem?_map, h]
  rfl

theorem has_twoI (w : World) (x y : Int) (hx : (Lit.int .i64 x).wf = true) (hy : (Lit.int .i64 y).wf = true) : Has .i64 (w.alloc (.cells #[.int .i64 x, .int .i64 y] 3)) (some ⟨w.heap.size, 0, none⟩) 2 [x, y] := by
  refine ⟨rfl, ?_, .inr ⟨w.heap.size, 0, rfl, by simp, fun i hi => ?_⟩⟩
  · intro n hn
    simp only [List.mem_cons, List.not_mem_nil, or_false] at hn
    rcases hn with rfl | rfl
    · exact hx
    · exact hy
  · rcases (show i = 0 ∨ i = 1 by omega) with rfl | rfl
    · simp
    · simp

set_option maxHeartbeats 32000000 in
set_option maxRecDepth 20000 in
theorem rnode_any (d : PlanD) (w : World) (hl : d.lie w) (k : Nat) (hk : k < d.nodes.n) (x : NodeD) (hx : d.ns[k]? = some x) :
    Calls Tryz.prog 93 #[d.v, .int .i64 k] w fun e w' => e = .returned (.int .i64 (nodeC d.p k x.p)) ∧ Below w.heap.size w w' := by
  have bw1 : ∀ o, Below w.heap.size w (w.alloc o) := fun o => bl_alloc (Below.refl _ _)
  obtain ⟨g, off, x', ea, hx', ⟨c0, _⟩, ⟨c1, _⟩, ⟨c2, _⟩, ⟨c3, w3⟩, ⟨c4, w4⟩, hrow⟩ := row_at hl.ns hk
  obtain rfl : x = x' := by rw [hx] at hx'; exact Option.some.inj hx'
  have ETS : Hid (d.p.ts.length = d.tabs.n) := by show _ = _; simp [PlanD.p, hl.ts.1]
  have EHS : Hid (d.p.hs.length = d.heads.n) := by show _ = _; simp [PlanD.p, hl.hs.1]
  have EAL : Hid (d.p.al.length = d.acts.n) := by show _ = _; simp [PlanD.p, hl.al.1]
  have HR0 : Hid (nodeC d.p k x.p = or2 (useC d.p x.p) (firstC ((if x.kind = 3 ∨ x.kind = 4 then [x.yes, x.no] else [x.yes]).map (stepC d.nodes.n k)))) := by
    show nodeC d.p k x.p = _
    unfold nodeC
    rw [show d.p.ns.length = d.nodes.n by simp [PlanD.p, hl.ns.1]]
    rfl
  have HX : Hid (∀ w', Below w.heap.size w w' → Calls Tryz.prog 132 #[d.v, .slice x.e.a x.e.n x.e.c, .slice none 0 0] w' fun e w'' => e = .returned (.int .i64 (treeC d.p x.es [])) ∧ Below w'.heap.size w' w'') := fun w' h => expr_any d x.e x.es none 0 0 [] w' (hl.step h) (hrow.step PushD.keeps h) (has_nil _ _)
  have HI : Hid (∀ w', Calls Tryz.prog 94 #[d.v, .int .i64 x.n] w' fun e w'' => e = .returned (.bool (decide (0 ≤ x.n ∧ x.n < (d.heads.n : Int)))) ∧ Below w'.heap.size w' w'') := fun w' => isHead_any d x.n w'
  have hki : (k : Int) < (d.nodes.n : Int) := by omega
  have k0 : ∀ o, (w.alloc o).cell? ⟨g, off + k * 5, none⟩ = some (.int .i64 x.kind) := fun o => cell_keep c0 (bw1 o)
  have k1' : ∀ o, (w.alloc o).cell? ⟨g, off + k * 5 + 1, none⟩ = some (.int .i64 x.n) := fun o => cell_keep c1 (bw1 o)
  have k2' : ∀ o, (w.alloc o).cell? ⟨g, off + k * 5 + 2, none⟩ = some (.slice x.e.a x.e.n x.e.c) := fun o => cell_keep c2 (bw1 o)
  have k3' : ∀ o, (w.alloc o).cell? ⟨g, off + k * 5 + 3, none⟩ = some (.int .i64 x.yes) := fun o => cell_keep c3 (bw1 o)
  have k4' : ∀ o, (w.alloc o).cell? ⟨g, off + k * 5 + 4, none⟩ = some (.int .i64 x.no) := fun o => cell_keep c4 (bw1 o)
  obtain ⟨W3, hW⟩ : ∃ W3, W3 = (((w.alloc (.cells #[.slice d.heads.a d.heads.n d.heads.c, .slice d.mta.a d.mta.n d.mta.c, .slice d.states.a d.states.n d.states.c, .slice d.acts.a d.acts.n d.acts.c, .slice d.tabs.a d.tabs.n d.tabs.c, .slice (some ⟨g, off, none⟩) d.nodes.n d.nodes.c, .slice d.out.a d.out.n d.out.c] 29)).alloc (.cells #[.int .i64 x.kind, .int .i64 x.n, .slice x.e.a x.e.n x.e.c, .int .i64 x.yes, .int .i64 x.no] 67)).alloc (.cells #[.int .i64 x.yes] 3)) := ⟨_, rfl⟩
  obtain ⟨b0, h0⟩ : ∃ b0, b0 = w.heap.size := ⟨_, rfl⟩
  obtain ⟨b1, h1⟩ : ∃ b1, b1 = w.heap.size + 1 := ⟨_, rfl⟩
  obtain ⟨b2, h2⟩ : ∃ b2, b2 = w.heap.size + 1 + 1 := ⟨_, rfl⟩
  have z0 : W3.cell? ⟨b0, 0, none⟩ = some (.slice d.heads.a d.heads.n d.heads.c) := by rw [hW, h0]; exact (World.cell?_alloc_past _ _ _ (by simp; omega)).trans ((World.cell?_alloc_past _ _ _ (by simp)).trans ((World.cell?_alloc_at _ _ _ _ rfl).trans rfl))
  have z1 : W3.cell? ⟨b0, 1, none⟩ = some (.slice d.mta.a d.mta.n d.mta.c) := by rw [hW, h0]; exact (World.cell?_alloc_past _ _ _ (by simp; omega)).trans ((World.cell?_alloc_past _ _ _ (by simp)).trans ((World.cell?_alloc_at _ _ _ _ rfl).trans rfl))
  have z2 : W3.cell? ⟨b0, 2, none⟩ = some (.slice d.states.a d.states.n d.states.c) := by rw [hW, h0]; exact (World.cell?_alloc_past _ _ _ (by simp; omega)).trans ((World.cell?_alloc_past _ _ _ (by simp)).trans ((World.cell?_alloc_at _ _ _ _ rfl).trans rfl))
  have z3 : W3.cell? ⟨b0, 3, none⟩ = some (.slice d.acts.a d.acts.n d.acts.c) := by rw [hW, h0]; exact (World.cell?_alloc_past _ _ _ (by simp; omega)).trans ((World.cell?_alloc_past _ _ _ (by simp)).trans ((World.cell?_alloc_at _ _ _ _ rfl).trans rfl))
  have z4 : W3.cell? ⟨b0, 4, none⟩ = some (.slice d.tabs.a d.tabs.n d.tabs.c) := by rw [hW, h0]; exact (World.cell?_alloc_past _ _ _ (by simp; omega)).trans ((World.cell?_alloc_past _ _ _ (by simp)).trans ((World.cell?_alloc_at _ _ _ _ rfl).trans rfl))
  have z5 : W3.cell? ⟨b0, 5, none⟩ = some (.slice (some ⟨g, off, none⟩) d.nodes.n d.nodes.c) := by rw [hW, h0]; exact (World.cell?_alloc_past _ _ _ (by simp; omega)).trans ((World.cell?_alloc_past _ _ _ (by simp)).trans ((World.cell?_alloc_at _ _ _ _ rfl).trans rfl))
  have z6 : W3.cell? ⟨b0, 6, none⟩ = some (.slice d.out.a d.out.n d.out.c) := by rw [hW, h0]; exact (World.cell?_alloc_past _ _ _ (by simp; omega)).trans ((World.cell?_alloc_past _ _ _ (by simp)).trans ((World.cell?_alloc_at _ _ _ _ rfl).trans rfl))
  have y0 : W3.cell? ⟨b1, 0, none⟩ = some (.int .i64 x.kind) := by rw [hW, h1]; exact (World.cell?_alloc_past _ _ _ (by simp)).trans ((World.cell?_alloc_at _ _ _ _ (by simp)).trans rfl)
  have y1 : W3.cell? ⟨b1, 1, none⟩ = some (.int .i64 x.n) := by rw [hW, h1]; exact (World.cell?_alloc_past _ _ _ (by simp)).trans ((World.cell?_alloc_at _ _ _ _ (by simp)).trans rfl)
  have y2 : W3.cell? ⟨b1, 2, none⟩ = some (.slice x.e.a x.e.n x.e.c) := by rw [hW, h1]; exact (World.cell?_alloc_past _ _ _ (by simp)).trans ((World.cell?_alloc_at _ _ _ _ (by simp)).trans rfl)
  have y3 : W3.cell? ⟨b1, 3, none⟩ = some (.int .i64 x.yes) := by rw [hW, h1]; exact (World.cell?_alloc_past _ _ _ (by simp)).trans ((World.cell?_alloc_at _ _ _ _ (by simp)).trans rfl)
  have y4 : W3.cell? ⟨b1, 4, none⟩ = some (.int .i64 x.no) := by rw [hW, h1]; exact (World.cell?_alloc_past _ _ _ (by simp)).trans ((World.cell?_alloc_at _ _ _ _ (by simp)).trans rfl)
  have HB : Hid (Below w.heap.size w W3) := by rw [hW]; exact bl_alloc (bl_alloc (bl_alloc (Below.refl _ _)))
  have HW1 : Hid (Has .i64 W3 (some ⟨b2, 0, none⟩) 1 [x.yes]) := by show Has _ _ _ _ _; rw [hW, h2]; simpa using has_oneI ((w.alloc (.cells #[.slice d.heads.a d.heads.n d.heads.c, .slice d.mta.a d.mta.n d.mta.c, .slice d.states.a d.states.n d.states.c, .slice d.acts.a d.acts.n d.acts.c, .slice d.tabs.a d.tabs.n d.tabs.c, .slice (some ⟨g, off, none⟩) d.nodes.n d.nodes.c, .slice d.out.a d.out.n d.out.c] 29)).alloc (.cells #[.int .i64 x.kind, .int .i64 x.n, .slice x.e.a x.e.n x.e.c, .int .i64 x.yes, .int .i64 x.no] 67)) x.yes w3
  have EW := hid hW
  have E0 := hid h0
  have E1 := hid h1
  have E2 := hid h2
  have HAL := hid hl.al
  have HYW := hid w3
  have HNW := hid w4
  unfold PlanD.v at HX HI
  rw [ea] at HX HI
  clear hW h0 h1 h2 hl hx hx' c0 c1 c2 c3 c4 hrow bw1 w3 w4
  go_enter Tryz.func93, Tryz.ntmps93
  go_upto_block 0 with fail
  rw [← EW.out, ← E2.out, ← E1.out, ← E0.out]
  clear EW E2 E1 E0
  go_cut [6, 7] (fun e tv wx => ∃ (E : Int) (L : List Int) (la : Option Addr) (lc : Nat), e = .int .i64 E ∧ tv = .slice la L.length lc ∧ Hid (nodeC d.p k x.p = or2 E (firstC (L.map (stepC d.nodes.n k)))) ∧ Hid (L.length ≤ 2) ∧ Hid (Has .i64 wx la L.length L) ∧ Hid (Below W3.heap.size W3 wx))
  case first =>
    by_cases k1 : x.kind = 1
    · have e1 : (x.kind == 1) = true := by simpa using k1
      rw [if_neg (by omega), show useC d.p x.p = numC d.tabs.n x.n from by unfold useC; rw [if_pos (show x.p.kind = 1 from k1), ETS.out]; rfl] at HR0
      clear HX HI k1
      by_cases q1 : x.n < 0
      · have f1 := decide_eq_true q1
        have HG : Hid (nodeC d.p k x.p = or2 1 (firstC (([x.yes] : List Int).map (stepC d.nodes.n k)))) := by show _ = _; rw [HR0.out, show numC d.tabs.n x.n = 1 from if_neg (by omega)]
        go_wp2
        go_meet
        exact ⟨1, [x.yes], _, _, rfl, rfl, HG, (by decide : (1 : Nat) ≤ 2), HW1, Below.refl _ _⟩
      have f1 := decide_eq_false q1
      by_cases q2 : (d.tabs.n : Int) ≤ x.n
      · have f2 := decide_eq_true q2
        have HG : Hid (nodeC d.p k x.p = or2 1 (firstC (([x.yes] : List Int).map (stepC d.nodes.n k)))) := by show _ = _; rw [HR0.out, show numC d.tabs.n x.n = 1 from if_neg (by omega)]
        go_wp2
        go_meet
        exact ⟨1, [x.yes], _, _, rfl, rfl, HG, (by decide : (1 : Nat) ≤ 2), HW1, Below.refl _ _⟩
      · have f2 := decide_eq_false q2
        have HG : Hid (nodeC d.p k x.p = or2 0 (firstC (([x.yes] : List Int).map (stepC d.nodes.n k)))) := by show _ = _; rw [HR0.out, show numC d.tabs.n x.n = 0 from if_pos (by omega)]
        go_wp2
        go_meet
        exact ⟨0, [x.yes], _, _, rfl, rfl, HG, (by decide : (1 : Nat) ≤ 2), HW1, Below.refl _ _⟩
    have e1 : (x.kind == 1) = false := by simpa using k1
    by_cases k2 : x.kind = 2
    · have e2 : (x.kind == 2) = true := by simpa using k2
      rw [if_neg (by omega), show useC d.p x.p = doC d.p x.n from by unfold useC; rw [if_neg (show ¬ x.p.kind = 1 from k1), if_pos (show x.p.kind = 2 from k2)]; rfl] at HR0
      clear HX HI k1 k2
      by_cases q1 : x.n < 0
      · have f1 := decide_eq_true q1
        have HG : Hid (nodeC d.p k x.p = or2 1 (firstC (([x.yes] : List Int).map (stepC d.nodes.n k)))) := by show _ = _; rw [HR0.out, show doC d.p x.n = 1 from if_neg (by omega)]
        go_wp2
        go_meet
        exact ⟨1, [x.yes], _, _, rfl, rfl, HG, (by decide : (1 : Nat) ≤ 2), HW1, Below.refl _ _⟩
      have f1 := decide_eq_false q1
      by_cases q2 : (d.acts.n : Int) ≤ x.n
      · have f2 := decide_eq_true q2
        have HG : Hid (nodeC d.p k x.p = or2 1 (firstC (([x.yes] : List Int).map (stepC d.nodes.n k)))) := by show _ = _; rw [HR0.out, show doC d.p x.n = 1 from if_neg (by rw [EAL.out]; omega)]
        go_wp2
        go_meet
        exact ⟨1, [x.yes], _, _, rfl, rfl, HG, (by decide : (1 : Nat) ≤ 2), HW1, Below.refl _ _⟩
      have f2 := decide_eq_false q2
      obtain ⟨jn, ejn⟩ : ∃ jn : Nat, x.n = jn := ⟨x.n.toNat, by omega⟩
      obtain ⟨ag, aoff, y, eaa, hy, ⟨d0, _⟩, _, hws, _⟩ := row_at (HAL.out.step ActD.keeps HB.out) (show jn < d.acts.n by omega)
      have EDO : Hid (doC d.p x.n = if 0 < y.w.n then 2 else 0) := by
        show doC d.p x.n = _
        unfold doC
        rw [if_pos (by rw [EAL.out]; omega), ejn, Int.toNat_natCast]
        have e : d.p.al.getD jn ⟨[], []⟩ = y.p := map_getD_r hy _
        rw [e, show y.p.ws.length = y.w.n from hws.1]
      rw [ejn] at y1 f1 f2
      have hji : (jn : Int) < (d.acts.n : Int) := by omega
      have hj0 : ¬ ((jn : Int) < 0) := by omega
      rw [eaa] at z3
      clear hy hws q1 q2 ejn
      by_cases hz : 0 < y.w.n
      · have hz' : decide ((0 : Int) < (y.w.n : Int)) = true := decide_eq_true (by omega)
        have HG : Hid (nodeC d.p k x.p = or2 2 (firstC (([x.yes] : List Int).map (stepC d.nodes.n k)))) := by show _ = _; rw [HR0.out, EDO.out, if_pos hz]
        clear EDO
        go_wp2
        go_meet
        exact ⟨2, [x.yes], _, _, rfl, rfl, HG, (by decide : (1 : Nat) ≤ 2), HW1, Below.refl _ _⟩
      · have hz' : decide ((0 : Int) < (y.w.n : Int)) = false := decide_eq_false (by omega)
        have HG : Hid (nodeC d.p k x.p = or2 0 (firstC (([x.yes] : List Int).map (stepC d.nodes.n k)))) := by show _ = _; rw [HR0.out, EDO.out, if_neg hz]
        clear EDO
        go_wp2
        go_meet
        exact ⟨0, [x.yes], _, _, rfl, rfl, HG, (by decide : (1 : Nat) ≤ 2), HW1, Below.refl _ _⟩
    have e2 : (x.kind == 2) = false := by simpa using k2
    by_cases k3 : x.kind = 3
    · have e3 : (x.kind == 3) = true := by simpa using k3
      rw [if_pos (.inl k3), show useC d.p x.p = treeC d.p x.es [] from by unfold useC; rw [if_neg (show ¬ x.p.kind = 1 from k1), if_neg (show ¬ x.p.kind = 2 from k2), if_pos (show x.p.kind = 3 from k3)]; rfl] at HR0
      clear HI k1 k2 k3
      have HXC := hid (HX.out W3 HB.out)
      generalize treeC d.p x.es [] = U at *
      go_wp2_with fail
      refine HXC.out.mono ?_
      rintro e w4 ⟨rfl, hb4⟩
      have v3 := cell_keep y3 hb4
      have v4 := cell_keep y4 hb4
      have HB4 := hid hb4
      have HHT := hid (has_twoI w4 x.yes x.no HYW.out HNW.out)
      clear HXC HX hb4
      go_wp2
      go_meet
      exact ⟨U, [x.yes, x.no], _, _, rfl, rfl, HR0, (by decide : (2 : Nat) ≤ 2), HHT, bl_alloc HB4.out⟩
    have e3 : (x.kind == 3) = false := by simpa using k3
    by_cases k4 : x.kind = 4
    · have e4 : (x.kind == 4) = true := by simpa using k4
      rw [if_pos (.inr k4), show useC d.p x.p = numC d.heads.n x.n from by unfold useC; rw [if_neg (show ¬ x.p.kind = 1 from k1), if_neg (show ¬ x.p.kind = 2 from k2), if_neg (show ¬ x.p.kind = 3 from k3), if_pos (show x.p.kind = 4 from k4), EHS.out]; rfl] at HR0
      clear HX k1 k2 k3 k4
      have HIC := hid (HI.out W3)
      by_cases q1 : 0 ≤ x.n ∧ x.n < (d.heads.n : Int)
      · have HG : Hid (nodeC d.p k x.p = or2 0 (firstC (([x.yes, x.no] : List Int).map (stepC d.nodes.n k)))) := by show _ = _; rw [HR0.out, show numC d.heads.n x.n = 0 from if_pos q1]
        rw [decide_eq_true q1] at HIC
        clear q1
        go_wp2_with fail
        refine HIC.out.mono ?_
        rintro e w4 ⟨rfl, hb4⟩
        have v3 := cell_keep y3 hb4
        have v4 := cell_keep y4 hb4
        have HB4 := hid hb4
        have HHT := hid (has_twoI w4 x.yes x.no HYW.out HNW.out)
        clear HIC HI hb4
        go_wp2
        go_meet
        exact ⟨0, [x.yes, x.no], _, _, rfl, rfl, HG, (by decide : (2 : Nat) ≤ 2), HHT, bl_alloc HB4.out⟩
      · have HG : Hid (nodeC d.p k x.p = or2 1 (firstC (([x.yes, x.no] : List Int).map (stepC d.nodes.n k)))) := by show _ = _; rw [HR0.out, show numC d.heads.n x.n = 1 from if_neg q1]
        rw [decide_eq_false q1] at HIC
        clear q1
        go_wp2_with fail
        refine HIC.out.mono ?_
        rintro e w4 ⟨rfl, hb4⟩
        have v3 := cell_keep y3 hb4
        have v4 := cell_keep y4 hb4
        have HB4 := hid hb4
        have HHT := hid (has_twoI w4 x.yes x.no HYW.out HNW.out)
        clear HIC HI hb4
        go_wp2
        go_meet
        exact ⟨1, [x.yes, x.no], _, _, rfl, rfl, HG, (by decide : (2 : Nat) ≤ 2), HHT, bl_alloc HB4.out⟩
    have e4 : (x.kind == 4) = false := by simpa using k4
    have HG : Hid (nodeC d.p k x.p = or2 5 (firstC (([x.yes] : List Int).map (stepC d.nodes.n k)))) := by
      show _ = _
      rw [HR0.out, if_neg (by omega), show useC d.p x.p = 5 from by unfold useC; rw [if_neg (show ¬ x.p.kind = 1 from k1), if_neg (show ¬ x.p.kind = 2 from k2), if_neg (show ¬ x.p.kind = 3 from k3), if_neg (show ¬ x.p.kind = 4 from k4)]]
    clear HX HI k1 k2 k3 k4
    go_wp2
    go_meet
    exact ⟨5, [x.yes], _, _, rfl, rfl, HG, (by decide : (1 : Nat) ≤ 2), HW1, Below.refl _ _⟩
  case rest =>
    obtain ⟨E0', L, la, lc, rfl, rfl, HG0, HL2, HWY, HB4⟩ := hcut
    have HBC := hid HB.out
    clear HR0 HW1 HX HI y0 y1 y2 y3 y4 k0 k1' k2' k3' k4' z0 z1 z2 z3 z4 z6
    have HST : Hid (nodeC d.p k x.p = if E0' ≠ 0 then E0' else firstC ((L.drop 0).map (stepC d.nodes.n k))) := HG0
    obtain ⟨m, em⟩ : ∃ m, m = L.length := ⟨_, rfl⟩
    have HM := hid em
    have hm2 : m ≤ 2 := by rw [em]; exact HL2.out
    rw [← em] at HWY ⊢
    have HBZ : Hid (Below wc.heap.size wc wc) := Below.refl _ _
    have z5 := cell_keep z5 HB4.out
    clear em HG0
    go_wp2
    go_loopw [8, 6] (fun q e wr => ∃ (j : Nat) (E : Int), j ≤ m ∧ q = .int .i64 j ∧ e = .int .i64 E ∧ Hid (nodeC d.p k x.p = if E ≠ 0 then E else firstC ((L.drop j).map (stepC d.nodes.n k))) ∧ Hid (Below wc.heap.size wc wr)) (fun q _ _ => m - (intOf q).toNat)
    case atStart => exact ⟨0, _, Nat.zero_le _, rfl, rfl, HST, HBZ⟩
    case round =>
      obtain ⟨j, E, hj, rfl, rfl, hgo, hbw⟩ := hrel
      clear HBZ HST
      have BW := hid (bl_step (bl_step HBC.out HB4.out) hbw.out)
      have z5 := cell_keep z5 hbw.out
      by_cases hlt : j < m
      · have hji : (j : Int) < (m : Int) := by omega
        by_cases hE : E = 0
        · subst hE
          obtain ⟨wg, woff, y, rfl, hy, r0⟩ := int_at' (HWY.out.step hbw.out) hlt
          have hst := first_drop (f := stepC d.nodes.n k) hy
          have r0' := cell_by r0
          have z5' := cell_by z5
          clear hy
          rw [if_neg (by simp)] at hgo
          by_cases g1 : y < 0
          · have f1 := decide_eq_true g1
            have HG : Hid (nodeC d.p k x.p = if (1 : Int) ≠ 0 then (1 : Int) else firstC ((L.drop (j + 1)).map (stepC d.nodes.n k))) := by show _ = _; rw [hgo.out, hst]; rw [show stepC d.nodes.n k y = 1 from if_pos (.inl g1)]
            clear hst hgo
            go_wp2_with fail
            haveI inhB : ∀ w : World, Inhabited (BelowBy w) := fun w => ⟨⟨w, Below.refl _ _⟩⟩
            refine wp_region_quiet_below (by kernel_rfl) (by kernel_rfl) ?_
            repeat (go_big_quiet_step (fail))
            refine wpQuiet_nil ?_
            intro wq hw'
            obtain ⟨⟨_, hwq⟩, hw''⟩ := hw'
            subst hw''
            have HE := hid (bl_step hbw.out hwq)
            have r0 := cell_keep r0 hwq
            clear hwq hbw BW r0' z5'
            go_wp2
            go_roundw
            case rel => exact ⟨j + 1, 1, by omega, by go_num, rfl, HG, HE⟩
            case measure => simp [intOf]; omega
          have f1 := decide_eq_false g1
          by_cases g2 : (d.nodes.n : Int) < y
          · have f2 := decide_eq_true g2
            have HG : Hid (nodeC d.p k x.p = if (1 : Int) ≠ 0 then (1 : Int) else firstC ((L.drop (j + 1)).map (stepC d.nodes.n k))) := by show _ = _; rw [hgo.out, hst]; rw [show stepC d.nodes.n k y = 1 from if_pos (.inr g2)]
            clear hst hgo
            go_wp2_with fail
            haveI inhB : ∀ w : World, Inhabited (BelowBy w) := fun w => ⟨⟨w, Below.refl _ _⟩⟩
            refine wp_region_quiet_below (by kernel_rfl) (by kernel_rfl) ?_
            repeat (go_big_quiet_step (fail))
            refine wpQuiet_nil ?_
            intro wq hw'
            obtain ⟨⟨_, hwq⟩, hw''⟩ := hw'
            subst hw''
            have HE := hid (bl_step hbw.out hwq)
            have r0 := cell_keep r0 hwq
            clear hwq hbw BW r0' z5'
            go_wp2
            go_roundw
            case rel => exact ⟨j + 1, 1, by omega, by go_num, rfl, HG, HE⟩
            case measure => simp [intOf]; omega
          have f2 := decide_eq_false g2
          have n12 : ¬ (y < 0 ∨ (d.nodes.n : Int) < y) := by omega
          by_cases g3 : y ≤ (k : Int)
          · have f3 := decide_eq_true g3
            have HG : Hid (nodeC d.p k x.p = if (11 : Int) ≠ 0 then (11 : Int) else firstC ((L.drop (j + 1)).map (stepC d.nodes.n k))) := by show _ = _; rw [hgo.out, hst]; rw [show stepC d.nodes.n k y = 11 from by unfold stepC; rw [if_neg n12, if_pos g3]]
            clear hst hgo n12
            go_wp2_with fail
            haveI inhB : ∀ w : World, Inhabited (BelowBy w) := fun w => ⟨⟨w, Below.refl _ _⟩⟩
            refine wp_region_quiet_below (by kernel_rfl) (by kernel_rfl) ?_
            repeat (go_big_quiet_step (fail))
            refine wpQuiet_nil ?_
            intro wq hw'
            obtain ⟨⟨_, hwq⟩, hw''⟩ := hw'
            subst hw''
            have HE := hid (bl_step hbw.out hwq)
            have r0 := cell_keep r0 hwq
            clear hwq hbw BW r0' z5'
            go_wp2
            go_roundw
            case rel => exact ⟨j + 1, 11, by omega, by go_num, rfl, HG, HE⟩
            case measure => simp [intOf]; omega
          · have f3 := decide_eq_false g3
            have HG : Hid (nodeC d.p k x.p = if (0 : Int) ≠ 0 then (0 : Int) else firstC ((L.drop (j + 1)).map (stepC d.nodes.n k))) := by show _ = _; rw [hgo.out, hst]; rw [show stepC d.nodes.n k y = 0 from by unfold stepC; rw [if_neg n12, if_neg g3]]
            clear hst hgo n12
            go_wp2_with fail
            haveI inhB : ∀ w : World, Inhabited (BelowBy w) := fun w => ⟨⟨w, Below.refl _ _⟩⟩
            refine wp_region_quiet_below (by kernel_rfl) (by kernel_rfl) ?_
            repeat (go_big_quiet_step (fail))
            refine wpQuiet_nil ?_
            intro wq hw'
            obtain ⟨⟨_, hwq⟩, hw''⟩ := hw'
            subst hw''
            have HE := hid (bl_step hbw.out hwq)
            have r0 := cell_keep r0 hwq
            clear hwq hbw BW r0' z5'
            go_wp2
            go_roundw
            case rel => exact ⟨j + 1, 0, by omega, by go_num, rfl, HG, HE⟩
            case measure => simp [intOf]; omega
        · have bE : (E == 0) = false := by simpa using hE
          have HG : Hid (nodeC d.p k x.p = E) := by show _ = _; rw [hgo.out, if_pos hE]
          clear hgo hE
          go_wp2
          go_ret
          exact ⟨by rw [HG.out]; rfl, BW.out⟩
      · have hji : ¬ (j : Int) < (m : Int) := by omega
        have ej : j = m := by omega
        have HG : Hid (nodeC d.p k x.p = E) := by
          show _ = _
          rw [hgo.out, ej, HM.out, List.drop_length]
          by_cases h : E ≠ 0
          · rw [if_pos h]
          · rw [if_neg h]; show (0 : Int) = E; omega
        clear hgo ej
        go_wp2
        go_ret
        exact ⟨by rw [HG.out]; rfl, BW.out⟩
end Go.Proofs.YtkggocdannkdmaaGreat
