/- Texts of one chain, joined: QAct. -/
import Derived.Test.YtedeiaokohdhpaaGreatG20
import Derived.Test.YtedeiaokohdhpaaGreatG31
namespace Go.Proofs.YtedeiaokohdhpaaGreat
open Go.RowKit
theorem keep9 {w w' : World} {b0 b1 : Nat} {v0 v1 v2 v3 v4 v5 v6 v7 v8 : Value} (h : w.cell? ⟨b0, 0, none⟩ = some v0 ∧ w.cell? ⟨b0, 1, none⟩ = some v1 ∧ w.cell? ⟨b0, 2, none⟩ = some v2 ∧ w.cell? ⟨b0, 3, none⟩ = some v3 ∧ w.cell? ⟨b0, 4, none⟩ = some v4 ∧ w.cell? ⟨b0, 5, none⟩ = some v5 ∧ w.cell? ⟨b0, 6, none⟩ = some v6 ∧ w.cell? ⟨b1, 0, none⟩ = some v7 ∧ w.cell? ⟨b1, 1, none⟩ = some v8) (b : Below w.heap.size w w') : w'.cell? ⟨b0, 0, none⟩ = some v0 ∧ w'.cell? ⟨b0, 1, none⟩ = some v1 ∧ w'.cell? ⟨b0, 2, none⟩ = some v2 ∧ w'.cell? ⟨b0, 3, none⟩ = some v3 ∧ w'.cell? ⟨b0, 4, none⟩ = some v4 ∧ w'.cell? ⟨b0, 5, none⟩ = some v5 ∧ w'.cell? ⟨b0, 6, none⟩ = some v6 ∧ w'.cell? ⟨b1, 0, none⟩ = some v7 ∧ w'.cell? ⟨b1, 1, none⟩ = some v8 :=
  ⟨cell_keep (h.1) b, cell_keep (h.2.1) b, cell_keep (h.2.2.1) b, cell_keep (h.2.2.2.1) b, cell_keep (h.2.2.2.2.1) b, cell_keep (h.2.2.2.2.2.1) b, cell_keep (h.2.2.2.2.2.2.1) b, cell_keep (h.2.2.2.2.2.2.2.1) b, cell_keep (h.2.2.2.2.2.2.2.2) b⟩
set_option maxHeartbeats 16000000 in
set_option maxRecDepth 20000 in
theorem action_any (d : PlanD) (w : World) (hl : d.lie w) (k : Nat) (hk : k < d.acts.n) (x : ActD) (hx : d.al[k]? = some x) :
    Calls Tryz.prog 49 #[d.v, .int .i64 k] w fun e w' => e = .returned (.int .i64 (actC d.p x.p)) ∧ Below w.heap.size w w' := by
  have bw1 : ∀ o, Below w.heap.size w (w.alloc o) := fun o => bl_alloc (Below.refl _ _)
  obtain ⟨g, off, x', ea, hx', ⟨c0, _⟩, ⟨c1, _⟩, hws, hos⟩ := row_at hl.al hk
  obtain rfl : x = x' := by rw [hx] at hx'; exact Option.some.inj hx'
  have hwl := hws.1
  have hol := hos.1
  have HFW : Hid (x.w.n ≤ 100000 → ∀ w', Below w.heap.size w w' → Calls Tryz.prog 93 #[.slice x.w.a x.w.n x.w.c, .func (.func 86) #[] #[]] w' fun e w'' => e = .returned (.int .i64 (firstC (x.ws.map widC))) ∧ Below w'.heap.size w' w'') := fun hs w' h =>
    firstWid_any x.w x.ws widC w' hs (hws.step h) (fun w'' _ c _ => (wid_any c w'').mono fun _ _ ⟨h1, h2⟩ => ⟨h1, by rw [h2]; exact Below.refl _ _⟩)
  have HFO : Hid (x.ops.n ≤ 100000 → ∀ w', Below w.heap.size w w' → Calls Tryz.prog 94 #[.slice x.ops.a x.ops.n x.ops.c, .func (.func 95) #[DV d x] #[]] w' fun e w'' => e = .returned (.int .i64 (firstC (x.os.map (fun o => deedC d.p x.ws o.p)))) ∧ Below w'.heap.size w' w'') := fun hs w' h =>
    firstOp_any (DV d x) x.ops x.os (fun o => deedC d.p x.ws o.p) w' hs (hos.step OpD.keeps h) (fun w'' h' o ho => by
      obtain ⟨i, hi⟩ := List.getElem?_of_mem ho
      obtain ⟨g2, off2, _, ⟨_, _, _, _, _, he⟩⟩ := hos.2 i o hi
      exact deed_any d x o w'' (hl.step (bl_step h h')) (hws.step (bl_step h h')) (he.step PushD.keeps (bl_step h h')))
  have HRES : Hid (actC d.p x.p = if 3 < x.ws.length ∨ 5 < x.os.length then 2 else or2 (firstC (x.ws.map widC)) (firstC (x.os.map (fun o => deedC d.p x.ws o.p)))) := by
    show actC d.p x.p = _
    unfold actC ActD.p
    simp only [List.length_map, List.map_map]
    rfl
  generalize firstC (x.ws.map widC) = FW at *
  generalize firstC (x.os.map (fun o => deedC d.p x.ws o.p)) = FO at *
  have HOR : Hid (∀ (w' : World), Calls Tryz.prog 89 #[.slice (some ⟨w'.heap.size, 0, none⟩) 2 2] (w'.alloc (.cells #[.int .i64 FW, .int .i64 FO] 3)) fun e w'' => e = .returned (.int .i64 (or2 FW FO)) ∧ w'' = w'.alloc (.cells #[.int .i64 FW, .int .i64 FO] 3)) := fun w' => qor2_any (b := w'.heap.size) (x := FW) (y := FO) (or2 FW FO) rfl (by simp) (by simp)
  have hki : (k : Int) < (d.acts.n : Int) := by omega
  have k0 : ∀ o, (w.alloc o).cell? ⟨g, off + k * 2, none⟩ = some (.slice x.w.a x.w.n x.w.c) := fun o => cell_keep c0 (bw1 o)
  have k1 : ∀ o, (w.alloc o).cell? ⟨g, off + k * 2 + 1, none⟩ = some (.slice x.ops.a x.ops.n x.ops.c) := fun o => cell_keep c1 (bw1 o)
  obtain ⟨W2, hW⟩ : ∃ W2, W2 = ((w.alloc (.cells #[.slice d.heads.a d.heads.n d.heads.c, .slice d.mta.a d.mta.n d.mta.c, .slice d.states.a d.states.n d.states.c, .slice (some ⟨g, off, none⟩) d.acts.n d.acts.c, .slice d.tabs.a d.tabs.n d.tabs.c, .slice d.nodes.a d.nodes.n d.nodes.c, .slice d.out.a d.out.n d.out.c] 102)).alloc (.cells #[.slice x.w.a x.w.n x.w.c, .slice x.ops.a x.ops.n x.ops.c] 56)) := ⟨_, rfl⟩
  obtain ⟨b0, h0⟩ : ∃ b0, b0 = w.heap.size := ⟨_, rfl⟩
  obtain ⟨b1, h1⟩ : ∃ b1, b1 = w.heap.size + 1 := ⟨_, rfl⟩
  have z0 : W2.cell? ⟨b0, 0, none⟩ = some (.slice d.heads.a d.heads.n d.heads.c) := by rw [hW, h0]; exact (World.cell?_alloc_past _ _ _ (by simp)).trans ((World.cell?_alloc_at _ _ _ _ rfl).trans rfl)
  have z1 : W2.cell? ⟨b0, 1, none⟩ = some (.slice d.mta.a d.mta.n d.mta.c) := by rw [hW, h0]; exact (World.cell?_alloc_past _ _ _ (by simp)).trans ((World.cell?_alloc_at _ _ _ _ rfl).trans rfl)
  have z2 : W2.cell? ⟨b0, 2, none⟩ = some (.slice d.states.a d.states.n d.states.c) := by rw [hW, h0]; exact (World.cell?_alloc_past _ _ _ (by simp)).trans ((World.cell?_alloc_at _ _ _ _ rfl).trans rfl)
  have z3 : W2.cell? ⟨b0, 3, none⟩ = some (.slice (some ⟨g, off, none⟩) d.acts.n d.acts.c) := by rw [hW, h0]; exact (World.cell?_alloc_past _ _ _ (by simp)).trans ((World.cell?_alloc_at _ _ _ _ rfl).trans rfl)
  have z4 : W2.cell? ⟨b0, 4, none⟩ = some (.slice d.tabs.a d.tabs.n d.tabs.c) := by rw [hW, h0]; exact (World.cell?_alloc_past _ _ _ (by simp)).trans ((World.cell?_alloc_at _ _ _ _ rfl).trans rfl)
  have z5 : W2.cell? ⟨b0, 5, none⟩ = some (.slice d.nodes.a d.nodes.n d.nodes.c) := by rw [hW, h0]; exact (World.cell?_alloc_past _ _ _ (by simp)).trans ((World.cell?_alloc_at _ _ _ _ rfl).trans rfl)
  have z6 : W2.cell? ⟨b0, 6, none⟩ = some (.slice d.out.a d.out.n d.out.c) := by rw [hW, h0]; exact (World.cell?_alloc_past _ _ _ (by simp)).trans ((World.cell?_alloc_at _ _ _ _ rfl).trans rfl)
  have y0 : W2.cell? ⟨b1, 0, none⟩ = some (.slice x.w.a x.w.n x.w.c) := by rw [hW, h1]; exact (World.cell?_alloc_at _ _ _ _ (by simp)).trans rfl
  have y1 : W2.cell? ⟨b1, 1, none⟩ = some (.slice x.ops.a x.ops.n x.ops.c) := by rw [hW, h1]; exact (World.cell?_alloc_at _ _ _ _ (by simp)).trans rfl
  have HB : Hid (Below w.heap.size w W2) := by rw [hW]; exact bl_alloc (bl_alloc (Below.refl _ _))
  have E3 := hid hW
  have E0 := hid h0
  have E1 := hid h1
  unfold DV at HFO
  rw [ea] at HFO
  have HWL := hid hwl
  have HOL := hid hol
  clear hW h0 h1 hl hx hx' c0 c1 hws hos hwl hol bw1
  have hmf : ∀ (fn : Fn) (first cap : Array Value) (w : World), (Instr.makeFunc fn first cap).run Tryz.prog w = .ok (.func fn first cap) w := fun _ _ _ _ => rfl
  by_cases h3 : (3 : Int) < (x.w.n : Int)
  · have d3 := decide_eq_true h3
    rw [if_pos (.inl (by rw [HWL.out]; omega))] at HRES
    clear h3 HFW HFO HOR
    go_enter Tryz.func49, Tryz.ntmps49
    go_wp2
    go_ret
    exact ⟨by rw [HRES.out]; rfl, bl_alloc (bl_alloc (Below.refl _ _))⟩
  have d3 := decide_eq_false h3
  by_cases h5 : (5 : Int) < (x.ops.n : Int)
  · have d5 := decide_eq_true h5
    rw [if_pos (.inr (by rw [HOL.out]; omega))] at HRES
    clear h3 h5 HFW HFO HOR
    go_enter Tryz.func49, Tryz.ntmps49
    go_wp2
    go_ret
    exact ⟨by rw [HRES.out]; rfl, bl_alloc (bl_alloc (Below.refl _ _))⟩
  have d5 := decide_eq_false h5
  rw [if_neg (by rw [HWL.out, HOL.out]; omega)] at HRES
  have HFW := hid (HFW.out (by omega))
  have HFO := hid (HFO.out (by omega))
  clear h3 h5
  go_enter Tryz.func49, Tryz.ntmps49
  go_wp2_with fail
  rw [← E3.out, ← E1.out, ← E0.out]
  clear E3 E1 E0 k0 k1
  go_region_held3 (fun w' => w'.cell? ⟨b0, 0, none⟩ = some (.slice d.heads.a d.heads.n d.heads.c) ∧ w'.cell? ⟨b0, 1, none⟩ = some (.slice d.mta.a d.mta.n d.mta.c) ∧ w'.cell? ⟨b0, 2, none⟩ = some (.slice d.states.a d.states.n d.states.c) ∧ w'.cell? ⟨b0, 3, none⟩ = some (.slice (some ⟨g, off, none⟩) d.acts.n d.acts.c) ∧ w'.cell? ⟨b0, 4, none⟩ = some (.slice d.tabs.a d.tabs.n d.tabs.c) ∧ w'.cell? ⟨b0, 5, none⟩ = some (.slice d.nodes.a d.nodes.n d.nodes.c) ∧ w'.cell? ⟨b0, 6, none⟩ = some (.slice d.out.a d.out.n d.out.c) ∧ w'.cell? ⟨b1, 0, none⟩ = some (.slice x.w.a x.w.n x.w.c) ∧ w'.cell? ⟨b1, 1, none⟩ = some (.slice x.ops.a x.ops.n x.ops.c))
    (first
      | go_keep
      | (go_split_ands
         exact keep9 ⟨by assumption, by assumption, by assumption, by assumption, by assumption, by assumption, by assumption, by assumption, by assumption⟩ hbx))
    (first
      | (go_at_call 93; refine (HFW.out _ (bl_step HB.out (Below.refl W2.heap.size W2).drew)).mono ?_; rintro e wx ⟨rfl, hbx⟩; have HBX := hid hbx)
      | (go_at_call 94; refine (HFO.out _ (bl_step (bl_step HB.out (Below.refl W2.heap.size W2).drew) HBX.out)).mono ?_; rintro e wx ⟨rfl, hbx⟩; have HBY := hid hbx)
      | (go_at_call 89; refine (HOR.out _).mono ?_; rintro e wz ⟨rfl, rfl⟩))
  all_goals
    have HE := hid (bl_alloc (o := .cells #[.int .i64 FW, .int .i64 FO] 3) (bl_step (bl_step (bl_step HB.out (Below.refl W2.heap.size W2).drew) HBX.out) HBY.out))
    clear HB HBX HBY
    go_wp2
    go_ret
    exact ⟨by rw [HRES.out]; rfl, HE.out⟩
end Go.Proofs.YtedeiaokohdhpaaGreat
