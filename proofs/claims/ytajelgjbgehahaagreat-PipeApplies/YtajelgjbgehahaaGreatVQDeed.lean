/- Deeds of an action: wrongDeed. -/
import Derived.Test.YtajelgjbgehahaaGreatVQTree
import Derived.Test.YtajelgjbgehahaaGreatJ11
import Derived.Deep.RegionHeld3
namespace Go.Proofs.YtajelgjbgehahaaGreat
open Go.RowKit

/-- what goes over an action, as it is handed over -/
@[reducible] def DV (d : PlanD) (a : ActD) : Value := .agg #[.slice d.heads.a d.heads.n d.heads.c, .slice d.mta.a d.mta.n d.mta.c, .slice d.states.a d.states.n d.states.c, .slice d.acts.a d.acts.n d.acts.c, .slice d.tabs.a d.tabs.n d.tabs.c, .slice d.nodes.a d.nodes.n d.nodes.c, .slice d.out.a d.out.n d.out.c, .slice a.w.a a.w.n a.w.c, .slice a.ops.a a.ops.n a.ops.c]
/-- a deed, as it is handed over -/
@[reducible] def OpD.v (o : OpD) : Value := .agg #[.int .i64 o.kind, .int .i64 o.r.h, .int .i64 o.r.f, .int .i64 o.head, .slice o.e.a o.e.n o.e.c]

theorem keep14 {w w' : World} {b0 b1 : Nat} {v0 v1 v2 v3 v4 v5 v6 v7 v8 v9 v10 v11 v12 v13 : Value} (h : w.cell? ⟨b0, 0, none⟩ = some v0 ∧ w.cell? ⟨b0, 1, none⟩ = some v1 ∧ w.cell? ⟨b0, 2, none⟩ = some v2 ∧ w.cell? ⟨b0, 3, none⟩ = some v3 ∧ w.cell? ⟨b0, 4, none⟩ = some v4 ∧ w.cell? ⟨b0, 5, none⟩ = some v5 ∧ w.cell? ⟨b0, 6, none⟩ = some v6 ∧ w.cell? ⟨b0, 7, none⟩ = some v7 ∧ w.cell? ⟨b0, 8, none⟩ = some v8 ∧ w.cell? ⟨b1, 0, none⟩ = some v9 ∧ w.cell? ⟨b1, 1, none⟩ = some v10 ∧ w.cell? ⟨b1, 2, none⟩ = some v11 ∧ w.cell? ⟨b1, 3, none⟩ = some v12 ∧ w.cell? ⟨b1, 4, none⟩ = some v13) (b : Below w.heap.size w w') : w'.cell? ⟨b0, 0, none⟩ = some v0 ∧ w'.cell? ⟨b0, 1, none⟩ = some v1 ∧ w'.cell? ⟨b0, 2, none⟩ = some v2 ∧ w'.cell? ⟨b0, 3, none⟩ = some v3 ∧ w'.cell? ⟨b0, 4, none⟩ = some v4 ∧ w'.cell? ⟨b0, 5, none⟩ = some v5 ∧ w'.cell? ⟨b0, 6, none⟩ = some v6 ∧ w'.cell? ⟨b0, 7, none⟩ = some v7 ∧ w'.cell? ⟨b0, 8, none⟩ = some v8 ∧ w'.cell? ⟨b1, 0, none⟩ = some v9 ∧ w'.cell? ⟨b1, 1, none⟩ = some v10 ∧ w'.cell? ⟨b1, 2, none⟩ = some v11 ∧ w'.cell? ⟨b1, 3, none⟩ = some v12 ∧ w'.cell? ⟨b1, 4, none⟩ = some v13 :=
  ⟨cell_keep (h.1) b, cell_keep (h.2.1) b, cell_keep (h.2.2.1) b, cell_keep (h.2.2.2.1) b, cell_keep (h.2.2.2.2.1) b, cell_keep (h.2.2.2.2.2.1) b, cell_keep (h.2.2.2.2.2.2.1) b, cell_keep (h.2.2.2.2.2.2.2.1) b, cell_keep (h.2.2.2.2.2.2.2.2.1) b, cell_keep (h.2.2.2.2.2.2.2.2.2.1) b, cell_keep (h.2.2.2.2.2.2.2.2.2.2.1) b, cell_keep (h.2.2.2.2.2.2.2.2.2.2.2.1) b, cell_keep (h.2.2.2.2.2.2.2.2.2.2.2.2.1) b, cell_keep (h.2.2.2.2.2.2.2.2.2.2.2.2.2) b⟩

set_option maxHeartbeats 16000000 in
set_option maxRecDepth 20000 in
theorem deed_any (d : PlanD) (a : ActD) (o : OpD) (w : World) (hl : d.lie w) (ha : Has .i64 w a.w.a a.w.n a.ws) (he : QRow 4 PushD.lie w o.e o.es) :
    Calls Tryz.prog 129 #[DV d a, o.v] w fun e w' => e = .returned (.int .i64 (deedC d.p a.ws o.p)) ∧ Below w.heap.size w w' := by
  obtain ⟨W2, hW⟩ : ∃ W2, W2 = ((w.alloc (.cells #[.slice d.heads.a d.heads.n d.heads.c, .slice d.mta.a d.mta.n d.mta.c, .slice d.states.a d.states.n d.states.c, .slice d.acts.a d.acts.n d.acts.c, .slice d.tabs.a d.tabs.n d.tabs.c, .slice d.nodes.a d.nodes.n d.nodes.c, .slice d.out.a d.out.n d.out.c, .slice a.w.a a.w.n a.w.c, .slice a.ops.a a.ops.n a.ops.c] 246)).alloc (.cells #[.int .i64 o.kind, .int .i64 o.r.h, .int .i64 o.r.f, .int .i64 o.head, .slice o.e.a o.e.n o.e.c] 71)) := ⟨_, rfl⟩
  obtain ⟨b0, h0⟩ : ∃ b0, b0 = w.heap.size := ⟨_, rfl⟩
  obtain ⟨b1, h1⟩ : ∃ b1, b1 = w.heap.size + 1 := ⟨_, rfl⟩
  have z0 : W2.cell? ⟨b0, 0, none⟩ = some (.slice d.heads.a d.heads.n d.heads.c) := by rw [hW, h0]; exact (World.cell?_alloc_past _ _ _ (by simp)).trans ((World.cell?_alloc_at _ _ _ _ rfl).trans rfl)
  have z1 : W2.cell? ⟨b0, 1, none⟩ = some (.slice d.mta.a d.mta.n d.mta.c) := by rw [hW, h0]; exact (World.cell?_alloc_past _ _ _ (by simp)).trans ((World.cell?_alloc_at _ _ _ _ rfl).trans rfl)
  have z2 : W2.cell? ⟨b0, 2, none⟩ = some (.slice d.states.a d.states.n d.states.c) := by rw [hW, h0]; exact (World.cell?_alloc_past _ _ _ (by simp)).trans ((World.cell?_alloc_at _ _ _ _ rfl).trans rfl)
  have z3 : W2.cell? ⟨b0, 3, none⟩ = some (.slice d.acts.a d.acts.n d.acts.c) := by rw [hW, h0]; exact (World.cell?_alloc_past _ _ _ (by simp)).trans ((World.cell?_alloc_at _ _ _ _ rfl).trans rfl)
  have z4 : W2.cell? ⟨b0, 4, none⟩ = some (.slice d.tabs.a d.tabs.n d.tabs.c) := by rw [hW, h0]; exact (World.cell?_alloc_past _ _ _ (by simp)).trans ((World.cell?_alloc_at _ _ _ _ rfl).trans rfl)
  have z5 : W2.cell? ⟨b0, 5, none⟩ = some (.slice d.nodes.a d.nodes.n d.nodes.c) := by rw [hW, h0]; exact (World.cell?_alloc_past _ _ _ (by simp)).trans ((World.cell?_alloc_at _ _ _ _ rfl).trans rfl)
  have z6 : W2.cell? ⟨b0, 6, none⟩ = some (.slice d.out.a d.out.n d.out.c) := by rw [hW, h0]; exact (World.cell?_alloc_past _ _ _ (by simp)).trans ((World.cell?_alloc_at _ _ _ _ rfl).trans rfl)
  have z7 : W2.cell? ⟨b0, 7, none⟩ = some (.slice a.w.a a.w.n a.w.c) := by rw [hW, h0]; exact (World.cell?_alloc_past _ _ _ (by simp)).trans ((World.cell?_alloc_at _ _ _ _ rfl).trans rfl)
  have z8 : W2.cell? ⟨b0, 8, none⟩ = some (.slice a.ops.a a.ops.n a.ops.c) := by rw [hW, h0]; exact (World.cell?_alloc_past _ _ _ (by simp)).trans ((World.cell?_alloc_at _ _ _ _ rfl).trans rfl)
  have y0 : W2.cell? ⟨b1, 0, none⟩ = some (.int .i64 o.kind) := by rw [hW, h1]; exact (World.cell?_alloc_at _ _ _ _ (by simp)).trans rfl
  have y1 : W2.cell? ⟨b1, 1, none⟩ = some (.int .i64 o.r.h) := by rw [hW, h1]; exact (World.cell?_alloc_at _ _ _ _ (by simp)).trans rfl
  have y2 : W2.cell? ⟨b1, 2, none⟩ = some (.int .i64 o.r.f) := by rw [hW, h1]; exact (World.cell?_alloc_at _ _ _ _ (by simp)).trans rfl
  have y3 : W2.cell? ⟨b1, 3, none⟩ = some (.int .i64 o.head) := by rw [hW, h1]; exact (World.cell?_alloc_at _ _ _ _ (by simp)).trans rfl
  have y4 : W2.cell? ⟨b1, 4, none⟩ = some (.slice o.e.a o.e.n o.e.c) := by rw [hW, h1]; exact (World.cell?_alloc_at _ _ _ _ (by simp)).trans rfl
  have HB : Hid (Below w.heap.size w W2) := by rw [hW]; exact bl_alloc (bl_alloc (Below.refl _ _))
  have E3 := hid hW
  have E0 := hid h0
  have E1 := hid h1
  clear hW h0 h1
  have HTA : Hid (∀ w', Below w.heap.size w w' → Calls Tryz.prog 141 #[d.v, .agg #[.int .i64 o.r.h, .int .i64 o.r.f]] w' fun e w'' => e = .returned (.int .i64 (targetC d.p o.r)) ∧ Below w'.heap.size w' w'') := fun w' h => target_any d o.r w' (hl.step h)
  have HTR : Hid (∀ w', Below w.heap.size w w' → Calls Tryz.prog 142 #[d.v, .slice o.e.a o.e.n o.e.c, .slice a.w.a a.w.n a.w.c] w' fun e w'' => e = .returned (.int .i64 (treeC d.p o.es a.ws)) ∧ Below w'.heap.size w' w'') := fun w' h => tree_any d o.e o.es a.w.a a.w.n a.w.c a.ws w' (hl.step h) (he.step PushD.keeps h) (ha.step h)
  have ehs : d.p.hs.length = d.heads.n := by simp [PlanD.p, hl.hs.1]
  have HNU : Hid (∀ w', Calls Tryz.prog 143 #[.slice d.heads.a d.heads.n d.heads.c, .int .i64 o.head] w' fun e w'' => e = .returned (.int .i64 (numC d.p.hs.length o.head)) ∧ w'' = w') := fun w' => by
    rw [ehs]
    exact numH_any _ _ _ _ w'
  have HOR : Hid (∀ (w' : World) (x y : Int), Calls Tryz.prog 123 #[.slice (some ⟨w'.heap.size, 0, none⟩) 2 2] (w'.alloc (.cells #[.int .i64 x, .int .i64 y] 3)) fun e w'' => e = .returned (.int .i64 (or2 x y)) ∧ w'' = w'.alloc (.cells #[.int .i64 x, .int .i64 y] 3)) := fun w' x y => qor2_any (b := w'.heap.size) (x := x) (y := y) (or2 x y) rfl (by simp) (by simp)
  clear hl ha he ehs
  generalize hTA : targetC d.p o.r = TA at *
  generalize hTR : treeC d.p o.es a.ws = TR at *
  generalize hNU : numC d.p.hs.length o.head = NU at *
  have HTAE := hid hTA
  have HTRE := hid hTR
  have HNUE := hid hNU
  clear hTA hTR hNU
  by_cases k1 : o.kind = 1
  · have e1 : (o.kind == 1) = true := by simpa using k1
    have HR : Hid (deedC d.p a.ws o.p = or2 TA TR) := by show deedC d.p a.ws o.p = _; unfold deedC; rw [if_pos (show o.p.kind = 1 from k1)]; rw [← HTAE.out, ← HTRE.out]; rfl
    clear k1 HNU
    go_enter Tryz.func129, Tryz.ntmps129
    go_wp2_with fail
    rw [← E3.out, ← E1.out, ← E0.out]
    clear E3 E1 E0
    go_region_held3 (fun w' => w'.cell? ⟨b0, 0, none⟩ = some (.slice d.heads.a d.heads.n d.heads.c) ∧ w'.cell? ⟨b0, 1, none⟩ = some (.slice d.mta.a d.mta.n d.mta.c) ∧ w'.cell? ⟨b0, 2, none⟩ = some (.slice d.states.a d.states.n d.states.c) ∧ w'.cell? ⟨b0, 3, none⟩ = some (.slice d.acts.a d.acts.n d.acts.c) ∧ w'.cell? ⟨b0, 4, none⟩ = some (.slice d.tabs.a d.tabs.n d.tabs.c) ∧ w'.cell? ⟨b0, 5, none⟩ = some (.slice d.nodes.a d.nodes.n d.nodes.c) ∧ w'.cell? ⟨b0, 6, none⟩ = some (.slice d.out.a d.out.n d.out.c) ∧ w'.cell? ⟨b0, 7, none⟩ = some (.slice a.w.a a.w.n a.w.c) ∧ w'.cell? ⟨b0, 8, none⟩ = some (.slice a.ops.a a.ops.n a.ops.c) ∧ w'.cell? ⟨b1, 0, none⟩ = some (.int .i64 o.kind) ∧ w'.cell? ⟨b1, 1, none⟩ = some (.int .i64 o.r.h) ∧ w'.cell? ⟨b1, 2, none⟩ = some (.int .i64 o.r.f) ∧ w'.cell? ⟨b1, 3, none⟩ = some (.int .i64 o.head) ∧ w'.cell? ⟨b1, 4, none⟩ = some (.slice o.e.a o.e.n o.e.c))
      (first
        | go_keep
        | (go_split_ands
           exact keep14 ⟨by assumption, by assumption, by assumption, by assumption, by assumption, by assumption, by assumption, by assumption, by assumption, by assumption, by assumption, by assumption, by assumption, by assumption⟩ hbx))
      (first
        | (go_at_call 141; refine (HTA.out _ (bl_step HB.out (Below.refl W2.heap.size W2).drew)).mono ?_; rintro e wx ⟨rfl, hbx⟩; have HBX := hid hbx)
        | (go_at_call 142; refine (HTR.out _ (bl_step (bl_step HB.out (Below.refl W2.heap.size W2).drew) HBX.out)).mono ?_; rintro e wx ⟨rfl, hbx⟩; have HBY := hid hbx)
        | (go_at_call 123; refine (HOR.out _ _ _).mono ?_; rintro e wz ⟨rfl, rfl⟩))
    all_goals
      have HE := hid (bl_alloc (o := .cells #[.int .i64 TA, .int .i64 TR] 3) (bl_step (bl_step (bl_step HB.out (Below.refl W2.heap.size W2).drew) HBX.out) HBY.out))
      clear HB HBX HBY
      go_wp2
      go_ret
      exact ⟨by rw [HR.out]; rfl, HE.out⟩
  have e1 : (o.kind == 1) = false := by simpa using k1
  by_cases k2 : o.kind = 2
  · have e2 : (o.kind == 2) = true := by simpa using k2
    have HR : Hid (deedC d.p a.ws o.p = NU) := by show deedC d.p a.ws o.p = _; unfold deedC; rw [if_neg (show ¬ o.p.kind = 1 from k1), if_pos (show o.p.kind = 2 ∨ o.p.kind = 3 from .inl k2)]; exact HNUE.out
    clear k1 k2 HTA HTR HOR
    go_enter Tryz.func129, Tryz.ntmps129
    go_wp2_with fail
    rw [← E3.out, ← E1.out, ← E0.out]
    clear E3 E1 E0
    refine (HNU.out _).mono ?_
    rintro e wx ⟨rfl, rfl⟩
    clear HNU
    go_wp2
    go_ret
    exact ⟨by rw [HR.out]; rfl, HB.out⟩
  have e2 : (o.kind == 2) = false := by simpa using k2
  by_cases k3 : o.kind = 3
  · have e3 : (o.kind == 3) = true := by simpa using k3
    have HR : Hid (deedC d.p a.ws o.p = NU) := by show deedC d.p a.ws o.p = _; unfold deedC; rw [if_neg (show ¬ o.p.kind = 1 from k1), if_pos (show o.p.kind = 2 ∨ o.p.kind = 3 from .inr k3)]; exact HNUE.out
    clear k1 k2 HTA HTR HOR k3
    go_enter Tryz.func129, Tryz.ntmps129
    go_wp2_with fail
    rw [← E3.out, ← E1.out, ← E0.out]
    clear E3 E1 E0
    refine (HNU.out _).mono ?_
    rintro e wx ⟨rfl, rfl⟩
    clear HNU
    go_wp2
    go_ret
    exact ⟨by rw [HR.out]; rfl, HB.out⟩
  have e3 : (o.kind == 3) = false := by simpa using k3
  have n23 : ¬ (o.p.kind = 2 ∨ o.p.kind = 3) := fun h => h.elim k2 k3
  by_cases k4 : o.kind = 4
  · have e4 : (o.kind == 4) = true := by simpa using k4
    have HR : Hid (deedC d.p a.ws o.p = 0) := by show deedC d.p a.ws o.p = _; unfold deedC; rw [if_neg (show ¬ o.p.kind = 1 from k1), if_neg n23, if_pos (show o.p.kind = 4 from k4)]
    clear k1 k2 k3 k4 HTA HTR HOR HNU n23
    go_enter Tryz.func129, Tryz.ntmps129
    go_wp2
    go_ret
    exact ⟨by rw [HR.out]; rfl, by rw [E3.out] at HB; exact HB.out⟩
  have e4 : (o.kind == 4) = false := by simpa using k4
  by_cases k5 : o.kind = 5
  · have e5 : (o.kind == 5) = true := by simpa using k5
    have HR : Hid (deedC d.p a.ws o.p = TR) := by show deedC d.p a.ws o.p = _; unfold deedC; rw [if_neg (show ¬ o.p.kind = 1 from k1), if_neg n23, if_neg (show ¬ o.p.kind = 4 from k4), if_pos (show o.p.kind = 5 from k5)]; exact HTRE.out
    clear k1 k2 k3 k4 k5 HTA HOR HNU n23
    go_enter Tryz.func129, Tryz.ntmps129
    go_wp2_with fail
    rw [← E3.out, ← E1.out, ← E0.out]
    clear E3 E1 E0
    refine (HTR.out _ HB.out).mono ?_
    rintro e wx ⟨rfl, hbx⟩
    have HE := hid (bl_step HB.out hbx)
    clear HTR hbx HB
    go_wp2
    go_ret
    exact ⟨by rw [HR.out]; rfl, HE.out⟩
  have e5 : (o.kind == 5) = false := by simpa using k5
  by_cases k6 : o.kind = 6
  · have e6 : (o.kind == 6) = true := by simpa using k6
    have HR : Hid (deedC d.p a.ws o.p = or2 TA NU) := by show deedC d.p a.ws o.p = _; unfold deedC; rw [if_neg (show ¬ o.p.kind = 1 from k1), if_neg n23, if_neg (show ¬ o.p.kind = 4 from k4), if_neg (show ¬ o.p.kind = 5 from k5), if_pos (show o.p.kind = 6 from k6)]; rw [← HTAE.out, ← HNUE.out]; rfl
    clear k1 k2 k3 k4 k5 k6 HTR n23
    go_enter Tryz.func129, Tryz.ntmps129
    go_wp2_with fail
    rw [← E3.out, ← E1.out, ← E0.out]
    clear E3 E1 E0
    go_region_held3 (fun w' => w'.cell? ⟨b0, 0, none⟩ = some (.slice d.heads.a d.heads.n d.heads.c) ∧ w'.cell? ⟨b0, 1, none⟩ = some (.slice d.mta.a d.mta.n d.mta.c) ∧ w'.cell? ⟨b0, 2, none⟩ = some (.slice d.states.a d.states.n d.states.c) ∧ w'.cell? ⟨b0, 3, none⟩ = some (.slice d.acts.a d.acts.n d.acts.c) ∧ w'.cell? ⟨b0, 4, none⟩ = some (.slice d.tabs.a d.tabs.n d.tabs.c) ∧ w'.cell? ⟨b0, 5, none⟩ = some (.slice d.nodes.a d.nodes.n d.nodes.c) ∧ w'.cell? ⟨b0, 6, none⟩ = some (.slice d.out.a d.out.n d.out.c) ∧ w'.cell? ⟨b0, 7, none⟩ = some (.slice a.w.a a.w.n a.w.c) ∧ w'.cell? ⟨b0, 8, none⟩ = some (.slice a.ops.a a.ops.n a.ops.c) ∧ w'.cell? ⟨b1, 0, none⟩ = some (.int .i64 o.kind) ∧ w'.cell? ⟨b1, 1, none⟩ = some (.int .i64 o.r.h) ∧ w'.cell? ⟨b1, 2, none⟩ = some (.int .i64 o.r.f) ∧ w'.cell? ⟨b1, 3, none⟩ = some (.int .i64 o.head) ∧ w'.cell? ⟨b1, 4, none⟩ = some (.slice o.e.a o.e.n o.e.c))
      (first
        | go_keep
        | (go_split_ands
           exact keep14 ⟨by assumption, by assumption, by assumption, by assumption, by assumption, by assumption, by assumption, by assumption, by assumption, by assumption, by assumption, by assumption, by assumption, by assumption⟩ hbx))
      (first
        | (go_at_call 141; refine (HTA.out _ (bl_step HB.out (Below.refl W2.heap.size W2).drew)).mono ?_; rintro e wx ⟨rfl, hbx⟩; have HBX := hid hbx)
        | (go_at_call 143; refine (HNU.out _).mono ?_; rintro e wx ⟨rfl, rfl⟩)
        | (go_at_call 123; refine (HOR.out _ _ _).mono ?_; rintro e wz ⟨rfl, rfl⟩))
    all_goals
      have HE := hid (bl_alloc (o := .cells #[.int .i64 TA, .int .i64 NU] 3) (bl_step (bl_step HB.out (Below.refl W2.heap.size W2).drew) HBX.out))
      clear HB HBX
      go_wp2
      go_ret
      exact ⟨by rw [HR.out]; rfl, HE.out⟩
  · have e6 : (o.kind == 6) = false := by simpa using k6
    have HR : Hid (deedC d.p a.ws o.p = 5) := by show deedC d.p a.ws o.p = _; unfold deedC; rw [if_neg (show ¬ o.p.kind = 1 from k1), if_neg n23, if_neg (show ¬ o.p.kind = 4 from k4), if_neg (show ¬ o.p.kind = 5 from k5), if_neg (show ¬ o.p.kind = 6 from k6)]
    clear k1 k2 k3 k4 k5 k6 HTA HTR HOR HNU n23
    go_enter Tryz.func129, Tryz.ntmps129
    go_wp2
    go_ret
    exact ⟨by rw [HR.out]; rfl, by rw [E3.out] at HB; exact HB.out⟩
end Go.Proofs.YtajelgjbgehahaaGreat
