/- Cases of a state: wrongCase. -/
import Derived.Test.YtajelgjbgehahaaGreatVQJ2
import Derived.Test.YtajelgjbgehahaaGreatVSSmall
import Derived.Test.YtajelgjbgehahaaGreatJ1
namespace Go.Proofs.YtajelgjbgehahaaGreat
open Go.RowKit

/-- the code of a case of the state of number n, which looks at the field r -/
def caseC (p : PPlan) (r : RefD) (n : Int) (c : CaseD) : Int := if p.width r [] < blen c.mask ∨ bits .andNot .u64 c.value c.mask ≠ 0 then 6 else wayC p.ss.length n c.to

set_option maxHeartbeats 8000000 in
set_option maxRecDepth 20000 in
theorem case_any (d : PlanD) (x : StateD) (n : Int) (c : CaseD) (w : World) (hl : d.lie w) (hm : 0 ≤ c.mask ∧ c.mask < 18446744073709551616) :
    Calls Tryz.prog 125 #[LV d x n, .agg #[.int .u64 c.value, .int .u64 c.mask, .int .i64 c.to]] w fun e w' => e = .returned (.int .i64 (caseC d.p x.r n c)) ∧ Below w.heap.size w w' := by
  obtain ⟨W2, hW⟩ : ∃ W2, W2 = ((w.alloc (.cells #[.slice d.heads.a d.heads.n d.heads.c, .slice d.mta.a d.mta.n d.mta.c, .slice d.states.a d.states.n d.states.c, .slice d.acts.a d.acts.n d.acts.c, .slice d.tabs.a d.tabs.n d.tabs.c, .slice d.nodes.a d.nodes.n d.nodes.c, .slice d.out.a d.out.n d.out.c, .int .i64 x.head, .int .i64 x.r.h, .int .i64 x.r.f, .slice x.cases.a x.cases.n x.cases.c, .int .i64 x.els, .int .i64 n] 238)).alloc (.cells #[.int .u64 c.value, .int .u64 c.mask, .int .i64 c.to] 137)) := ⟨_, rfl⟩
  obtain ⟨b0, h0⟩ : ∃ b0, b0 = w.heap.size := ⟨_, rfl⟩
  obtain ⟨b1, h1⟩ : ∃ b1, b1 = w.heap.size + 1 := ⟨_, rfl⟩
  have z0 : W2.cell? ⟨b0, 0, none⟩ = some (.slice d.heads.a d.heads.n d.heads.c) := by rw [hW, h0]; exact (World.cell?_alloc_past _ _ _ (by simp)).trans ((World.cell?_alloc_at _ _ _ _ rfl).trans rfl)
  have z1 : W2.cell? ⟨b0, 1, none⟩ = some (.slice d.mta.a d.mta.n d.mta.c) := by rw [hW, h0]; exact (World.cell?_alloc_past _ _ _ (by simp)).trans ((World.cell?_alloc_at _ _ _ _ rfl).trans rfl)
  have z2 : W2.cell? ⟨b0, 2, none⟩ = some (.slice d.states.a d.states.n d.states.c) := by rw [hW, h0]; exact (World.cell?_alloc_past _ _ _ (by simp)).trans ((World.cell?_alloc_at _ _ _ _ rfl).trans rfl)
  have z3 : W2.cell? ⟨b0, 3, none⟩ = some (.slice d.acts.a d.acts.n d.acts.c) := by rw [hW, h0]; exact (World.cell?_alloc_past _ _ _ (by simp)).trans ((World.cell?_alloc_at _ _ _ _ rfl).trans rfl)
  have z4 : W2.cell? ⟨b0, 4, none⟩ = some (.slice d.tabs.a d.tabs.n d.tabs.c) := by rw [hW, h0]; exact (World.cell?_alloc_past _ _ _ (by simp)).trans ((World.cell?_alloc_at _ _ _ _ rfl).trans rfl)
  have z5 : W2.cell? ⟨b0, 5, none⟩ = some (.slice d.nodes.a d.nodes.n d.nodes.c) := by rw [hW, h0]; exact (World.cell?_alloc_past _ _ _ (by simp)).trans ((World.cell?_alloc_at _ _ _ _ rfl).trans rfl)
  have z6 : W2.cell? ⟨b0, 6, none⟩ = some (.slice d.out.a d.out.n d.out.c) := by rw [hW, h0]; exact (World.cell?_alloc_past _ _ _ (by simp)).trans ((World.cell?_alloc_at _ _ _ _ rfl).trans rfl)
  have z7 : W2.cell? ⟨b0, 7, none⟩ = some (.int .i64 x.head) := by rw [hW, h0]; exact (World.cell?_alloc_past _ _ _ (by simp)).trans ((World.cell?_alloc_at _ _ _ _ rfl).trans rfl)
  have z8 : W2.cell? ⟨b0, 8, none⟩ = some (.int .i64 x.r.h) := by rw [hW, h0]; exact (World.cell?_alloc_past _ _ _ (by simp)).trans ((World.cell?_alloc_at _ _ _ _ rfl).trans rfl)
  have z9 : W2.cell? ⟨b0, 9, none⟩ = some (.int .i64 x.r.f) := by rw [hW, h0]; exact (World.cell?_alloc_past _ _ _ (by simp)).trans ((World.cell?_alloc_at _ _ _ _ rfl).trans rfl)
  have z10 : W2.cell? ⟨b0, 10, none⟩ = some (.slice x.cases.a x.cases.n x.cases.c) := by rw [hW, h0]; exact (World.cell?_alloc_past _ _ _ (by simp)).trans ((World.cell?_alloc_at _ _ _ _ rfl).trans rfl)
  have z11 : W2.cell? ⟨b0, 11, none⟩ = some (.int .i64 x.els) := by rw [hW, h0]; exact (World.cell?_alloc_past _ _ _ (by simp)).trans ((World.cell?_alloc_at _ _ _ _ rfl).trans rfl)
  have z12 : W2.cell? ⟨b0, 12, none⟩ = some (.int .i64 n) := by rw [hW, h0]; exact (World.cell?_alloc_past _ _ _ (by simp)).trans ((World.cell?_alloc_at _ _ _ _ rfl).trans rfl)
  have y0 : W2.cell? ⟨b1, 0, none⟩ = some (.int .u64 c.value) := by rw [hW, h1]; exact (World.cell?_alloc_at _ _ _ _ (by simp)).trans rfl
  have y1 : W2.cell? ⟨b1, 1, none⟩ = some (.int .u64 c.mask) := by rw [hW, h1]; exact (World.cell?_alloc_at _ _ _ _ (by simp)).trans rfl
  have y2 : W2.cell? ⟨b1, 2, none⟩ = some (.int .i64 c.to) := by rw [hW, h1]; exact (World.cell?_alloc_at _ _ _ _ (by simp)).trans rfl
  have HB : Hid (Below w.heap.size w W2) := by rw [hW]; exact bl_alloc (bl_alloc (Below.refl _ _))
  have E3 := hid hW
  have E0 := hid h0
  have E1 := hid h1
  clear hW h0 h1
  have z0' := cell_by z0
  have z1' := cell_by z1
  have z2' := cell_by z2
  have z3' := cell_by z3
  have z4' := cell_by z4
  have z5' := cell_by z5
  have z6' := cell_by z6
  have z7' := cell_by z7
  have z8' := cell_by z8
  have z9' := cell_by z9
  have z10' := cell_by z10
  have z11' := cell_by z11
  have z12' := cell_by z12
  have y0' := cell_by y0
  have y1' := cell_by y1
  have y2' := cell_by y2
  have HLEN : Hid (∀ w', Calls Tryz.prog 111 #[.int .u64 c.mask] w' fun e w'' => e = .returned (.int .i64 (blen c.mask)) ∧ w'' = w') := fun w' => len64_any c.mask w' hm.1 hm.2
  have HWD : Hid (∀ p : BelowBy W2, Calls Tryz.prog 37 #[d.v, .agg #[.int .i64 x.r.h, .int .i64 x.r.f], .slice none 0 0] p.to fun e w'' => e = .returned (.int .i64 (d.p.width x.r [])) ∧ Below p.to.heap.size p.to w'') := fun p => by
    rw [← width_p hl]
    exact width_any d x.r.h x.r.f none 0 0 [] p.to (hl.step (bl_step HB.out p.h)) (has_nil _ _)
  have HWY : Hid (∀ w', Calls Tryz.prog 126 #[LV d x n, .int .i64 c.to] w' fun e w'' => e = .returned (.int .i64 (wayC d.p.ss.length n c.to)) ∧ Below w'.heap.size w' w'') := fun w' => by
    have e1 : d.p.ss.length = d.states.n := by simp [PlanD.p, hl.ss.1]
    rw [e1]
    exact way_any d x n c.to w'
  have HR : Hid (caseC d.p x.r n c = if d.p.width x.r [] < blen c.mask ∨ bits .andNot .u64 c.value c.mask ≠ 0 then 6 else wayC d.p.ss.length n c.to) := rfl
  clear hl hm
  generalize d.p.width x.r [] = W at *
  generalize blen c.mask = L at *
  generalize hV : bits .andNot .u64 c.value c.mask = V at *
  generalize wayC d.p.ss.length n c.to = R at *
  by_cases h1 : W < L
  · have d1 := decide_eq_true h1
    rw [if_pos (.inl h1)] at HR
    clear h1 HWY
    go_enter Tryz.func125, Tryz.ntmps125
    go_wp2_with fail
    rw [← E3.out, ← E1.out, ← E0.out]
    clear E3 E1 E0
    haveI inhB : ∀ w : World, Inhabited (BelowBy w) := fun w => ⟨⟨w, Below.refl _ _⟩⟩
    refine wp_region_quiet_below (by kernel_rfl) (by kernel_rfl) ?_
    repeat (go_big_quiet_step (first | (go_at_call 111; exact calls_same _ (HLEN.out _)) | (go_at_call 37; exact calls_below _ (HWD.out _))))
    refine wpQuiet_nil ?_
    intro _ hw'
    obtain ⟨⟨wq, hwq⟩, hw''⟩ := hw'
    subst hw''
    have HE := hid (bl_step HB.out hwq)
    clear HB hwq
    go_wp2
    go_ret
    exact ⟨by rw [HR.out]; rfl, HE.out⟩
  have d1 := decide_eq_false h1
  by_cases h2 : V = 0
  · have d2 : (V != 0) = false := by simpa using h2
    rw [if_neg (fun h => h.elim h1 (fun h => h h2))] at HR
    clear h1
    go_enter Tryz.func125, Tryz.ntmps125
    go_wp2_with fail
    rw [← E3.out, ← E1.out, ← E0.out]
    clear E3 E1 E0
    haveI inhB : ∀ w : World, Inhabited (BelowBy w) := fun w => ⟨⟨w, Below.refl _ _⟩⟩
    refine wp_region_quiet_below (by kernel_rfl) (by kernel_rfl) ?_
    repeat (go_big_quiet_step (first | (go_at_call 111; exact calls_same _ (HLEN.out _)) | (go_at_call 37; exact calls_below _ (HWD.out _))))
    refine wpQuiet_nil ?_
    intro _ hw'
    obtain ⟨⟨wq, hwq⟩, hw''⟩ := hw'
    subst hw''
    have HE := hid (bl_step HB.out hwq)
    have x0 := cell_keep z0 hwq
    have x1 := cell_keep z1 hwq
    have x2 := cell_keep z2 hwq
    have x3 := cell_keep z3 hwq
    have x4 := cell_keep z4 hwq
    have x5 := cell_keep z5 hwq
    have x6 := cell_keep z6 hwq
    have x7 := cell_keep z7 hwq
    have x8 := cell_keep z8 hwq
    have x9 := cell_keep z9 hwq
    have x10 := cell_keep z10 hwq
    have x11 := cell_keep z11 hwq
    have x12 := cell_keep z12 hwq
    have x13 := cell_keep y0 hwq
    have x14 := cell_keep y1 hwq
    have x15 := cell_keep y2 hwq
    clear HB hwq HLEN HWD
    go_wp2_with fail
    refine (HWY.out _).mono ?_
    rintro e w3 ⟨rfl, hb3⟩
    have HE3 := hid (bl_step HE.out hb3)
    clear hb3 HE HWY
    go_wp2
    go_ret
    exact ⟨by rw [HR.out]; rfl, HE3.out⟩
  · have d2 : (V != 0) = true := by simpa using h2
    rw [if_pos (.inr h2)] at HR
    clear h1 HWY
    go_enter Tryz.func125, Tryz.ntmps125
    go_wp2_with fail
    rw [← E3.out, ← E1.out, ← E0.out]
    clear E3 E1 E0
    haveI inhB : ∀ w : World, Inhabited (BelowBy w) := fun w => ⟨⟨w, Below.refl _ _⟩⟩
    refine wp_region_quiet_below (by kernel_rfl) (by kernel_rfl) ?_
    repeat (go_big_quiet_step (first | (go_at_call 111; exact calls_same _ (HLEN.out _)) | (go_at_call 37; exact calls_below _ (HWD.out _))))
    refine wpQuiet_nil ?_
    intro _ hw'
    obtain ⟨⟨wq, hwq⟩, hw''⟩ := hw'
    subst hw''
    have HE := hid (bl_step HB.out hwq)
    clear HB hwq
    go_wp2
    go_ret
    exact ⟨by rw [HR.out]; rfl, HE.out⟩
end Go.Proofs.YtajelgjbgehahaaGreat
