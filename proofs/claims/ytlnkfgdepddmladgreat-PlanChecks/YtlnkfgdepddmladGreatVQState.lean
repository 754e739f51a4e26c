/- What a state's judge says of one that has no cases. -/
import Derived.Test.YtlnkfgdepddmladGreatVQJudge
import Derived.Test.YtlnkfgdepddmladGreatVQGreat
import Derived.Deep.RegionHeld3
import Derived.Laws.EntriesVeiled
namespace Go.Proofs.YtlnkfgdepddmladGreat
open Go.RowKit

theorem keep15 {w w' : World} {s t : Nat} {v0 v1 v2 v3 v4 v5 v6 v7 v8 v9 v10 v11 v12 v13 v14 : Value} (h : w.cell? ⟨s, 3, none⟩ = some v0 ∧ w.cell? ⟨s, 4, none⟩ = some v1 ∧ w.cell? ⟨t, 0, none⟩ = some v2 ∧ w.cell? ⟨t, 1, none⟩ = some v3 ∧ w.cell? ⟨t, 2, none⟩ = some v4 ∧ w.cell? ⟨t, 3, none⟩ = some v5 ∧ w.cell? ⟨t, 4, none⟩ = some v6 ∧ w.cell? ⟨t, 5, none⟩ = some v7 ∧ w.cell? ⟨t, 6, none⟩ = some v8 ∧ w.cell? ⟨t, 7, none⟩ = some v9 ∧ w.cell? ⟨t, 8, none⟩ = some v10 ∧ w.cell? ⟨t, 9, none⟩ = some v11 ∧ w.cell? ⟨t, 10, none⟩ = some v12 ∧ w.cell? ⟨t, 11, none⟩ = some v13 ∧ w.cell? ⟨t, 12, none⟩ = some v14) (b : Below w.heap.size w w') : w'.cell? ⟨s, 3, none⟩ = some v0 ∧ w'.cell? ⟨s, 4, none⟩ = some v1 ∧ w'.cell? ⟨t, 0, none⟩ = some v2 ∧ w'.cell? ⟨t, 1, none⟩ = some v3 ∧ w'.cell? ⟨t, 2, none⟩ = some v4 ∧ w'.cell? ⟨t, 3, none⟩ = some v5 ∧ w'.cell? ⟨t, 4, none⟩ = some v6 ∧ w'.cell? ⟨t, 5, none⟩ = some v7 ∧ w'.cell? ⟨t, 6, none⟩ = some v8 ∧ w'.cell? ⟨t, 7, none⟩ = some v9 ∧ w'.cell? ⟨t, 8, none⟩ = some v10 ∧ w'.cell? ⟨t, 9, none⟩ = some v11 ∧ w'.cell? ⟨t, 10, none⟩ = some v12 ∧ w'.cell? ⟨t, 11, none⟩ = some v13 ∧ w'.cell? ⟨t, 12, none⟩ = some v14 :=
  ⟨cell_keep (h.1) b, cell_keep (h.2.1) b, cell_keep (h.2.2.1) b, cell_keep (h.2.2.2.1) b, cell_keep (h.2.2.2.2.1) b, cell_keep (h.2.2.2.2.2.1) b, cell_keep (h.2.2.2.2.2.2.1) b, cell_keep (h.2.2.2.2.2.2.2.1) b, cell_keep (h.2.2.2.2.2.2.2.2.1) b, cell_keep (h.2.2.2.2.2.2.2.2.2.1) b, cell_keep (h.2.2.2.2.2.2.2.2.2.2.1) b, cell_keep (h.2.2.2.2.2.2.2.2.2.2.2.1) b, cell_keep (h.2.2.2.2.2.2.2.2.2.2.2.2.1) b, cell_keep (h.2.2.2.2.2.2.2.2.2.2.2.2.2.1) b, cell_keep (h.2.2.2.2.2.2.2.2.2.2.2.2.2.2) b⟩

set_option maxHeartbeats 4000000 in
set_option maxRecDepth 20000 in
theorem state_nil (d : PlanD) (w : World) (hl : d.lie w) (k : Nat) (hk : k < d.states.n) (x : StateD) (hx : d.ss[k]? = some x) (h0 : x.cases.n = 0) (hh : 0 ≤ x.head ∧ x.head < (d.heads.n : Int)) :
    Calls Tryz.prog 48 #[d.v, .int .i64 k] w fun e w' => e = .returned (.int .i64 (wayC d.states.n k x.els)) ∧ Below w.heap.size w w' := by
  have bw : ∀ o o' o'', Below w.heap.size w (((w.alloc o).alloc o').alloc o'') := fun o o' o'' => bl_alloc (bl_alloc (bl_alloc (Below.refl _ _)))
  have bw1 : ∀ o, Below w.heap.size w (w.alloc o) := fun o => bl_alloc (Below.refl _ _)
  obtain ⟨g, off, x', ea, hx', hp⟩ := row_at hl.ss hk
  obtain rfl : x = x' := by rw [hx] at hx'; exact Option.some.inj hx'
  have HI : Hid (∀ w', Calls Tryz.prog 104 #[.slice d.heads.a d.heads.n d.heads.c, .int .i64 x.head] w' fun e w'' => e = .returned (.bool true) ∧ w'' = w') := fun w' => by
    have := isOfH_any d.heads.a d.heads.n d.heads.c x.head w'
    rwa [decide_eq_true hh] at this
  have HW : Hid (∀ w', Calls Tryz.prog 108 #[LV d x k, .int .i64 x.els] w' fun e w'' => e = .returned (.int .i64 (wayC d.states.n k x.els)) ∧ Below w'.heap.size w' w'') := fun w' => way_any d x k x.els w'
  obtain ⟨⟨c0, _⟩, ⟨c1, _⟩, ⟨c2, _⟩, ⟨c3, _⟩, ⟨c4, _⟩, _⟩ := hp
  have hne : (x.head != -1) = true := by rw [bne_iff_ne]; omega
  have hki : (k : Int) < (d.states.n : Int) := by omega
  rw [h0] at c3
  have k0 : ∀ o, (w.alloc o).cell? ⟨g, off + k * 5, none⟩ = some (.int .i64 x.head) := fun o => cell_keep c0 (bw1 o)
  have k1 : ∀ o, (w.alloc o).cell? ⟨g, off + k * 5 + 1, none⟩ = some (.int .i64 x.r.h) := fun o => cell_keep c1 (bw1 o)
  have k2 : ∀ o, (w.alloc o).cell? ⟨g, off + k * 5 + 2, none⟩ = some (.int .i64 x.r.f) := fun o => cell_keep c2 (bw1 o)
  have k3 : ∀ o, (w.alloc o).cell? ⟨g, off + k * 5 + 3, none⟩ = some (.slice x.cases.a 0 x.cases.c) := fun o => cell_keep c3 (bw1 o)
  have k4 : ∀ o, (w.alloc o).cell? ⟨g, off + k * 5 + 4, none⟩ = some (.int .i64 x.els) := fun o => cell_keep c4 (bw1 o)
  unfold LV at HW
  rw [h0, ea] at HW
  obtain ⟨W3, hW3⟩ : ∃ W3, W3 = (((w.alloc (.cells #[.slice d.heads.a d.heads.n d.heads.c, .slice d.mta.a d.mta.n d.mta.c, .slice (some ⟨g, off, none⟩) d.states.n d.states.c, .slice d.acts.a d.acts.n d.acts.c, .slice d.tabs.a d.tabs.n d.tabs.c, .slice d.nodes.a d.nodes.n d.nodes.c, .slice d.out.a d.out.n d.out.c] 109)).alloc (.cells #[.int .i64 x.head, .int .i64 x.r.h, .int .i64 x.r.f, .slice x.cases.a 0 x.cases.c, .int .i64 x.els] 99)).alloc (.cells #[.slice d.heads.a d.heads.n d.heads.c, .slice d.mta.a d.mta.n d.mta.c, .slice (some ⟨g, off, none⟩) d.states.n d.states.c, .slice d.acts.a d.acts.n d.acts.c, .slice d.tabs.a d.tabs.n d.tabs.c, .slice d.nodes.a d.nodes.n d.nodes.c, .slice d.out.a d.out.n d.out.c, .int .i64 x.head, .int .i64 x.r.h, .int .i64 x.r.f, .slice x.cases.a 0 x.cases.c, .int .i64 x.els, .int .i64 (k : Int)] 178)) := ⟨_, rfl⟩
  obtain ⟨b1, hb1⟩ : ∃ b1, b1 = w.heap.size + 1 := ⟨_, rfl⟩
  obtain ⟨b2, hb2⟩ : ∃ b2, b2 = w.heap.size + 1 + 1 := ⟨_, rfl⟩
  have q3 : W3.cell? ⟨b1, 3, none⟩ = some (.slice x.cases.a 0 x.cases.c) := by rw [hW3, hb1]; exact (World.cell?_alloc_past _ _ _ (by simp)).trans ((World.cell?_alloc_at _ _ _ _ (by simp)).trans rfl)
  have q4 : W3.cell? ⟨b1, 4, none⟩ = some (.int .i64 x.els) := by rw [hW3, hb1]; exact (World.cell?_alloc_past _ _ _ (by simp)).trans ((World.cell?_alloc_at _ _ _ _ (by simp)).trans rfl)
  have r0 : W3.cell? ⟨b2, 0, none⟩ = some (.slice d.heads.a d.heads.n d.heads.c) := by rw [hW3, hb2]; exact (World.cell?_alloc_at _ _ _ _ (by simp)).trans rfl
  have r1 : W3.cell? ⟨b2, 1, none⟩ = some (.slice d.mta.a d.mta.n d.mta.c) := by rw [hW3, hb2]; exact (World.cell?_alloc_at _ _ _ _ (by simp)).trans rfl
  have r2 : W3.cell? ⟨b2, 2, none⟩ = some (.slice (some ⟨g, off, none⟩) d.states.n d.states.c) := by rw [hW3, hb2]; exact (World.cell?_alloc_at _ _ _ _ (by simp)).trans rfl
  have r3 : W3.cell? ⟨b2, 3, none⟩ = some (.slice d.acts.a d.acts.n d.acts.c) := by rw [hW3, hb2]; exact (World.cell?_alloc_at _ _ _ _ (by simp)).trans rfl
  have r4 : W3.cell? ⟨b2, 4, none⟩ = some (.slice d.tabs.a d.tabs.n d.tabs.c) := by rw [hW3, hb2]; exact (World.cell?_alloc_at _ _ _ _ (by simp)).trans rfl
  have r5 : W3.cell? ⟨b2, 5, none⟩ = some (.slice d.nodes.a d.nodes.n d.nodes.c) := by rw [hW3, hb2]; exact (World.cell?_alloc_at _ _ _ _ (by simp)).trans rfl
  have r6 : W3.cell? ⟨b2, 6, none⟩ = some (.slice d.out.a d.out.n d.out.c) := by rw [hW3, hb2]; exact (World.cell?_alloc_at _ _ _ _ (by simp)).trans rfl
  have r7 : W3.cell? ⟨b2, 7, none⟩ = some (.int .i64 x.head) := by rw [hW3, hb2]; exact (World.cell?_alloc_at _ _ _ _ (by simp)).trans rfl
  have r8 : W3.cell? ⟨b2, 8, none⟩ = some (.int .i64 x.r.h) := by rw [hW3, hb2]; exact (World.cell?_alloc_at _ _ _ _ (by simp)).trans rfl
  have r9 : W3.cell? ⟨b2, 9, none⟩ = some (.int .i64 x.r.f) := by rw [hW3, hb2]; exact (World.cell?_alloc_at _ _ _ _ (by simp)).trans rfl
  have r10 : W3.cell? ⟨b2, 10, none⟩ = some (.slice x.cases.a 0 x.cases.c) := by rw [hW3, hb2]; exact (World.cell?_alloc_at _ _ _ _ (by simp)).trans rfl
  have r11 : W3.cell? ⟨b2, 11, none⟩ = some (.int .i64 x.els) := by rw [hW3, hb2]; exact (World.cell?_alloc_at _ _ _ _ (by simp)).trans rfl
  have r12 : W3.cell? ⟨b2, 12, none⟩ = some (.int .i64 (k : Int)) := by rw [hW3, hb2]; exact (World.cell?_alloc_at _ _ _ _ (by simp)).trans rfl
  have HB : Hid (Below w.heap.size w W3) := by rw [hW3]; exact bw _ _ _
  have E3 := hid hW3
  have E1 := hid hb1
  have E2 := hid hb2
  clear hW3 hb1 hb2 bw
  clear hl hx hx' c0 c1 c2 c3 c4 hh
  have H0 := hid h0
  clear h0
  have hmf : ∀ (fn : Fn) (first cap : Array Value) (w : World), (Instr.makeFunc fn first cap).run Tryz.prog w = .ok (.func fn first cap) w := fun _ _ _ _ => rfl
  go_enter Tryz.func48, Tryz.ntmps48
  go_wp2_with fail
  refine (HI.out _).mono ?_
  rintro e w1 ⟨rfl, rfl⟩
  clear HI
  go_wp2_with fail
  rw [← E3.out, ← E2.out, ← E1.out]
  clear E3 E1 E2 k0 k1 k2 k3 k4
  have HOR : Hid (∀ (w' : World) (y : Int), Calls Tryz.prog 98 #[.slice (some ⟨w'.heap.size, 0, none⟩) 2 2] (w'.alloc (.cells #[.int .i64 0, .int .i64 y] 3)) fun e w'' => e = .returned (.int .i64 y) ∧ w'' = w'.alloc (.cells #[.int .i64 0, .int .i64 y] 3)) := fun w' y => qor2_any (b := w'.heap.size) (x := 0) (y := y) y (by simp) (by simp) (by simp)
  generalize hR : wayC d.states.n k x.els = R at *
  have HR := hid hR
  clear hR
  go_region_held3 (fun w' => w'.cell? ⟨b1, 3, none⟩ = some (.slice x.cases.a 0 x.cases.c) ∧ w'.cell? ⟨b1, 4, none⟩ = some (.int .i64 x.els) ∧ w'.cell? ⟨b2, 0, none⟩ = some (.slice d.heads.a d.heads.n d.heads.c) ∧ w'.cell? ⟨b2, 1, none⟩ = some (.slice d.mta.a d.mta.n d.mta.c) ∧ w'.cell? ⟨b2, 2, none⟩ = some (.slice (some ⟨g, off, none⟩) d.states.n d.states.c) ∧ w'.cell? ⟨b2, 3, none⟩ = some (.slice d.acts.a d.acts.n d.acts.c) ∧ w'.cell? ⟨b2, 4, none⟩ = some (.slice d.tabs.a d.tabs.n d.tabs.c) ∧ w'.cell? ⟨b2, 5, none⟩ = some (.slice d.nodes.a d.nodes.n d.nodes.c) ∧ w'.cell? ⟨b2, 6, none⟩ = some (.slice d.out.a d.out.n d.out.c) ∧ w'.cell? ⟨b2, 7, none⟩ = some (.int .i64 x.head) ∧ w'.cell? ⟨b2, 8, none⟩ = some (.int .i64 x.r.h) ∧ w'.cell? ⟨b2, 9, none⟩ = some (.int .i64 x.r.f) ∧ w'.cell? ⟨b2, 10, none⟩ = some (.slice x.cases.a 0 x.cases.c) ∧ w'.cell? ⟨b2, 11, none⟩ = some (.int .i64 x.els) ∧ w'.cell? ⟨b2, 12, none⟩ = some (.int .i64 (k : Int)))
    (first
      | go_keep
      | (go_split_ands
         exact keep15 ⟨by assumption, by assumption, by assumption, by assumption, by assumption, by assumption, by assumption, by assumption, by assumption, by assumption, by assumption, by assumption, by assumption, by assumption, by assumption⟩ hbx))
    (first
      | (go_at_call 106; refine (first_nil _ _ _ _).mono ?_; rintro e wx ⟨rfl, rfl⟩)
      | (go_at_call 108; refine (HW.out _).mono ?_; rintro e wx ⟨rfl, hbx⟩; have HBX := hid hbx)
      | (go_at_call 98; refine (HOR.out _ _).mono ?_; rintro e wz ⟨rfl, rfl⟩))
  all_goals
    have HE := hid (bl_alloc (o := .cells #[.int .i64 0, .int .i64 R] 3) (bl_step (bl_step HB.out (Below.refl W3.heap.size W3).drew) HBX.out))
    clear HB HBX
    go_wp2
    go_ret
    exact ⟨by rw [HR.out]; rfl, HE.out⟩
end Go.Proofs.YtlnkfgdepddmladGreat
