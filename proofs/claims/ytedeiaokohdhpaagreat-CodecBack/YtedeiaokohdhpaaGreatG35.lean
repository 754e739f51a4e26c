/- Texts of one chain, joined: QState, QState2. -/
import Derived.Test.YtedeiaokohdhpaaGreatG16
import Derived.Test.YtedeiaokohdhpaaGreatG19
import Derived.Deep.RegionHeld3
import Derived.Laws.EntriesVeiled
import Derived.Test.YtedeiaokohdhpaaGreatG31
namespace Go.Proofs.YtedeiaokohdhpaaGreat
open Go.RowKit
theorem keep15 {w w' : World} {s t : Nat} {v0 v1 v2 v3 v4 v5 v6 v7 v8 v9 v10 v11 v12 v13 v14 : Value} (h : w.cell? ⟨s, 3, none⟩ = some v0 ∧ w.cell? ⟨s, 4, none⟩ = some v1 ∧ w.cell? ⟨t, 0, none⟩ = some v2 ∧ w.cell? ⟨t, 1, none⟩ = some v3 ∧ w.cell? ⟨t, 2, none⟩ = some v4 ∧ w.cell? ⟨t, 3, none⟩ = some v5 ∧ w.cell? ⟨t, 4, none⟩ = some v6 ∧ w.cell? ⟨t, 5, none⟩ = some v7 ∧ w.cell? ⟨t, 6, none⟩ = some v8 ∧ w.cell? ⟨t, 7, none⟩ = some v9 ∧ w.cell? ⟨t, 8, none⟩ = some v10 ∧ w.cell? ⟨t, 9, none⟩ = some v11 ∧ w.cell? ⟨t, 10, none⟩ = some v12 ∧ w.cell? ⟨t, 11, none⟩ = some v13 ∧ w.cell? ⟨t, 12, none⟩ = some v14) (b : Below w.heap.size w w') : w'.cell? ⟨s, 3, none⟩ = some v0 ∧ w'.cell? ⟨s, 4, none⟩ = some v1 ∧ w'.cell? ⟨t, 0, none⟩ = some v2 ∧ w'.cell? ⟨t, 1, none⟩ = some v3 ∧ w'.cell? ⟨t, 2, none⟩ = some v4 ∧ w'.cell? ⟨t, 3, none⟩ = some v5 ∧ w'.cell? ⟨t, 4, none⟩ = some v6 ∧ w'.cell? ⟨t, 5, none⟩ = some v7 ∧ w'.cell? ⟨t, 6, none⟩ = some v8 ∧ w'.cell? ⟨t, 7, none⟩ = some v9 ∧ w'.cell? ⟨t, 8, none⟩ = some v10 ∧ w'.cell? ⟨t, 9, none⟩ = some v11 ∧ w'.cell? ⟨t, 10, none⟩ = some v12 ∧ w'.cell? ⟨t, 11, none⟩ = some v13 ∧ w'.cell? ⟨t, 12, none⟩ = some v14 :=
  ⟨cell_keep (h.1) b, cell_keep (h.2.1) b, cell_keep (h.2.2.1) b, cell_keep (h.2.2.2.1) b, cell_keep (h.2.2.2.2.1) b, cell_keep (h.2.2.2.2.2.1) b, cell_keep (h.2.2.2.2.2.2.1) b, cell_keep (h.2.2.2.2.2.2.2.1) b, cell_keep (h.2.2.2.2.2.2.2.2.1) b, cell_keep (h.2.2.2.2.2.2.2.2.2.1) b, cell_keep (h.2.2.2.2.2.2.2.2.2.2.1) b, cell_keep (h.2.2.2.2.2.2.2.2.2.2.2.1) b, cell_keep (h.2.2.2.2.2.2.2.2.2.2.2.2.1) b, cell_keep (h.2.2.2.2.2.2.2.2.2.2.2.2.2.1) b, cell_keep (h.2.2.2.2.2.2.2.2.2.2.2.2.2.2) b⟩
end Go.Proofs.YtedeiaokohdhpaaGreat

namespace Go.Proofs.YtedeiaokohdhpaaGreat
open Go.RowKit
def stateC (p : PPlan) (n : Nat) (x : PState) : Int :=
  if x.head ≠ -1 ∧ ¬ (0 ≤ x.head ∧ x.head < (p.hs.length : Int)) then 1 else if 4 < x.cs.length then 2 else if 0 < x.cs.length ∧ p.width x.r [] = 0 then 1 else or2 (firstC (x.cs.map (caseC p x.r n))) (wayC p.ss.length n x.els)
set_option maxHeartbeats 16000000 in
set_option maxRecDepth 20000 in
theorem state_any (d : PlanD) (w : World) (hl : d.lie w) (k : Nat) (hk : k < d.states.n) (x : StateD) (hx : d.ss[k]? = some x) :
    Calls Tryz.prog 48 #[d.v, .int .i64 k] w fun e w' => e = .returned (.int .i64 (stateC d.p k x.p)) ∧ Below w.heap.size w w' := by
  have bw1 : ∀ o, Below w.heap.size w (w.alloc o) := fun o => bl_alloc (Below.refl _ _)
  obtain ⟨g, off, x', ea, hx', hp⟩ := row_at hl.ss hk
  obtain rfl : x = x' := by rw [hx] at hx'; exact Option.some.inj hx'
  have ehs : d.p.hs.length = d.heads.n := by simp [PlanD.p, hl.hs.1]
  have ess : d.p.ss.length = d.states.n := by simp [PlanD.p, hl.ss.1]
  have HI : Hid (∀ w', Calls Tryz.prog 87 #[.slice d.heads.a d.heads.n d.heads.c, .int .i64 x.head] w' fun e w'' => e = .returned (.bool (decide (0 ≤ x.head ∧ x.head < (d.p.hs.length : Int)))) ∧ w'' = w') := fun w' => by
    rw [ehs]
    exact isOfH_any d.heads.a d.heads.n d.heads.c x.head w'
  have HFD : Hid (∀ w', Below w.heap.size w w' → Calls Tryz.prog 88 #[d.v, .agg #[.int .i64 x.r.h, .int .i64 x.r.f], .slice none 0 0] w' fun e w'' => e = .returned (.bool (d.p.width x.r [] != 0)) ∧ Below w'.heap.size w' w'') := fun w' h => field_any d x.r none 0 0 [] w' (hl.step h) (has_nil _ _)
  have HWY : Hid (∀ w', Calls Tryz.prog 92 #[LV d x k, .int .i64 x.els] w' fun e w'' => e = .returned (.int .i64 (wayC d.p.ss.length k x.els)) ∧ Below w'.heap.size w' w'') := fun w' => by
    rw [ess]
    exact way_any d x k x.els w'
  obtain ⟨⟨c0, _⟩, ⟨c1, _⟩, ⟨c2, _⟩, ⟨c3, _⟩, ⟨c4, _⟩, hrow⟩ := hp
  have HCL := hid hrow.1
  have HFI : Hid (x.cases.n ≤ 100000 → ∀ w', Below w.heap.size w w' → Calls Tryz.prog 90 #[.slice x.cases.a x.cases.n x.cases.c, .func (.func 91) #[LV d x k] #[]] w' fun e w'' => e = .returned (.int .i64 (firstC (x.cs.map (caseC d.p x.r k)))) ∧ Below w'.heap.size w' w'') := fun hs w' h =>
    firstCase_any (LV d x k) x.cases x.cs (caseC d.p x.r k) w' hs (hrow.step CaseD.keeps h) (fun w'' h' c hc => case_any d x k c w'' (hl.step (bl_step h h')) (by
      obtain ⟨i, hi⟩ := List.getElem?_of_mem hc
      obtain ⟨g2, off2, _, ⟨_, ⟨_, hm⟩, _⟩⟩ := hrow.2 i c hi
      have := bounds_u64 hm
      omega))
  have HRES : Hid (stateC d.p k x.p = if x.head ≠ -1 ∧ ¬ (0 ≤ x.head ∧ x.head < (d.p.hs.length : Int)) then 1 else if 4 < x.cs.length then 2 else if 0 < x.cs.length ∧ d.p.width x.r [] = 0 then 1 else or2 (firstC (x.cs.map (caseC d.p x.r k))) (wayC d.p.ss.length k x.els)) := rfl
  generalize wayC d.p.ss.length k x.els = R at *
  generalize firstC (x.cs.map (caseC d.p x.r k)) = FC at *
  have HOR : Hid (∀ (w' : World), Calls Tryz.prog 89 #[.slice (some ⟨w'.heap.size, 0, none⟩) 2 2] (w'.alloc (.cells #[.int .i64 FC, .int .i64 R] 3)) fun e w'' => e = .returned (.int .i64 (or2 FC R)) ∧ w'' = w'.alloc (.cells #[.int .i64 FC, .int .i64 R] 3)) := fun w' => qor2_any (b := w'.heap.size) (x := FC) (y := R) (or2 FC R) rfl (by simp) (by simp)
  have hki : (k : Int) < (d.states.n : Int) := by omega
  have k0 : ∀ o, (w.alloc o).cell? ⟨g, off + k * 5, none⟩ = some (.int .i64 x.head) := fun o => cell_keep c0 (bw1 o)
  have k1 : ∀ o, (w.alloc o).cell? ⟨g, off + k * 5 + 1, none⟩ = some (.int .i64 x.r.h) := fun o => cell_keep c1 (bw1 o)
  have k2 : ∀ o, (w.alloc o).cell? ⟨g, off + k * 5 + 2, none⟩ = some (.int .i64 x.r.f) := fun o => cell_keep c2 (bw1 o)
  have k3 : ∀ o, (w.alloc o).cell? ⟨g, off + k * 5 + 3, none⟩ = some (.slice x.cases.a x.cases.n x.cases.c) := fun o => cell_keep c3 (bw1 o)
  have k4 : ∀ o, (w.alloc o).cell? ⟨g, off + k * 5 + 4, none⟩ = some (.int .i64 x.els) := fun o => cell_keep c4 (bw1 o)
  obtain ⟨W2, hW2⟩ : ∃ W2, W2 = ((w.alloc (.cells #[.slice d.heads.a d.heads.n d.heads.c, .slice d.mta.a d.mta.n d.mta.c, .slice (some ⟨g, off, none⟩) d.states.n d.states.c, .slice d.acts.a d.acts.n d.acts.c, .slice d.tabs.a d.tabs.n d.tabs.c, .slice d.nodes.a d.nodes.n d.nodes.c, .slice d.out.a d.out.n d.out.c] 102)).alloc (.cells #[.int .i64 x.head, .int .i64 x.r.h, .int .i64 x.r.f, .slice x.cases.a x.cases.n x.cases.c, .int .i64 x.els] 51)) := ⟨_, rfl⟩
  obtain ⟨b0, hb0⟩ : ∃ b0, b0 = w.heap.size := ⟨_, rfl⟩
  obtain ⟨b1, hb1⟩ : ∃ b1, b1 = w.heap.size + 1 := ⟨_, rfl⟩
  have j0 : W2.cell? ⟨b0, 0, none⟩ = some (.slice d.heads.a d.heads.n d.heads.c) := by rw [hW2, hb0]; exact (World.cell?_alloc_past _ _ _ (by simp)).trans ((World.cell?_alloc_at _ _ _ _ rfl).trans rfl)
  have j1 : W2.cell? ⟨b0, 1, none⟩ = some (.slice d.mta.a d.mta.n d.mta.c) := by rw [hW2, hb0]; exact (World.cell?_alloc_past _ _ _ (by simp)).trans ((World.cell?_alloc_at _ _ _ _ rfl).trans rfl)
  have j2 : W2.cell? ⟨b0, 2, none⟩ = some (.slice (some ⟨g, off, none⟩) d.states.n d.states.c) := by rw [hW2, hb0]; exact (World.cell?_alloc_past _ _ _ (by simp)).trans ((World.cell?_alloc_at _ _ _ _ rfl).trans rfl)
  have j3 : W2.cell? ⟨b0, 3, none⟩ = some (.slice d.acts.a d.acts.n d.acts.c) := by rw [hW2, hb0]; exact (World.cell?_alloc_past _ _ _ (by simp)).trans ((World.cell?_alloc_at _ _ _ _ rfl).trans rfl)
  have j4 : W2.cell? ⟨b0, 4, none⟩ = some (.slice d.tabs.a d.tabs.n d.tabs.c) := by rw [hW2, hb0]; exact (World.cell?_alloc_past _ _ _ (by simp)).trans ((World.cell?_alloc_at _ _ _ _ rfl).trans rfl)
  have j5 : W2.cell? ⟨b0, 5, none⟩ = some (.slice d.nodes.a d.nodes.n d.nodes.c) := by rw [hW2, hb0]; exact (World.cell?_alloc_past _ _ _ (by simp)).trans ((World.cell?_alloc_at _ _ _ _ rfl).trans rfl)
  have j6 : W2.cell? ⟨b0, 6, none⟩ = some (.slice d.out.a d.out.n d.out.c) := by rw [hW2, hb0]; exact (World.cell?_alloc_past _ _ _ (by simp)).trans ((World.cell?_alloc_at _ _ _ _ rfl).trans rfl)
  have s0 : W2.cell? ⟨b1, 0, none⟩ = some (.int .i64 x.head) := by rw [hW2, hb1]; exact (World.cell?_alloc_at _ _ _ _ (by simp)).trans rfl
  have s1 : W2.cell? ⟨b1, 1, none⟩ = some (.int .i64 x.r.h) := by rw [hW2, hb1]; exact (World.cell?_alloc_at _ _ _ _ (by simp)).trans rfl
  have s2 : W2.cell? ⟨b1, 2, none⟩ = some (.int .i64 x.r.f) := by rw [hW2, hb1]; exact (World.cell?_alloc_at _ _ _ _ (by simp)).trans rfl
  have s3 : W2.cell? ⟨b1, 3, none⟩ = some (.slice x.cases.a x.cases.n x.cases.c) := by rw [hW2, hb1]; exact (World.cell?_alloc_at _ _ _ _ (by simp)).trans rfl
  have s4 : W2.cell? ⟨b1, 4, none⟩ = some (.int .i64 x.els) := by rw [hW2, hb1]; exact (World.cell?_alloc_at _ _ _ _ (by simp)).trans rfl
  have HB2 : Hid (Below w.heap.size w W2) := by rw [hW2]; exact bl_alloc (bl_alloc (Below.refl _ _))
  have EW2 := hid hW2
  have EB0 := hid hb0
  have EB1 := hid hb1
  unfold LV at HWY HFI
  unfold PlanD.v at HFD
  rw [ea] at HWY HFI HFD
  clear hl hx hx' c0 c1 c2 c3 c4 hrow ehs ess hW2 hb0 hb1 bw1
  have hmf : ∀ (fn : Fn) (first cap : Array Value) (w : World), (Instr.makeFunc fn first cap).run Tryz.prog w = .ok (.func fn first cap) w := fun _ _ _ _ => rfl
  by_cases hA : x.head = -1
  · have bA : (x.head != -1) = false := by simpa using hA
    have hp1 : ¬ (x.head ≠ -1 ∧ ¬ (0 ≤ x.head ∧ x.head < (d.p.hs.length : Int))) := fun h => h.1 hA
    rw [if_neg hp1] at HRES
    clear hp1 HI hA
    by_cases h4 : (4 : Int) < (x.cases.n : Int)
    · have d4 := decide_eq_true h4
      rw [if_pos (by rw [HCL.out]; omega)] at HRES
      clear h4 HFI HWY HOR HFD
      go_enter Tryz.func48, Tryz.ntmps48
      go_wp2
      go_ret
      exact ⟨by rw [HRES.out]; rfl, bl_alloc (bl_alloc (Below.refl _ _))⟩
    have d4 := decide_eq_false h4
    have HFI := hid (HFI.out (by omega))
    rw [if_neg (by rw [HCL.out]; omega)] at HRES
    by_cases h0 : (0 : Int) < (x.cases.n : Int)
    · have d0 : decide (0 < x.cases.n) = true := decide_eq_true (by omega)
      have d0i := decide_eq_true h0
      by_cases hw0 : d.p.width x.r [] = 0
      · rw [if_pos ⟨by rw [HCL.out]; omega, hw0⟩] at HRES
        rw [hw0] at HFD
        clear h4 h0 hw0 HFI HWY HOR
        go_enter Tryz.func48, Tryz.ntmps48
        go_wp2_with fail
        rw [← EW2.out]
        refine (HFD.out _ HB2.out).mono ?_
        rintro e w1 ⟨rfl, hb1⟩
        have HE := hid (bl_step HB2.out hb1)
        clear HFD hb1
        go_wp2
        go_ret
        exact ⟨by rw [HRES.out]; rfl, HE.out⟩
      · rw [if_neg (fun h => hw0 h.2)] at HRES
        have bw0 : (d.p.width x.r [] != 0) = true := by simpa using hw0
        rw [bw0] at HFD
        clear h4 h0 hw0 bw0
        go_enter Tryz.func48, Tryz.ntmps48
        go_wp2_with fail
        rw [← EW2.out, ← EB1.out, ← EB0.out]
        clear EW2 EB1 EB0
        refine (HFD.out _ HB2.out).mono ?_
        rintro e w1 ⟨rfl, hb1⟩
        have HBC := hid (bl_step HB2.out hb1)
        have j0 := cell_keep j0 hb1
        have j1 := cell_keep j1 hb1
        have j2 := cell_keep j2 hb1
        have j3 := cell_keep j3 hb1
        have j4 := cell_keep j4 hb1
        have j5 := cell_keep j5 hb1
        have j6 := cell_keep j6 hb1
        have s0 := cell_keep s0 hb1
        have s1 := cell_keep s1 hb1
        have s2 := cell_keep s2 hb1
        have s3 := cell_keep s3 hb1
        have s4 := cell_keep s4 hb1
        clear HFD hb1 HB2
        obtain ⟨W3, hW3⟩ : ∃ W3, W3 = w1.alloc (.cells #[.slice d.heads.a d.heads.n d.heads.c, .slice d.mta.a d.mta.n d.mta.c, .slice (some ⟨g, off, none⟩) d.states.n d.states.c, .slice d.acts.a d.acts.n d.acts.c, .slice d.tabs.a d.tabs.n d.tabs.c, .slice d.nodes.a d.nodes.n d.nodes.c, .slice d.out.a d.out.n d.out.c, .int .i64 x.head, .int .i64 x.r.h, .int .i64 x.r.f, .slice x.cases.a x.cases.n x.cases.c, .int .i64 x.els, .int .i64 (k : Int)] 148) := ⟨_, rfl⟩
        obtain ⟨b2, hb2⟩ : ∃ b2, b2 = w1.heap.size := ⟨_, rfl⟩
        have q3 : W3.cell? ⟨b1, 3, none⟩ = some (.slice x.cases.a x.cases.n x.cases.c) := by rw [hW3]; exact cell_keep s3 (bl_alloc (Below.refl _ _))
        have q4 : W3.cell? ⟨b1, 4, none⟩ = some (.int .i64 x.els) := by rw [hW3]; exact cell_keep s4 (bl_alloc (Below.refl _ _))
        have r0 : W3.cell? ⟨b2, 0, none⟩ = some (.slice d.heads.a d.heads.n d.heads.c) := by rw [hW3, hb2]; exact (World.cell?_alloc_at _ _ _ _ rfl).trans rfl
        have r1 : W3.cell? ⟨b2, 1, none⟩ = some (.slice d.mta.a d.mta.n d.mta.c) := by rw [hW3, hb2]; exact (World.cell?_alloc_at _ _ _ _ rfl).trans rfl
        have r2 : W3.cell? ⟨b2, 2, none⟩ = some (.slice (some ⟨g, off, none⟩) d.states.n d.states.c) := by rw [hW3, hb2]; exact (World.cell?_alloc_at _ _ _ _ rfl).trans rfl
        have r3 : W3.cell? ⟨b2, 3, none⟩ = some (.slice d.acts.a d.acts.n d.acts.c) := by rw [hW3, hb2]; exact (World.cell?_alloc_at _ _ _ _ rfl).trans rfl
        have r4 : W3.cell? ⟨b2, 4, none⟩ = some (.slice d.tabs.a d.tabs.n d.tabs.c) := by rw [hW3, hb2]; exact (World.cell?_alloc_at _ _ _ _ rfl).trans rfl
        have r5 : W3.cell? ⟨b2, 5, none⟩ = some (.slice d.nodes.a d.nodes.n d.nodes.c) := by rw [hW3, hb2]; exact (World.cell?_alloc_at _ _ _ _ rfl).trans rfl
        have r6 : W3.cell? ⟨b2, 6, none⟩ = some (.slice d.out.a d.out.n d.out.c) := by rw [hW3, hb2]; exact (World.cell?_alloc_at _ _ _ _ rfl).trans rfl
        have r7 : W3.cell? ⟨b2, 7, none⟩ = some (.int .i64 x.head) := by rw [hW3, hb2]; exact (World.cell?_alloc_at _ _ _ _ rfl).trans rfl
        have r8 : W3.cell? ⟨b2, 8, none⟩ = some (.int .i64 x.r.h) := by rw [hW3, hb2]; exact (World.cell?_alloc_at _ _ _ _ rfl).trans rfl
        have r9 : W3.cell? ⟨b2, 9, none⟩ = some (.int .i64 x.r.f) := by rw [hW3, hb2]; exact (World.cell?_alloc_at _ _ _ _ rfl).trans rfl
        have r10 : W3.cell? ⟨b2, 10, none⟩ = some (.slice x.cases.a x.cases.n x.cases.c) := by rw [hW3, hb2]; exact (World.cell?_alloc_at _ _ _ _ rfl).trans rfl
        have r11 : W3.cell? ⟨b2, 11, none⟩ = some (.int .i64 x.els) := by rw [hW3, hb2]; exact (World.cell?_alloc_at _ _ _ _ rfl).trans rfl
        have r12 : W3.cell? ⟨b2, 12, none⟩ = some (.int .i64 (k : Int)) := by rw [hW3, hb2]; exact (World.cell?_alloc_at _ _ _ _ rfl).trans rfl
        have HB3 : Hid (Below w.heap.size w W3) := by rw [hW3]; exact bl_alloc HBC.out
        have E3 := hid hW3
        have E2 := hid hb2
        clear hW3 hb2
        go_wp2_with fail
        rw [← E3.out, ← E2.out]
        clear E3 E2 j0 j1 j2 j3 j4 j5 j6 s0 s1 s2 s3 s4 HBC
        go_region_held3 (fun w' => w'.cell? ⟨b1, 3, none⟩ = some (.slice x.cases.a x.cases.n x.cases.c) ∧ w'.cell? ⟨b1, 4, none⟩ = some (.int .i64 x.els) ∧ w'.cell? ⟨b2, 0, none⟩ = some (.slice d.heads.a d.heads.n d.heads.c) ∧ w'.cell? ⟨b2, 1, none⟩ = some (.slice d.mta.a d.mta.n d.mta.c) ∧ w'.cell? ⟨b2, 2, none⟩ = some (.slice (some ⟨g, off, none⟩) d.states.n d.states.c) ∧ w'.cell? ⟨b2, 3, none⟩ = some (.slice d.acts.a d.acts.n d.acts.c) ∧ w'.cell? ⟨b2, 4, none⟩ = some (.slice d.tabs.a d.tabs.n d.tabs.c) ∧ w'.cell? ⟨b2, 5, none⟩ = some (.slice d.nodes.a d.nodes.n d.nodes.c) ∧ w'.cell? ⟨b2, 6, none⟩ = some (.slice d.out.a d.out.n d.out.c) ∧ w'.cell? ⟨b2, 7, none⟩ = some (.int .i64 x.head) ∧ w'.cell? ⟨b2, 8, none⟩ = some (.int .i64 x.r.h) ∧ w'.cell? ⟨b2, 9, none⟩ = some (.int .i64 x.r.f) ∧ w'.cell? ⟨b2, 10, none⟩ = some (.slice x.cases.a x.cases.n x.cases.c) ∧ w'.cell? ⟨b2, 11, none⟩ = some (.int .i64 x.els) ∧ w'.cell? ⟨b2, 12, none⟩ = some (.int .i64 (k : Int)))
          (first
            | go_keep
            | (go_split_ands
               exact keep15 ⟨by assumption, by assumption, by assumption, by assumption, by assumption, by assumption, by assumption, by assumption, by assumption, by assumption, by assumption, by assumption, by assumption, by assumption, by assumption⟩ hbx))
          (first
            | (go_at_call 90; refine (HFI.out _ (bl_step HB3.out (Below.refl W3.heap.size W3).drew)).mono ?_; rintro e wx ⟨rfl, hbx⟩; have HBX := hid hbx)
            | (go_at_call 92; refine (HWY.out _).mono ?_; rintro e wx ⟨rfl, hbx⟩; have HBY := hid hbx)
            | (go_at_call 89; refine (HOR.out _).mono ?_; rintro e wz ⟨rfl, rfl⟩))
        all_goals
          have HE := hid (bl_alloc (o := .cells #[.int .i64 FC, .int .i64 R] 3) (bl_step (bl_step (bl_step HB3.out (Below.refl W3.heap.size W3).drew) HBX.out) HBY.out))
          clear HB3 HBX HBY
          go_wp2
          go_ret
          exact ⟨by rw [HRES.out]; rfl, HE.out⟩
    · have d0 : decide (0 < x.cases.n) = false := decide_eq_false (by omega)
      have d0i := decide_eq_false h0
      rw [if_neg (fun h => h0 (by have := h.1; rw [HCL.out] at this; omega))] at HRES
      have HBC := hid HB2.out
      clear h4 h0 HFD HB2
      obtain ⟨W3, hW3⟩ : ∃ W3, W3 = W2.alloc (.cells #[.slice d.heads.a d.heads.n d.heads.c, .slice d.mta.a d.mta.n d.mta.c, .slice (some ⟨g, off, none⟩) d.states.n d.states.c, .slice d.acts.a d.acts.n d.acts.c, .slice d.tabs.a d.tabs.n d.tabs.c, .slice d.nodes.a d.nodes.n d.nodes.c, .slice d.out.a d.out.n d.out.c, .int .i64 x.head, .int .i64 x.r.h, .int .i64 x.r.f, .slice x.cases.a x.cases.n x.cases.c, .int .i64 x.els, .int .i64 (k : Int)] 148) := ⟨_, rfl⟩
      obtain ⟨b2, hb2⟩ : ∃ b2, b2 = W2.heap.size := ⟨_, rfl⟩
      have q3 : W3.cell? ⟨b1, 3, none⟩ = some (.slice x.cases.a x.cases.n x.cases.c) := by rw [hW3]; exact cell_keep s3 (bl_alloc (Below.refl _ _))
      have q4 : W3.cell? ⟨b1, 4, none⟩ = some (.int .i64 x.els) := by rw [hW3]; exact cell_keep s4 (bl_alloc (Below.refl _ _))
      have r0 : W3.cell? ⟨b2, 0, none⟩ = some (.slice d.heads.a d.heads.n d.heads.c) := by rw [hW3, hb2]; exact (World.cell?_alloc_at _ _ _ _ rfl).trans rfl
      have r1 : W3.cell? ⟨b2, 1, none⟩ = some (.slice d.mta.a d.mta.n d.mta.c) := by rw [hW3, hb2]; exact (World.cell?_alloc_at _ _ _ _ rfl).trans rfl
      have r2 : W3.cell? ⟨b2, 2, none⟩ = some (.slice (some ⟨g, off, none⟩) d.states.n d.states.c) := by rw [hW3, hb2]; exact (World.cell?_alloc_at _ _ _ _ rfl).trans rfl
      have r3 : W3.cell? ⟨b2, 3, none⟩ = some (.slice d.acts.a d.acts.n d.acts.c) := by rw [hW3, hb2]; exact (World.cell?_alloc_at _ _ _ _ rfl).trans rfl
      have r4 : W3.cell? ⟨b2, 4, none⟩ = some (.slice d.tabs.a d.tabs.n d.tabs.c) := by rw [hW3, hb2]; exact (World.cell?_alloc_at _ _ _ _ rfl).trans rfl
      have r5 : W3.cell? ⟨b2, 5, none⟩ = some (.slice d.nodes.a d.nodes.n d.nodes.c) := by rw [hW3, hb2]; exact (World.cell?_alloc_at _ _ _ _ rfl).trans rfl
      have r6 : W3.cell? ⟨b2, 6, none⟩ = some (.slice d.out.a d.out.n d.out.c) := by rw [hW3, hb2]; exact (World.cell?_alloc_at _ _ _ _ rfl).trans rfl
      have r7 : W3.cell? ⟨b2, 7, none⟩ = some (.int .i64 x.head) := by rw [hW3, hb2]; exact (World.cell?_alloc_at _ _ _ _ rfl).trans rfl
      have r8 : W3.cell? ⟨b2, 8, none⟩ = some (.int .i64 x.r.h) := by rw [hW3, hb2]; exact (World.cell?_alloc_at _ _ _ _ rfl).trans rfl
      have r9 : W3.cell? ⟨b2, 9, none⟩ = some (.int .i64 x.r.f) := by rw [hW3, hb2]; exact (World.cell?_alloc_at _ _ _ _ rfl).trans rfl
      have r10 : W3.cell? ⟨b2, 10, none⟩ = some (.slice x.cases.a x.cases.n x.cases.c) := by rw [hW3, hb2]; exact (World.cell?_alloc_at _ _ _ _ rfl).trans rfl
      have r11 : W3.cell? ⟨b2, 11, none⟩ = some (.int .i64 x.els) := by rw [hW3, hb2]; exact (World.cell?_alloc_at _ _ _ _ rfl).trans rfl
      have r12 : W3.cell? ⟨b2, 12, none⟩ = some (.int .i64 (k : Int)) := by rw [hW3, hb2]; exact (World.cell?_alloc_at _ _ _ _ rfl).trans rfl
      have HB3 : Hid (Below w.heap.size w W3) := by rw [hW3]; exact bl_alloc HBC.out
      have E3 := hid hW3
      have E2 := hid hb2
      clear hW3 hb2
      go_enter Tryz.func48, Tryz.ntmps48
      go_wp2_with fail
      rw [show ∀ o, (((w.alloc (.cells #[.slice d.heads.a d.heads.n d.heads.c, .slice d.mta.a d.mta.n d.mta.c, .slice (some ⟨g, off, none⟩) d.states.n d.states.c, .slice d.acts.a d.acts.n d.acts.c, .slice d.tabs.a d.tabs.n d.tabs.c, .slice d.nodes.a d.nodes.n d.nodes.c, .slice d.out.a d.out.n d.out.c] 102)).alloc (.cells #[.int .i64 x.head, .int .i64 x.r.h, .int .i64 x.r.f, .slice x.cases.a x.cases.n x.cases.c, .int .i64 x.els] 51)).alloc o) = W2.alloc o from fun o => by rw [EW2.out]]
      rw [← E3.out, show w.heap.size + 1 + 1 = b2 from (by rw [E2.out, EW2.out]; simp), ← EB1.out, ← EB0.out]
      clear EW2 EB1 EB0 E3 E2 j0 j1 j2 j3 j4 j5 j6 s0 s1 s2 s3 s4 HBC
      go_region_held3 (fun w' => w'.cell? ⟨b1, 3, none⟩ = some (.slice x.cases.a x.cases.n x.cases.c) ∧ w'.cell? ⟨b1, 4, none⟩ = some (.int .i64 x.els) ∧ w'.cell? ⟨b2, 0, none⟩ = some (.slice d.heads.a d.heads.n d.heads.c) ∧ w'.cell? ⟨b2, 1, none⟩ = some (.slice d.mta.a d.mta.n d.mta.c) ∧ w'.cell? ⟨b2, 2, none⟩ = some (.slice (some ⟨g, off, none⟩) d.states.n d.states.c) ∧ w'.cell? ⟨b2, 3, none⟩ = some (.slice d.acts.a d.acts.n d.acts.c) ∧ w'.cell? ⟨b2, 4, none⟩ = some (.slice d.tabs.a d.tabs.n d.tabs.c) ∧ w'.cell? ⟨b2, 5, none⟩ = some (.slice d.nodes.a d.nodes.n d.nodes.c) ∧ w'.cell? ⟨b2, 6, none⟩ = some (.slice d.out.a d.out.n d.out.c) ∧ w'.cell? ⟨b2, 7, none⟩ = some (.int .i64 x.head) ∧ w'.cell? ⟨b2, 8, none⟩ = some (.int .i64 x.r.h) ∧ w'.cell? ⟨b2, 9, none⟩ = some (.int .i64 x.r.f) ∧ w'.cell? ⟨b2, 10, none⟩ = some (.slice x.cases.a x.cases.n x.cases.c) ∧ w'.cell? ⟨b2, 11, none⟩ = some (.int .i64 x.els) ∧ w'.cell? ⟨b2, 12, none⟩ = some (.int .i64 (k : Int)))
        (first
          | go_keep
          | (go_split_ands
             exact keep15 ⟨by assumption, by assumption, by assumption, by assumption, by assumption, by assumption, by assumption, by assumption, by assumption, by assumption, by assumption, by assumption, by assumption, by assumption, by assumption⟩ hbx))
        (first
          | (go_at_call 90; refine (HFI.out _ (bl_step HB3.out (Below.refl W3.heap.size W3).drew)).mono ?_; rintro e wx ⟨rfl, hbx⟩; have HBX := hid hbx)
          | (go_at_call 92; refine (HWY.out _).mono ?_; rintro e wx ⟨rfl, hbx⟩; have HBY := hid hbx)
          | (go_at_call 89; refine (HOR.out _).mono ?_; rintro e wz ⟨rfl, rfl⟩))
      all_goals
        have HE := hid (bl_alloc (o := .cells #[.int .i64 FC, .int .i64 R] 3) (bl_step (bl_step (bl_step HB3.out (Below.refl W3.heap.size W3).drew) HBX.out) HBY.out))
        clear HB3 HBX HBY
        go_wp2
        go_ret
        exact ⟨by rw [HRES.out]; rfl, HE.out⟩
  have bA : (x.head != -1) = true := by simpa using hA
  by_cases hH : 0 ≤ x.head ∧ x.head < (d.p.hs.length : Int)
  · have hp1 : ¬ (x.head ≠ -1 ∧ ¬ (0 ≤ x.head ∧ x.head < (d.p.hs.length : Int))) := fun h => h.2 hH
    rw [if_neg hp1] at HRES
    rw [decide_eq_true hH] at HI
    clear hp1 hA hH
    by_cases h4 : (4 : Int) < (x.cases.n : Int)
    · have d4 := decide_eq_true h4
      rw [if_pos (by rw [HCL.out]; omega)] at HRES
      clear h4 HFI HWY HOR HFD
      go_enter Tryz.func48, Tryz.ntmps48
      go_wp2_with fail
      refine (HI.out _).mono ?_
      rintro e w1 ⟨rfl, rfl⟩
      clear HI
      go_wp2
      go_ret
      exact ⟨by rw [HRES.out]; rfl, bl_alloc (bl_alloc (Below.refl _ _))⟩
    have d4 := decide_eq_false h4
    have HFI := hid (HFI.out (by omega))
    rw [if_neg (by rw [HCL.out]; omega)] at HRES
    by_cases h0 : (0 : Int) < (x.cases.n : Int)
    · have d0 : decide (0 < x.cases.n) = true := decide_eq_true (by omega)
      have d0i := decide_eq_true h0
      by_cases hw0 : d.p.width x.r [] = 0
      · rw [if_pos ⟨by rw [HCL.out]; omega, hw0⟩] at HRES
        rw [hw0] at HFD
        clear h4 h0 hw0 HFI HWY HOR
        go_enter Tryz.func48, Tryz.ntmps48
        go_wp2_with fail
        refine (HI.out _).mono ?_
        rintro e w1 ⟨rfl, rfl⟩
        clear HI
        go_wp2_with fail
        rw [← EW2.out]
        refine (HFD.out _ HB2.out).mono ?_
        rintro e w1 ⟨rfl, hb1⟩
        have HE := hid (bl_step HB2.out hb1)
        clear HFD hb1
        go_wp2
        go_ret
        exact ⟨by rw [HRES.out]; rfl, HE.out⟩
      · rw [if_neg (fun h => hw0 h.2)] at HRES
        have bw0 : (d.p.width x.r [] != 0) = true := by simpa using hw0
        rw [bw0] at HFD
        clear h4 h0 hw0 bw0
        go_enter Tryz.func48, Tryz.ntmps48
        go_wp2_with fail
        refine (HI.out _).mono ?_
        rintro e w1 ⟨rfl, rfl⟩
        clear HI
        go_wp2_with fail
        rw [← EW2.out, ← EB1.out, ← EB0.out]
        clear EW2 EB1 EB0
        refine (HFD.out _ HB2.out).mono ?_
        rintro e w1 ⟨rfl, hb1⟩
        have HBC := hid (bl_step HB2.out hb1)
        have j0 := cell_keep j0 hb1
        have j1 := cell_keep j1 hb1
        have j2 := cell_keep j2 hb1
        have j3 := cell_keep j3 hb1
        have j4 := cell_keep j4 hb1
        have j5 := cell_keep j5 hb1
        have j6 := cell_keep j6 hb1
        have s0 := cell_keep s0 hb1
        have s1 := cell_keep s1 hb1
        have s2 := cell_keep s2 hb1
        have s3 := cell_keep s3 hb1
        have s4 := cell_keep s4 hb1
        clear HFD hb1 HB2
        obtain ⟨W3, hW3⟩ : ∃ W3, W3 = w1.alloc (.cells #[.slice d.heads.a d.heads.n d.heads.c, .slice d.mta.a d.mta.n d.mta.c, .slice (some ⟨g, off, none⟩) d.states.n d.states.c, .slice d.acts.a d.acts.n d.acts.c, .slice d.tabs.a d.tabs.n d.tabs.c, .slice d.nodes.a d.nodes.n d.nodes.c, .slice d.out.a d.out.n d.out.c, .int .i64 x.head, .int .i64 x.r.h, .int .i64 x.r.f, .slice x.cases.a x.cases.n x.cases.c, .int .i64 x.els, .int .i64 (k : Int)] 148) := ⟨_, rfl⟩
        obtain ⟨b2, hb2⟩ : ∃ b2, b2 = w1.heap.size := ⟨_, rfl⟩
        have q3 : W3.cell? ⟨b1, 3, none⟩ = some (.slice x.cases.a x.cases.n x.cases.c) := by rw [hW3]; exact cell_keep s3 (bl_alloc (Below.refl _ _))
        have q4 : W3.cell? ⟨b1, 4, none⟩ = some (.int .i64 x.els) := by rw [hW3]; exact cell_keep s4 (bl_alloc (Below.refl _ _))
        have r0 : W3.cell? ⟨b2, 0, none⟩ = some (.slice d.heads.a d.heads.n d.heads.c) := by rw [hW3, hb2]; exact (World.cell?_alloc_at _ _ _ _ rfl).trans rfl
        have r1 : W3.cell? ⟨b2, 1, none⟩ = some (.slice d.mta.a d.mta.n d.mta.c) := by rw [hW3, hb2]; exact (World.cell?_alloc_at _ _ _ _ rfl).trans rfl
        have r2 : W3.cell? ⟨b2, 2, none⟩ = some (.slice (some ⟨g, off, none⟩) d.states.n d.states.c) := by rw [hW3, hb2]; exact (World.cell?_alloc_at _ _ _ _ rfl).trans rfl
        have r3 : W3.cell? ⟨b2, 3, none⟩ = some (.slice d.acts.a d.acts.n d.acts.c) := by rw [hW3, hb2]; exact (World.cell?_alloc_at _ _ _ _ rfl).trans rfl
        have r4 : W3.cell? ⟨b2, 4, none⟩ = some (.slice d.tabs.a d.tabs.n d.tabs.c) := by rw [hW3, hb2]; exact (World.cell?_alloc_at _ _ _ _ rfl).trans rfl
        have r5 : W3.cell? ⟨b2, 5, none⟩ = some (.slice d.nodes.a d.nodes.n d.nodes.c) := by rw [hW3, hb2]; exact (World.cell?_alloc_at _ _ _ _ rfl).trans rfl
        have r6 : W3.cell? ⟨b2, 6, none⟩ = some (.slice d.out.a d.out.n d.out.c) := by rw [hW3, hb2]; exact (World.cell?_alloc_at _ _ _ _ rfl).trans rfl
        have r7 : W3.cell? ⟨b2, 7, none⟩ = some (.int .i64 x.head) := by rw [hW3, hb2]; exact (World.cell?_alloc_at _ _ _ _ rfl).trans rfl
        have r8 : W3.cell? ⟨b2, 8, none⟩ = some (.int .i64 x.r.h) := by rw [hW3, hb2]; exact (World.cell?_alloc_at _ _ _ _ rfl).trans rfl
        have r9 : W3.cell? ⟨b2, 9, none⟩ = some (.int .i64 x.r.f) := by rw [hW3, hb2]; exact (World.cell?_alloc_at _ _ _ _ rfl).trans rfl
        have r10 : W3.cell? ⟨b2, 10, none⟩ = some (.slice x.cases.a x.cases.n x.cases.c) := by rw [hW3, hb2]; exact (World.cell?_alloc_at _ _ _ _ rfl).trans rfl
        have r11 : W3.cell? ⟨b2, 11, none⟩ = some (.int .i64 x.els) := by rw [hW3, hb2]; exact (World.cell?_alloc_at _ _ _ _ rfl).trans rfl
        have r12 : W3.cell? ⟨b2, 12, none⟩ = some (.int .i64 (k : Int)) := by rw [hW3, hb2]; exact (World.cell?_alloc_at _ _ _ _ rfl).trans rfl
        have HB3 : Hid (Below w.heap.size w W3) := by rw [hW3]; exact bl_alloc HBC.out
        have E3 := hid hW3
        have E2 := hid hb2
        clear hW3 hb2
        go_wp2_with fail
        rw [← E3.out, ← E2.out]
        clear E3 E2 j0 j1 j2 j3 j4 j5 j6 s0 s1 s2 s3 s4 HBC
        go_region_held3 (fun w' => w'.cell? ⟨b1, 3, none⟩ = some (.slice x.cases.a x.cases.n x.cases.c) ∧ w'.cell? ⟨b1, 4, none⟩ = some (.int .i64 x.els) ∧ w'.cell? ⟨b2, 0, none⟩ = some (.slice d.heads.a d.heads.n d.heads.c) ∧ w'.cell? ⟨b2, 1, none⟩ = some (.slice d.mta.a d.mta.n d.mta.c) ∧ w'.cell? ⟨b2, 2, none⟩ = some (.slice (some ⟨g, off, none⟩) d.states.n d.states.c) ∧ w'.cell? ⟨b2, 3, none⟩ = some (.slice d.acts.a d.acts.n d.acts.c) ∧ w'.cell? ⟨b2, 4, none⟩ = some (.slice d.tabs.a d.tabs.n d.tabs.c) ∧ w'.cell? ⟨b2, 5, none⟩ = some (.slice d.nodes.a d.nodes.n d.nodes.c) ∧ w'.cell? ⟨b2, 6, none⟩ = some (.slice d.out.a d.out.n d.out.c) ∧ w'.cell? ⟨b2, 7, none⟩ = some (.int .i64 x.head) ∧ w'.cell? ⟨b2, 8, none⟩ = some (.int .i64 x.r.h) ∧ w'.cell? ⟨b2, 9, none⟩ = some (.int .i64 x.r.f) ∧ w'.cell? ⟨b2, 10, none⟩ = some (.slice x.cases.a x.cases.n x.cases.c) ∧ w'.cell? ⟨b2, 11, none⟩ = some (.int .i64 x.els) ∧ w'.cell? ⟨b2, 12, none⟩ = some (.int .i64 (k : Int)))
          (first
            | go_keep
            | (go_split_ands
               exact keep15 ⟨by assumption, by assumption, by assumption, by assumption, by assumption, by assumption, by assumption, by assumption, by assumption, by assumption, by assumption, by assumption, by assumption, by assumption, by assumption⟩ hbx))
          (first
            | (go_at_call 90; refine (HFI.out _ (bl_step HB3.out (Below.refl W3.heap.size W3).drew)).mono ?_; rintro e wx ⟨rfl, hbx⟩; have HBX := hid hbx)
            | (go_at_call 92; refine (HWY.out _).mono ?_; rintro e wx ⟨rfl, hbx⟩; have HBY := hid hbx)
            | (go_at_call 89; refine (HOR.out _).mono ?_; rintro e wz ⟨rfl, rfl⟩))
        all_goals
          have HE := hid (bl_alloc (o := .cells #[.int .i64 FC, .int .i64 R] 3) (bl_step (bl_step (bl_step HB3.out (Below.refl W3.heap.size W3).drew) HBX.out) HBY.out))
          clear HB3 HBX HBY
          go_wp2
          go_ret
          exact ⟨by rw [HRES.out]; rfl, HE.out⟩
    · have d0 : decide (0 < x.cases.n) = false := decide_eq_false (by omega)
      have d0i := decide_eq_false h0
      rw [if_neg (fun h => h0 (by have := h.1; rw [HCL.out] at this; omega))] at HRES
      have HBC := hid HB2.out
      clear h4 h0 HFD HB2
      obtain ⟨W3, hW3⟩ : ∃ W3, W3 = W2.alloc (.cells #[.slice d.heads.a d.heads.n d.heads.c, .slice d.mta.a d.mta.n d.mta.c, .slice (some ⟨g, off, none⟩) d.states.n d.states.c, .slice d.acts.a d.acts.n d.acts.c, .slice d.tabs.a d.tabs.n d.tabs.c, .slice d.nodes.a d.nodes.n d.nodes.c, .slice d.out.a d.out.n d.out.c, .int .i64 x.head, .int .i64 x.r.h, .int .i64 x.r.f, .slice x.cases.a x.cases.n x.cases.c, .int .i64 x.els, .int .i64 (k : Int)] 148) := ⟨_, rfl⟩
      obtain ⟨b2, hb2⟩ : ∃ b2, b2 = W2.heap.size := ⟨_, rfl⟩
      have q3 : W3.cell? ⟨b1, 3, none⟩ = some (.slice x.cases.a x.cases.n x.cases.c) := by rw [hW3]; exact cell_keep s3 (bl_alloc (Below.refl _ _))
      have q4 : W3.cell? ⟨b1, 4, none⟩ = some (.int .i64 x.els) := by rw [hW3]; exact cell_keep s4 (bl_alloc (Below.refl _ _))
      have r0 : W3.cell? ⟨b2, 0, none⟩ = some (.slice d.heads.a d.heads.n d.heads.c) := by rw [hW3, hb2]; exact (World.cell?_alloc_at _ _ _ _ rfl).trans rfl
      have r1 : W3.cell? ⟨b2, 1, none⟩ = some (.slice d.mta.a d.mta.n d.mta.c) := by rw [hW3, hb2]; exact (World.cell?_alloc_at _ _ _ _ rfl).trans rfl
      have r2 : W3.cell? ⟨b2, 2, none⟩ = some (.slice (some ⟨g, off, none⟩) d.states.n d.states.c) := by rw [hW3, hb2]; exact (World.cell?_alloc_at _ _ _ _ rfl).trans rfl
      have r3 : W3.cell? ⟨b2, 3, none⟩ = some (.slice d.acts.a d.acts.n d.acts.c) := by rw [hW3, hb2]; exact (World.cell?_alloc_at _ _ _ _ rfl).trans rfl
      have r4 : W3.cell? ⟨b2, 4, none⟩ = some (.slice d.tabs.a d.tabs.n d.tabs.c) := by rw [hW3, hb2]; exact (World.cell?_alloc_at _ _ _ _ rfl).trans rfl
      have r5 : W3.cell? ⟨b2, 5, none⟩ = some (.slice d.nodes.a d.nodes.n d.nodes.c) := by rw [hW3, hb2]; exact (World.cell?_alloc_at _ _ _ _ rfl).trans rfl
      have r6 : W3.cell? ⟨b2, 6, none⟩ = some (.slice d.out.a d.out.n d.out.c) := by rw [hW3, hb2]; exact (World.cell?_alloc_at _ _ _ _ rfl).trans rfl
      have r7 : W3.cell? ⟨b2, 7, none⟩ = some (.int .i64 x.head) := by rw [hW3, hb2]; exact (World.cell?_alloc_at _ _ _ _ rfl).trans rfl
      have r8 : W3.cell? ⟨b2, 8, none⟩ = some (.int .i64 x.r.h) := by rw [hW3, hb2]; exact (World.cell?_alloc_at _ _ _ _ rfl).trans rfl
      have r9 : W3.cell? ⟨b2, 9, none⟩ = some (.int .i64 x.r.f) := by rw [hW3, hb2]; exact (World.cell?_alloc_at _ _ _ _ rfl).trans rfl
      have r10 : W3.cell? ⟨b2, 10, none⟩ = some (.slice x.cases.a x.cases.n x.cases.c) := by rw [hW3, hb2]; exact (World.cell?_alloc_at _ _ _ _ rfl).trans rfl
      have r11 : W3.cell? ⟨b2, 11, none⟩ = some (.int .i64 x.els) := by rw [hW3, hb2]; exact (World.cell?_alloc_at _ _ _ _ rfl).trans rfl
      have r12 : W3.cell? ⟨b2, 12, none⟩ = some (.int .i64 (k : Int)) := by rw [hW3, hb2]; exact (World.cell?_alloc_at _ _ _ _ rfl).trans rfl
      have HB3 : Hid (Below w.heap.size w W3) := by rw [hW3]; exact bl_alloc HBC.out
      have E3 := hid hW3
      have E2 := hid hb2
      clear hW3 hb2
      go_enter Tryz.func48, Tryz.ntmps48
      go_wp2_with fail
      refine (HI.out _).mono ?_
      rintro e w1 ⟨rfl, rfl⟩
      clear HI
      go_wp2_with fail
      rw [show ∀ o, (((w.alloc (.cells #[.slice d.heads.a d.heads.n d.heads.c, .slice d.mta.a d.mta.n d.mta.c, .slice (some ⟨g, off, none⟩) d.states.n d.states.c, .slice d.acts.a d.acts.n d.acts.c, .slice d.tabs.a d.tabs.n d.tabs.c, .slice d.nodes.a d.nodes.n d.nodes.c, .slice d.out.a d.out.n d.out.c] 102)).alloc (.cells #[.int .i64 x.head, .int .i64 x.r.h, .int .i64 x.r.f, .slice x.cases.a x.cases.n x.cases.c, .int .i64 x.els] 51)).alloc o) = W2.alloc o from fun o => by rw [EW2.out]]
      rw [← E3.out, show w.heap.size + 1 + 1 = b2 from (by rw [E2.out, EW2.out]; simp), ← EB1.out, ← EB0.out]
      clear EW2 EB1 EB0 E3 E2 j0 j1 j2 j3 j4 j5 j6 s0 s1 s2 s3 s4 HBC
      go_region_held3 (fun w' => w'.cell? ⟨b1, 3, none⟩ = some (.slice x.cases.a x.cases.n x.cases.c) ∧ w'.cell? ⟨b1, 4, none⟩ = some (.int .i64 x.els) ∧ w'.cell? ⟨b2, 0, none⟩ = some (.slice d.heads.a d.heads.n d.heads.c) ∧ w'.cell? ⟨b2, 1, none⟩ = some (.slice d.mta.a d.mta.n d.mta.c) ∧ w'.cell? ⟨b2, 2, none⟩ = some (.slice (some ⟨g, off, none⟩) d.states.n d.states.c) ∧ w'.cell? ⟨b2, 3, none⟩ = some (.slice d.acts.a d.acts.n d.acts.c) ∧ w'.cell? ⟨b2, 4, none⟩ = some (.slice d.tabs.a d.tabs.n d.tabs.c) ∧ w'.cell? ⟨b2, 5, none⟩ = some (.slice d.nodes.a d.nodes.n d.nodes.c) ∧ w'.cell? ⟨b2, 6, none⟩ = some (.slice d.out.a d.out.n d.out.c) ∧ w'.cell? ⟨b2, 7, none⟩ = some (.int .i64 x.head) ∧ w'.cell? ⟨b2, 8, none⟩ = some (.int .i64 x.r.h) ∧ w'.cell? ⟨b2, 9, none⟩ = some (.int .i64 x.r.f) ∧ w'.cell? ⟨b2, 10, none⟩ = some (.slice x.cases.a x.cases.n x.cases.c) ∧ w'.cell? ⟨b2, 11, none⟩ = some (.int .i64 x.els) ∧ w'.cell? ⟨b2, 12, none⟩ = some (.int .i64 (k : Int)))
        (first
          | go_keep
          | (go_split_ands
             exact keep15 ⟨by assumption, by assumption, by assumption, by assumption, by assumption, by assumption, by assumption, by assumption, by assumption, by assumption, by assumption, by assumption, by assumption, by assumption, by assumption⟩ hbx))
        (first
          | (go_at_call 90; refine (HFI.out _ (bl_step HB3.out (Below.refl W3.heap.size W3).drew)).mono ?_; rintro e wx ⟨rfl, hbx⟩; have HBX := hid hbx)
          | (go_at_call 92; refine (HWY.out _).mono ?_; rintro e wx ⟨rfl, hbx⟩; have HBY := hid hbx)
          | (go_at_call 89; refine (HOR.out _).mono ?_; rintro e wz ⟨rfl, rfl⟩))
      all_goals
        have HE := hid (bl_alloc (o := .cells #[.int .i64 FC, .int .i64 R] 3) (bl_step (bl_step (bl_step HB3.out (Below.refl W3.heap.size W3).drew) HBX.out) HBY.out))
        clear HB3 HBX HBY
        go_wp2
        go_ret
        exact ⟨by rw [HRES.out]; rfl, HE.out⟩
  · rw [if_pos ⟨hA, hH⟩] at HRES
    rw [decide_eq_false hH] at HI
    clear hA hH HFI HWY HOR HFD
    go_enter Tryz.func48, Tryz.ntmps48
    go_wp2_with fail
    refine (HI.out _).mono ?_
    rintro e w1 ⟨rfl, rfl⟩
    clear HI
    go_wp2
    go_ret
    exact ⟨by rw [HRES.out]; rfl, bl_alloc (bl_alloc (Below.refl _ _))⟩
end Go.Proofs.YtedeiaokohdhpaaGreat
