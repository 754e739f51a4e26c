/- The document's judge of deeds. -/
import Derived.Test.YtlnkfgdepddmladGreatVQR1
import Derived.Test.YtlnkfgdepddmladGreatVQDeed
import Derived.Test.YtlnkfgdepddmladGreatVQFirst
namespace Go.Proofs.YtlnkfgdepddmladGreat
open Go.RowKit

theorem target_bit (p : PPlan) (r : RefD) : targetC p r = 0 ∨ targetC p r = 1 := by
  unfold targetC
  split
  · exact .inr rfl
  · exact .inl rfl

set_option maxHeartbeats 16000000 in
set_option maxRecDepth 20000 in
theorem rdeed_any (d : PlanD) (o : OpD) (aa : Option Addr) (an ac : Nat) (zs : List Int) (w : World) (hl : d.lie w) (hz : Has .i64 w aa an zs) (he : QRow 4 PushD.lie w o.e o.es) (hp : 0 ≤ d.p.width o.r []) :
    Calls Tryz.prog 120 #[d.v, o.v, .slice aa an ac] w fun e w' => e = .returned (.int .i64 (deedC d.p zs o.p)) ∧ Below w.heap.size w w' := by
  obtain ⟨W2, hW⟩ : ∃ W2, W2 = ((w.alloc (.cells #[.slice d.heads.a d.heads.n d.heads.c, .slice d.mta.a d.mta.n d.mta.c, .slice d.states.a d.states.n d.states.c, .slice d.acts.a d.acts.n d.acts.c, .slice d.tabs.a d.tabs.n d.tabs.c, .slice d.nodes.a d.nodes.n d.nodes.c, .slice d.out.a d.out.n d.out.c] 65)).alloc (.cells #[.int .i64 o.kind, .int .i64 o.r.h, .int .i64 o.r.f, .int .i64 o.head, .slice o.e.a o.e.n o.e.c] 103)) := ⟨_, rfl⟩
  obtain ⟨b0, h0⟩ : ∃ b0, b0 = w.heap.size := ⟨_, rfl⟩
  obtain ⟨b1, h1⟩ : ∃ b1, b1 = w.heap.size + 1 := ⟨_, rfl⟩
  have z0 : W2.cell? ⟨b0, 0, none⟩ = some (.slice d.heads.a d.heads.n d.heads.c) := by rw [hW, h0]; exact (World.cell?_alloc_past _ _ _ (by simp)).trans ((World.cell?_alloc_at _ _ _ _ rfl).trans rfl)
  have z1 : W2.cell? ⟨b0, 1, none⟩ = some (.slice d.mta.a d.mta.n d.mta.c) := by rw [hW, h0]; exact (World.cell?_alloc_past _ _ _ (by simp)).trans ((World.cell?_alloc_at _ _ _ _ rfl).trans rfl)
  have z2 : W2.cell? ⟨b0, 2, none⟩ = some (.slice d.states.a d.states.n d.states.c) := by rw [hW, h0]; exact (World.cell?_alloc_past _ _ _ (by simp)).trans ((World.cell?_alloc_at _ _ _ _ rfl).trans rfl)
  have z3 : W2.cell? ⟨b0, 3, none⟩ = some (.slice d.acts.a d.acts.n d.acts.c) := by rw [hW, h0]; exact (World.cell?_alloc_past _ _ _ (by simp)).trans ((World.cell?_alloc_at _ _ _ _ rfl).trans rfl)
  have z4 : W2.cell? ⟨b0, 4, none⟩ = some (.slice d.tabs.a d.tabs.n d.tabs.c) := by rw [hW, h0]; exact (World.cell?_alloc_past _ _ _ (by simp)).trans ((World.cell?_alloc_at _ _ _ _ rfl).trans rfl)
  have z5 : W2.cell? ⟨b0, 5, none⟩ = some (.slice d.nodes.a d.nodes.n d.nodes.c) := by rw [hW, h0]; exact (World.cell?_alloc_past _ _ _ (by simp)).trans ((World.cell?_alloc_at _ _ _ _ rfl).trans rfl)
  have z6 : W2.cell? ⟨b0, 6, none⟩ = some (.slice d.out.a d.out.n d.out.c) := by rw [hW, h0]; exact (World.cell?_alloc_past _ _ _ (by simp)).trans ((World.cell?_alloc_at _ _ _ _ rfl).trans rfl)
  have y0 : W2.cell? ⟨b1, 0, none⟩ = some (.int .i64 o.kind) := by rw [hW, h1]; exact (World.cell?_alloc_at _ _ _ _ (by simp)).trans rfl
  have y1 : W2.cell? ⟨b1, 1, none⟩ = some (.int .i64 o.r.h) := by rw [hW, h1]; exact (World.cell?_alloc_at _ _ _ _ (by simp)).trans rfl
  have y2 : W2.cell? ⟨b1, 2, none⟩ = some (.int .i64 o.r.f) := by rw [hW, h1]; exact (World.cell?_alloc_at _ _ _ _ (by simp)).trans rfl
  have y3 : W2.cell? ⟨b1, 3, none⟩ = some (.int .i64 o.head) := by rw [hW, h1]; exact (World.cell?_alloc_at _ _ _ _ (by simp)).trans rfl
  have y4 : W2.cell? ⟨b1, 4, none⟩ = some (.slice o.e.a o.e.n o.e.c) := by rw [hW, h1]; exact (World.cell?_alloc_at _ _ _ _ (by simp)).trans rfl
  have HB : Hid (Below w.heap.size w W2) := by rw [hW]; exact bl_alloc (bl_alloc (Below.refl _ _))
  have E3 := hid hW
  have E0 := hid h0
  have E1 := hid h1
  clear hW h0 h1
  have HM : Hid (∀ w', Below w.heap.size w w' → Calls Tryz.prog 169 #[d.v, .agg #[.int .i64 o.r.h, .int .i64 o.r.f]] w' fun e w'' => e = .returned (.bool (decide (targetC d.p o.r = 0))) ∧ Below w'.heap.size w' w'') := fun w' h => mayset_any d o.r w' (hl.step h) hp
  have HX : Hid (∀ w', Below w.heap.size w w' → Calls Tryz.prog 122 #[d.v, .slice o.e.a o.e.n o.e.c, .slice aa an ac] w' fun e w'' => e = .returned (.int .i64 (treeC d.p o.es zs)) ∧ Below w'.heap.size w' w'') := fun w' h => expr_any d o.e o.es aa an ac zs w' (hl.step h) (he.step PushD.keeps h) (hz.step h)
  have HH : Hid (∀ w', Calls Tryz.prog 62 #[d.v, .int .i64 o.head] w' fun e w'' => e = .returned (.bool (decide (0 ≤ o.head ∧ o.head < (d.heads.n : Int)))) ∧ Below w'.heap.size w' w'') := fun w' => isHead_any d o.head w'
  have EHS : Hid (d.p.hs.length = d.heads.n) := by show d.p.hs.length = d.heads.n; simp [PlanD.p, hl.hs.1]
  clear hl hz he hp
  by_cases k1 : o.kind = 1
  · have e1 : (o.kind == 1) = true := by simpa using k1
    by_cases hT : targetC d.p o.r = 0
    · have HR : Hid (deedC d.p zs o.p = treeC d.p o.es zs) := by show deedC d.p zs o.p = _; unfold deedC; rw [if_pos (show o.p.kind = 1 from k1)]; show or2 (targetC d.p o.r) _ = _; unfold or2; rw [if_neg (by simpa using hT)]; rfl
      rw [decide_eq_true hT] at HM
      clear k1 hT HH
      go_enter Tryz.func120, Tryz.ntmps120
      go_wp2_with fail
      rw [← E3.out, ← E1.out, ← E0.out]
      clear E3 E1 E0
      refine (HM.out _ HB.out).mono ?_
      rintro e w1 ⟨rfl, hb1⟩
      have HB1 := hid (bl_step HB.out hb1)
      have z0 := cell_keep z0 hb1
      have z1 := cell_keep z1 hb1
      have z2 := cell_keep z2 hb1
      have z3 := cell_keep z3 hb1
      have z4 := cell_keep z4 hb1
      have z5 := cell_keep z5 hb1
      have z6 := cell_keep z6 hb1
      have y0 := cell_keep y0 hb1
      have y1 := cell_keep y1 hb1
      have y2 := cell_keep y2 hb1
      have y3 := cell_keep y3 hb1
      have y4 := cell_keep y4 hb1
      clear HM hb1 HB
      go_wp2_with fail
      refine (HX.out _ HB1.out).mono ?_
      rintro e w2 ⟨rfl, hb2⟩
      have HE := hid (bl_step HB1.out hb2)
      clear HX hb2 HB1
      go_wp2
      go_ret
      exact ⟨by rw [HR.out]; rfl, HE.out⟩
    · have HR : Hid (deedC d.p zs o.p = 1) := by show deedC d.p zs o.p = _; unfold deedC; rw [if_pos (show o.p.kind = 1 from k1)]; show or2 (targetC d.p o.r) _ = _; unfold or2; rw [if_pos (show targetC d.p o.r ≠ 0 from hT)]; exact (target_bit _ _).resolve_left hT
      rw [decide_eq_false hT] at HM
      clear k1 hT HH HX
      go_enter Tryz.func120, Tryz.ntmps120
      go_wp2_with fail
      rw [← E3.out, ← E1.out, ← E0.out]
      clear E3 E1 E0
      refine (HM.out _ HB.out).mono ?_
      rintro e w1 ⟨rfl, hb1⟩
      have HE := hid (bl_step HB.out hb1)
      clear HM hb1 HB
      go_wp2
      go_ret
      exact ⟨by rw [HR.out]; rfl, HE.out⟩
  have e1 : (o.kind == 1) = false := by simpa using k1
  by_cases k2 : o.kind = 2
  · have e2 : (o.kind == 2) = true := by simpa using k2
    by_cases hH : 0 ≤ o.head ∧ o.head < (d.heads.n : Int)
    · have HR : Hid (deedC d.p zs o.p = 0) := by show deedC d.p zs o.p = _; unfold deedC; rw [if_neg (show ¬ o.p.kind = 1 from k1), if_pos (show o.p.kind = 2 ∨ o.p.kind = 3 from .inl k2)]; show numC d.p.hs.length o.head = _; rw [EHS.out]; exact if_pos hH
      rw [decide_eq_true hH] at HH
      clear k1 k2 hH HM HX
      go_enter Tryz.func120, Tryz.ntmps120
      go_wp2_with fail
      rw [← E3.out, ← E1.out, ← E0.out]
      clear E3 E1 E0
      refine (HH.out _).mono ?_
      rintro e w1 ⟨rfl, hb1⟩
      have HE := hid (bl_step HB.out hb1)
      clear HH hb1 HB
      go_wp2
      go_ret
      exact ⟨by rw [HR.out]; rfl, HE.out⟩
    · have HR : Hid (deedC d.p zs o.p = 1) := by show deedC d.p zs o.p = _; unfold deedC; rw [if_neg (show ¬ o.p.kind = 1 from k1), if_pos (show o.p.kind = 2 ∨ o.p.kind = 3 from .inl k2)]; show numC d.p.hs.length o.head = _; rw [EHS.out]; exact if_neg hH
      rw [decide_eq_false hH] at HH
      clear k1 k2 hH HM HX
      go_enter Tryz.func120, Tryz.ntmps120
      go_wp2_with fail
      rw [← E3.out, ← E1.out, ← E0.out]
      clear E3 E1 E0
      refine (HH.out _).mono ?_
      rintro e w1 ⟨rfl, hb1⟩
      have HE := hid (bl_step HB.out hb1)
      clear HH hb1 HB
      go_wp2
      go_ret
      exact ⟨by rw [HR.out]; rfl, HE.out⟩
  have e2 : (o.kind == 2) = false := by simpa using k2
  by_cases k3 : o.kind = 3
  · have e3 : (o.kind == 3) = true := by simpa using k3
    by_cases hH : 0 ≤ o.head ∧ o.head < (d.heads.n : Int)
    · have HR : Hid (deedC d.p zs o.p = 0) := by show deedC d.p zs o.p = _; unfold deedC; rw [if_neg (show ¬ o.p.kind = 1 from k1), if_pos (show o.p.kind = 2 ∨ o.p.kind = 3 from .inr k3)]; show numC d.p.hs.length o.head = _; rw [EHS.out]; exact if_pos hH
      rw [decide_eq_true hH] at HH
      clear k1 k2 k3 hH HM HX
      go_enter Tryz.func120, Tryz.ntmps120
      go_wp2_with fail
      rw [← E3.out, ← E1.out, ← E0.out]
      clear E3 E1 E0
      refine (HH.out _).mono ?_
      rintro e w1 ⟨rfl, hb1⟩
      have HE := hid (bl_step HB.out hb1)
      clear HH hb1 HB
      go_wp2
      go_ret
      exact ⟨by rw [HR.out]; rfl, HE.out⟩
    · have HR : Hid (deedC d.p zs o.p = 1) := by show deedC d.p zs o.p = _; unfold deedC; rw [if_neg (show ¬ o.p.kind = 1 from k1), if_pos (show o.p.kind = 2 ∨ o.p.kind = 3 from .inr k3)]; show numC d.p.hs.length o.head = _; rw [EHS.out]; exact if_neg hH
      rw [decide_eq_false hH] at HH
      clear k1 k2 k3 hH HM HX
      go_enter Tryz.func120, Tryz.ntmps120
      go_wp2_with fail
      rw [← E3.out, ← E1.out, ← E0.out]
      clear E3 E1 E0
      refine (HH.out _).mono ?_
      rintro e w1 ⟨rfl, hb1⟩
      have HE := hid (bl_step HB.out hb1)
      clear HH hb1 HB
      go_wp2
      go_ret
      exact ⟨by rw [HR.out]; rfl, HE.out⟩
  have e3 : (o.kind == 3) = false := by simpa using k3
  have n23 : ¬ (o.p.kind = 2 ∨ o.p.kind = 3) := fun h => h.elim k2 k3
  by_cases k4 : o.kind = 4
  · have e4 : (o.kind == 4) = true := by simpa using k4
    have HR : Hid (deedC d.p zs o.p = 0) := by show deedC d.p zs o.p = _; unfold deedC; rw [if_neg (show ¬ o.p.kind = 1 from k1), if_neg n23, if_pos (show o.p.kind = 4 from k4)]
    clear k1 k2 k3 k4 HM HX HH n23
    go_enter Tryz.func120, Tryz.ntmps120
    go_wp2
    go_ret
    exact ⟨by rw [HR.out]; rfl, by rw [E3.out] at HB; exact HB.out⟩
  have e4 : (o.kind == 4) = false := by simpa using k4
  by_cases k5 : o.kind = 5
  · have e5 : (o.kind == 5) = true := by simpa using k5
    have HR : Hid (deedC d.p zs o.p = treeC d.p o.es zs) := by show deedC d.p zs o.p = _; unfold deedC; rw [if_neg (show ¬ o.p.kind = 1 from k1), if_neg n23, if_neg (show ¬ o.p.kind = 4 from k4), if_pos (show o.p.kind = 5 from k5)]; rfl
    clear k1 k2 k3 k4 k5 HM HH n23
    go_enter Tryz.func120, Tryz.ntmps120
    go_wp2_with fail
    rw [← E3.out, ← E1.out, ← E0.out]
    clear E3 E1 E0
    refine (HX.out _ HB.out).mono ?_
    rintro e w2 ⟨rfl, hb2⟩
    have HE := hid (bl_step HB.out hb2)
    clear HX hb2 HB
    go_wp2
    go_ret
    exact ⟨by rw [HR.out]; rfl, HE.out⟩
  have e5 : (o.kind == 5) = false := by simpa using k5
  by_cases k6 : o.kind = 6
  · have e6 : (o.kind == 6) = true := by simpa using k6
    by_cases hT : targetC d.p o.r = 0
    · by_cases hH : 0 ≤ o.head ∧ o.head < (d.heads.n : Int)
      · have HR : Hid (deedC d.p zs o.p = 0) := by show deedC d.p zs o.p = _; unfold deedC; rw [if_neg (show ¬ o.p.kind = 1 from k1), if_neg n23, if_neg (show ¬ o.p.kind = 4 from k4), if_neg (show ¬ o.p.kind = 5 from k5), if_pos (show o.p.kind = 6 from k6)]; show or2 (targetC d.p o.r) (numC d.p.hs.length o.head) = _; unfold or2; rw [if_neg (by simpa using hT), EHS.out]; exact if_pos hH
        rw [decide_eq_true hT] at HM
        rw [decide_eq_true hH] at HH
        clear k1 k2 k3 k4 k5 k6 hT hH HX n23
        go_enter Tryz.func120, Tryz.ntmps120
        go_wp2_with fail
        rw [← E3.out, ← E1.out, ← E0.out]
        clear E3 E1 E0
        refine (HM.out _ HB.out).mono ?_
        rintro e w1 ⟨rfl, hb1⟩
        have HB1 := hid (bl_step HB.out hb1)
        have z0 := cell_keep z0 hb1
        have z1 := cell_keep z1 hb1
        have z2 := cell_keep z2 hb1
        have z3 := cell_keep z3 hb1
        have z4 := cell_keep z4 hb1
        have z5 := cell_keep z5 hb1
        have z6 := cell_keep z6 hb1
        have y0 := cell_keep y0 hb1
        have y1 := cell_keep y1 hb1
        have y2 := cell_keep y2 hb1
        have y3 := cell_keep y3 hb1
        have y4 := cell_keep y4 hb1
        clear HM hb1 HB
        go_wp2_with fail
        refine (HH.out _).mono ?_
        rintro e w2 ⟨rfl, hb2⟩
        have HE := hid (bl_step HB1.out hb2)
        clear HH hb2 HB1
        go_wp2
        go_ret
        exact ⟨by rw [HR.out]; rfl, HE.out⟩
      · have HR : Hid (deedC d.p zs o.p = 1) := by show deedC d.p zs o.p = _; unfold deedC; rw [if_neg (show ¬ o.p.kind = 1 from k1), if_neg n23, if_neg (show ¬ o.p.kind = 4 from k4), if_neg (show ¬ o.p.kind = 5 from k5), if_pos (show o.p.kind = 6 from k6)]; show or2 (targetC d.p o.r) (numC d.p.hs.length o.head) = _; unfold or2; rw [if_neg (by simpa using hT), EHS.out]; exact if_neg hH
        rw [decide_eq_true hT] at HM
        rw [decide_eq_false hH] at HH
        clear k1 k2 k3 k4 k5 k6 hT hH HX n23
        go_enter Tryz.func120, Tryz.ntmps120
        go_wp2_with fail
        rw [← E3.out, ← E1.out, ← E0.out]
        clear E3 E1 E0
        refine (HM.out _ HB.out).mono ?_
        rintro e w1 ⟨rfl, hb1⟩
        have HB1 := hid (bl_step HB.out hb1)
        have z0 := cell_keep z0 hb1
        have z1 := cell_keep z1 hb1
        have z2 := cell_keep z2 hb1
        have z3 := cell_keep z3 hb1
        have z4 := cell_keep z4 hb1
        have z5 := cell_keep z5 hb1
        have z6 := cell_keep z6 hb1
        have y0 := cell_keep y0 hb1
        have y1 := cell_keep y1 hb1
        have y2 := cell_keep y2 hb1
        have y3 := cell_keep y3 hb1
        have y4 := cell_keep y4 hb1
        clear HM hb1 HB
        go_wp2_with fail
        refine (HH.out _).mono ?_
        rintro e w2 ⟨rfl, hb2⟩
        have HE := hid (bl_step HB1.out hb2)
        clear HH hb2 HB1
        go_wp2
        go_ret
        exact ⟨by rw [HR.out]; rfl, HE.out⟩
    · have HR : Hid (deedC d.p zs o.p = 1) := by show deedC d.p zs o.p = _; unfold deedC; rw [if_neg (show ¬ o.p.kind = 1 from k1), if_neg n23, if_neg (show ¬ o.p.kind = 4 from k4), if_neg (show ¬ o.p.kind = 5 from k5), if_pos (show o.p.kind = 6 from k6)]; show or2 (targetC d.p o.r) (numC d.p.hs.length o.head) = _; unfold or2; rw [if_pos (show targetC d.p o.r ≠ 0 from hT)]; exact (target_bit _ _).resolve_left hT
      rw [decide_eq_false hT] at HM
      clear k1 k2 k3 k4 k5 k6 hT HH HX n23
      go_enter Tryz.func120, Tryz.ntmps120
      go_wp2_with fail
      rw [← E3.out, ← E1.out, ← E0.out]
      clear E3 E1 E0
      refine (HM.out _ HB.out).mono ?_
      rintro e w1 ⟨rfl, hb1⟩
      have HE := hid (bl_step HB.out hb1)
      clear HM hb1 HB
      go_wp2
      go_ret
      exact ⟨by rw [HR.out]; rfl, HE.out⟩
  · have e6 : (o.kind == 6) = false := by simpa using k6
    have HR : Hid (deedC d.p zs o.p = 5) := by show deedC d.p zs o.p = _; unfold deedC; rw [if_neg (show ¬ o.p.kind = 1 from k1), if_neg n23, if_neg (show ¬ o.p.kind = 4 from k4), if_neg (show ¬ o.p.kind = 5 from k5), if_neg (show ¬ o.p.kind = 6 from k6)]
    clear k1 k2 k3 k4 k5 k6 HM HX HH n23
    go_enter Tryz.func120, Tryz.ntmps120
    go_wp2
    go_ret
    exact ⟨by rw [HR.out]; rfl, by rw [E3.out] at HB; exact HB.out⟩

set_option maxHeartbeats 2000000 in
set_option maxRecDepth 20000 in
theorem in_any (a : Option Addr) (n c : Nat) (L : List Int) (x : Int) (w : World) (hn : n ≤ 100000) (hL : Has .i64 w a n L) :
    Calls Tryz.prog 59 #[.slice a n c, .int .i64 x] w fun e w' => e = .returned (.bool (decide (x ∈ L))) ∧ w' = w := by
  have HL := hid hL
  have HN := hid hL.1
  clear hL
  go_enter Tryz.func59, Tryz.ntmps59
  go_wp2
  go_loop [5] (fun q => ∃ k : Nat, k ≤ n ∧ q = .int .i64 k ∧ Hid (∀ j : Nat, j < k → L[j]? ≠ some x)) (fun q => n - (intOf q).toNat)
  case atStart => exact ⟨0, Nat.zero_le _, rfl, fun j hj => absurd hj (by omega)⟩
  case round =>
    obtain ⟨k, hk, rfl, hz⟩ := hrel
    by_cases hlt : k < n
    · obtain ⟨g, off, y, ea', hy, r0⟩ := int_at (s := ⟨a, n, c⟩) HL.out hlt
      dsimp only at ea'
      subst ea'
      have hki : (k : Int) < (n : Int) := by omega
      by_cases hxy : y = x
      · subst hxy
        have HI := hid (decide_eq_true (List.mem_of_getElem? hy))
        clear hz hy
        go_wp2
        go_ret
        exact ⟨by rw [HI.out]; rfl, rfl⟩
      · have b1 : (y == x) = false := by simpa using hxy
        have HZ : Hid (∀ j : Nat, j < k + 1 → L[j]? ≠ some x) := fun j hj => by
          by_cases ej : j = k
          · subst ej; rw [hy]; intro h; exact hxy (Option.some.inj h)
          · exact hz.out j (by omega)
        clear hz hy hxy
        go_wp2
        go_round
        case rel => exact ⟨k + 1, by omega, by go_num, HZ⟩
        case measure => simp [intOf]; omega
    · have ek : k = n := by omega
      have HI := hid (decide_eq_false (fun h => by
        obtain ⟨i, hi⟩ := List.getElem?_of_mem h
        have := (List.getElem?_eq_some_iff.1 hi).1
        exact hz.out i (by rw [HN.out] at this; omega) hi : ¬ x ∈ L))
      clear hz
      subst ek
      go_wp2
      go_ret
      exact ⟨by rw [HI.out]; rfl, rfl⟩
end Go.Proofs.YtlnkfgdepddmladGreat
