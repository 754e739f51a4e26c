/- Texts of one chain, joined: QSame2. -/
import Derived.Test.YtedeiaokohdhpaaGreatG30
namespace Go.Proofs.YtedeiaokohdhpaaGreat
open Go.RowKit
set_option maxHeartbeats 8000000 in
set_option maxRecDepth 20000 in
theorem sameState_any (c : Bool) (x y : StateD) (w : World) (hx : QRow 3 CaseD.lie w x.cases x.cs) (hy : QRow 3 CaseD.lie w y.cases y.cs) (he : EqState c x.p y.p) (hm : x.cases.n ≤ 100000) :
    Calls Tryz.prog 36 #[.agg #[.int .i64 x.head, .int .i64 x.r.h, .int .i64 x.r.f, .slice x.cases.a x.cases.n x.cases.c, .int .i64 x.els], .agg #[.int .i64 y.head, .int .i64 y.r.h, .int .i64 y.r.f, .slice y.cases.a y.cases.n y.cases.c, .int .i64 y.els], .bool c] w (Yes w) := by
  obtain ⟨q0, q1, q2, q3⟩ := he
  have hn : y.cases.n = x.cases.n := by
    rw [← hx.1, ← hy.1]
    exact (congrArg List.length q2).symm
  obtain ⟨W2, hW⟩ : ∃ W2, W2 = (w.alloc (.cells #[.int .i64 x.head, .int .i64 x.r.h, .int .i64 x.r.f, .slice x.cases.a x.cases.n x.cases.c, .int .i64 x.els] 51)).alloc (.cells #[.int .i64 y.head, .int .i64 y.r.h, .int .i64 y.r.f, .slice y.cases.a y.cases.n y.cases.c, .int .i64 y.els] 51) := ⟨_, rfl⟩
  obtain ⟨b0, h0⟩ : ∃ b0, b0 = w.heap.size := ⟨_, rfl⟩
  obtain ⟨b1, h1⟩ : ∃ b1, b1 = w.heap.size + 1 := ⟨_, rfl⟩
  have z0 : W2.cell? ⟨b0, 0, none⟩ = some (.int .i64 x.head) := by rw [hW, h0]; exact (World.cell?_alloc_past _ _ _ (by simp)).trans ((World.cell?_alloc_at _ _ _ _ rfl).trans rfl)
  have z1 : W2.cell? ⟨b0, 1, none⟩ = some (.int .i64 x.r.h) := by rw [hW, h0]; exact (World.cell?_alloc_past _ _ _ (by simp)).trans ((World.cell?_alloc_at _ _ _ _ rfl).trans rfl)
  have z2 : W2.cell? ⟨b0, 2, none⟩ = some (.int .i64 x.r.f) := by rw [hW, h0]; exact (World.cell?_alloc_past _ _ _ (by simp)).trans ((World.cell?_alloc_at _ _ _ _ rfl).trans rfl)
  have z3 : W2.cell? ⟨b0, 3, none⟩ = some (.slice x.cases.a x.cases.n x.cases.c) := by rw [hW, h0]; exact (World.cell?_alloc_past _ _ _ (by simp)).trans ((World.cell?_alloc_at _ _ _ _ rfl).trans rfl)
  have z4 : W2.cell? ⟨b0, 4, none⟩ = some (.int .i64 x.els) := by rw [hW, h0]; exact (World.cell?_alloc_past _ _ _ (by simp)).trans ((World.cell?_alloc_at _ _ _ _ rfl).trans rfl)
  have y0 : W2.cell? ⟨b1, 0, none⟩ = some (.int .i64 y.head) := by rw [hW, h1]; exact (World.cell?_alloc_at _ _ _ _ (by simp)).trans rfl
  have y1 : W2.cell? ⟨b1, 1, none⟩ = some (.int .i64 y.r.h) := by rw [hW, h1]; exact (World.cell?_alloc_at _ _ _ _ (by simp)).trans rfl
  have y2 : W2.cell? ⟨b1, 2, none⟩ = some (.int .i64 y.r.f) := by rw [hW, h1]; exact (World.cell?_alloc_at _ _ _ _ (by simp)).trans rfl
  have y3 : W2.cell? ⟨b1, 3, none⟩ = some (.slice y.cases.a y.cases.n y.cases.c) := by rw [hW, h1]; exact (World.cell?_alloc_at _ _ _ _ (by simp)).trans rfl
  have y4 : W2.cell? ⟨b1, 4, none⟩ = some (.int .i64 y.els) := by rw [hW, h1]; exact (World.cell?_alloc_at _ _ _ _ (by simp)).trans rfl
  have HB : Hid (Below w.heap.size w W2) := by rw [hW]; exact bl_alloc (bl_alloc (Below.refl _ _))
  have EW := hid hW
  have E0 := hid h0
  have E1 := hid h1
  clear hW h0 h1
  rw [show y.head = x.head from q0.symm] at y0 EW
  rw [show y.els = x.els from q1.symm] at y4 EW
  rw [hn] at y3 EW
  rw [show y.head = x.head from q0.symm, show y.els = x.els from q1.symm, hn]
  have HX := hid (hx.step CaseD.keeps HB.out)
  have HY := hid (hy.step CaseD.keeps HB.out)
  have HN := hid hn
  have HCS : Hid (x.cs = y.cs) := q2
  have hlen : x.p.cs.length = x.cases.n := hx.1
  rw [hlen] at q3
  have Q3 := hid q3
  obtain ⟨sa, esa⟩ : ∃ sa, x.cases.a = sa := ⟨_, rfl⟩
  obtain ⟨ta, eta⟩ : ∃ ta, y.cases.a = ta := ⟨_, rfl⟩
  rw [esa] at z3 EW
  rw [eta] at y3 EW
  rw [esa, eta]
  have ESA := hid esa
  have ETA := hid eta
  have hne : ((x.cases.n : Int) != (x.cases.n : Int)) = false := by simp
  clear hx hy q0 q1 q2 q3 hn hlen esa eta
  by_cases hz : 0 < x.cases.n
  · have hz' : decide ((0 : Int) < (x.cases.n : Int)) = true := decide_eq_true (by omega)
    have hr : y.r = x.r := (Q3.out (.inr hz)).symm
    rw [hr] at y1 y2 EW
    rw [hr]
    clear Q3 hr
    cases c with
    | false =>
      go_enter Tryz.func36, Tryz.ntmps36
      go_wp2
      rw [← EW.out, ← E1.out, ← E0.out]
      clear EW E0 E1
      go_loopw [7] (fun q wr => ∃ k : Nat, k ≤ x.cases.n ∧ q = .int .i64 k ∧ Hid (Below W2.heap.size W2 wr)) (fun q _ => x.cases.n - (intOf q).toNat)
      case atStart => exact ⟨0, Nat.zero_le _, rfl, Below.refl _ _⟩
      case round =>
        obtain ⟨k, hk, rfl, hb⟩ := hrel
        have z3 := cell_keep z3 hb.out
        have y3 := cell_keep y3 hb.out
        by_cases hlt : k < x.cases.n
        · have hki : (k : Int) < (x.cases.n : Int) := by omega
          obtain ⟨g1, o1, u, e1, hu, ⟨u0, _⟩, ⟨u1, _⟩, ⟨u2, _⟩⟩ := row_at (HX.out.step CaseD.keeps hb.out) hlt
          obtain ⟨g2, o2, v, e2, hv, ⟨v0, _⟩, ⟨v1, _⟩, ⟨v2, _⟩⟩ := row_at (HY.out.step CaseD.keeps hb.out) (show k < y.cases.n by rw [HN.out]; exact hlt)
          obtain rfl : sa = some ⟨g1, o1, none⟩ := by rw [← ESA.out]; exact e1
          obtain rfl : ta = some ⟨g2, o2, none⟩ := by rw [← ETA.out]; exact e2
          obtain rfl : u = v := by rw [HCS.out, hv] at hu; exact (Option.some.inj hu).symm
          have u0' := cell_by u0
          have u1' := cell_by u1
          have u2' := cell_by u2
          have v0' := cell_by v0
          have v1' := cell_by v1
          have v2' := cell_by v2
          have z3' := cell_by z3
          have y3' := cell_by y3
          clear e1 e2 hu hv
          go_wp2_with fail
          haveI inhB : ∀ w : World, Inhabited (BelowBy w) := fun w => ⟨⟨w, Below.refl _ _⟩⟩
          refine wp_region_quiet_below (by kernel_rfl) (by kernel_rfl) ?_
          repeat (go_big_quiet_step (fail))
          refine wpQuiet_nil ?_
          intro wq hw'
          obtain ⟨⟨_, hwq⟩, hw''⟩ := hw'
          subst hw''
          have HE := hid (bl_step hb.out hwq)
          clear hwq hb u0' u1' u2' v0' v1' v2' z3' y3'
          go_wp2
          go_roundw
          case rel => exact ⟨k + 1, by omega, by go_num, HE⟩
          case measure => simp [intOf]; omega
        · have hki : ¬ (k : Int) < (x.cases.n : Int) := by omega
          have HE := hid (bl_step HB.out hb.out)
          clear hb
          go_wp2
          go_ret
          exact ⟨rfl, HE.out⟩
    | true =>
      go_enter Tryz.func36, Tryz.ntmps36
      go_wp2
      rw [← EW.out, ← E1.out, ← E0.out]
      clear EW E0 E1
      go_loopw [7] (fun q wr => ∃ k : Nat, k ≤ x.cases.n ∧ q = .int .i64 k ∧ Hid (Below W2.heap.size W2 wr)) (fun q _ => x.cases.n - (intOf q).toNat)
      case atStart => exact ⟨0, Nat.zero_le _, rfl, Below.refl _ _⟩
      case round =>
        obtain ⟨k, hk, rfl, hb⟩ := hrel
        have z3 := cell_keep z3 hb.out
        have y3 := cell_keep y3 hb.out
        by_cases hlt : k < x.cases.n
        · have hki : (k : Int) < (x.cases.n : Int) := by omega
          obtain ⟨g1, o1, u, e1, hu, ⟨u0, _⟩, ⟨u1, _⟩, ⟨u2, _⟩⟩ := row_at (HX.out.step CaseD.keeps hb.out) hlt
          obtain ⟨g2, o2, v, e2, hv, ⟨v0, _⟩, ⟨v1, _⟩, ⟨v2, _⟩⟩ := row_at (HY.out.step CaseD.keeps hb.out) (show k < y.cases.n by rw [HN.out]; exact hlt)
          obtain rfl : sa = some ⟨g1, o1, none⟩ := by rw [← ESA.out]; exact e1
          obtain rfl : ta = some ⟨g2, o2, none⟩ := by rw [← ETA.out]; exact e2
          obtain rfl : u = v := by rw [HCS.out, hv] at hu; exact (Option.some.inj hu).symm
          have u0' := cell_by u0
          have u1' := cell_by u1
          have u2' := cell_by u2
          have v0' := cell_by v0
          have v1' := cell_by v1
          have v2' := cell_by v2
          have z3' := cell_by z3
          have y3' := cell_by y3
          clear e1 e2 hu hv
          go_wp2_with fail
          haveI inhB : ∀ w : World, Inhabited (BelowBy w) := fun w => ⟨⟨w, Below.refl _ _⟩⟩
          refine wp_region_quiet_below (by kernel_rfl) (by kernel_rfl) ?_
          repeat (go_big_quiet_step (fail))
          refine wpQuiet_nil ?_
          intro wq hw'
          obtain ⟨⟨_, hwq⟩, hw''⟩ := hw'
          subst hw''
          have HE := hid (bl_step hb.out hwq)
          clear hwq hb u0' u1' u2' v0' v1' v2' z3' y3'
          go_wp2
          go_roundw
          case rel => exact ⟨k + 1, by omega, by go_num, HE⟩
          case measure => simp [intOf]; omega
        · have hki : ¬ (k : Int) < (x.cases.n : Int) := by omega
          have HE := hid (bl_step HB.out hb.out)
          clear hb
          go_wp2
          go_ret
          exact ⟨rfl, HE.out⟩
  · have hz' : decide ((0 : Int) < (x.cases.n : Int)) = false := decide_eq_false (by omega)
    cases c with
    | false =>
      have hr : y.r = x.r := (Q3.out (.inl rfl)).symm
      rw [hr] at y1 y2 EW
      rw [hr]
      clear Q3 hr
      go_enter Tryz.func36, Tryz.ntmps36
      go_wp2
      rw [← EW.out, ← E1.out, ← E0.out]
      clear EW E0 E1
      go_loopw [7] (fun q wr => ∃ k : Nat, k ≤ x.cases.n ∧ q = .int .i64 k ∧ Hid (Below W2.heap.size W2 wr)) (fun q _ => x.cases.n - (intOf q).toNat)
      case atStart => exact ⟨0, Nat.zero_le _, rfl, Below.refl _ _⟩
      case round =>
        obtain ⟨k, hk, rfl, hb⟩ := hrel
        have z3 := cell_keep z3 hb.out
        have y3 := cell_keep y3 hb.out
        by_cases hlt : k < x.cases.n
        · exact absurd hlt (by omega)
        · have hki : ¬ (k : Int) < (x.cases.n : Int) := by omega
          have HE := hid (bl_step HB.out hb.out)
          clear hb
          go_wp2
          go_ret
          exact ⟨rfl, HE.out⟩
    | true =>
      clear Q3
      go_enter Tryz.func36, Tryz.ntmps36
      go_wp2
      rw [← EW.out, ← E1.out, ← E0.out]
      clear EW E0 E1
      go_loopw [7] (fun q wr => ∃ k : Nat, k ≤ x.cases.n ∧ q = .int .i64 k ∧ Hid (Below W2.heap.size W2 wr)) (fun q _ => x.cases.n - (intOf q).toNat)
      case atStart => exact ⟨0, Nat.zero_le _, rfl, Below.refl _ _⟩
      case round =>
        obtain ⟨k, hk, rfl, hb⟩ := hrel
        have z3 := cell_keep z3 hb.out
        have y3 := cell_keep y3 hb.out
        by_cases hlt : k < x.cases.n
        · exact absurd hlt (by omega)
        · have hki : ¬ (k : Int) < (x.cases.n : Int) := by omega
          have HE := hid (bl_step HB.out hb.out)
          clear hb
          go_wp2
          go_ret
          exact ⟨rfl, HE.out⟩
end Go.Proofs.YtedeiaokohdhpaaGreat
