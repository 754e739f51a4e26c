/- Texts of one chain, joined: QSame4. -/
import Derived.Test.YtedeiaokohdhpaaGreatG30
import Derived.Test.YtedeiaokohdhpaaGreatG0
namespace Go.Proofs.YtedeiaokohdhpaaGreat
open Go.RowKit
theorem nums_yes {w : World} {a b : Option Addr} {m : Nat} {ps : List Int} (c d : Nat) (hm : m ≤ 1000) (ha : Has .u64 w a m ps) (hb : Has .u64 w b m ps) : Calls Tryz.prog 83 #[.slice a m c, .slice b m d] w (Yes w) :=
  (same_nums c d hm ha hb).mono fun _ _ ⟨h1, s, h2⟩ => ⟨h1, by rw [h2]; exact ⟨rfl, rfl, rfl, Nat.le_refl _, fun _ _ => rfl⟩⟩
set_option maxHeartbeats 8000000 in
set_option maxRecDepth 20000 in
theorem sameTable_any (x y : TabD) (w : World) (hx : QRow 2 RefD.lie w x.keys x.ks) (hy : QRow 2 RefD.lie w y.keys y.ks) (hxa : Has .i64 w x.acts.a x.acts.n x.al) (hya : Has .i64 w y.acts.a y.acts.n y.al) (hxz : Has .u64 w x.args.a x.args.n x.zs) (hyz : Has .u64 w y.args.a y.args.n y.zs) (he : x.p = y.p) (hm : x.keys.n ≤ 500 ∧ x.acts.n ≤ 500 ∧ x.args.n ≤ 500) :
    Calls Tryz.prog 38 #[.agg #[.int .i64 x.kind, .slice x.keys.a x.keys.n x.keys.c, .slice x.acts.a x.acts.n x.acts.c, .int .i64 x.cap, .int .i64 x.dflt, .slice x.args.a x.args.n x.args.c], .agg #[.int .i64 y.kind, .slice y.keys.a y.keys.n y.keys.c, .slice y.acts.a y.acts.n y.acts.c, .int .i64 y.cap, .int .i64 y.dflt, .slice y.args.a y.args.n y.args.c]] w (Yes w) := by
  simp only [TabD.p, PTab.mk.injEq] at he
  obtain ⟨q0, q1, q2, q3, q4, q5⟩ := he
  have n1 : y.keys.n = x.keys.n := by rw [← hx.1, ← hy.1, q1]
  have n2 : y.acts.n = x.acts.n := by rw [← hxa.1, ← hya.1, q2]
  have n3 : y.args.n = x.args.n := by rw [← hxz.1, ← hyz.1, q5]
  obtain ⟨W2, hW⟩ : ∃ W2, W2 = (w.alloc (.cells #[.int .i64 x.kind, .slice x.keys.a x.keys.n x.keys.c, .slice x.acts.a x.acts.n x.acts.c, .int .i64 x.cap, .int .i64 x.dflt, .slice x.args.a x.args.n x.args.c] 63)).alloc (.cells #[.int .i64 y.kind, .slice y.keys.a y.keys.n y.keys.c, .slice y.acts.a y.acts.n y.acts.c, .int .i64 y.cap, .int .i64 y.dflt, .slice y.args.a y.args.n y.args.c] 63) := ⟨_, rfl⟩
  obtain ⟨b0, h0⟩ : ∃ b0, b0 = w.heap.size := ⟨_, rfl⟩
  obtain ⟨b1, h1⟩ : ∃ b1, b1 = w.heap.size + 1 := ⟨_, rfl⟩
  have z0 : W2.cell? ⟨b0, 0, none⟩ = some (.int .i64 x.kind) := by rw [hW, h0]; exact (World.cell?_alloc_past _ _ _ (by simp)).trans ((World.cell?_alloc_at _ _ _ _ rfl).trans rfl)
  have z1 : W2.cell? ⟨b0, 1, none⟩ = some (.slice x.keys.a x.keys.n x.keys.c) := by rw [hW, h0]; exact (World.cell?_alloc_past _ _ _ (by simp)).trans ((World.cell?_alloc_at _ _ _ _ rfl).trans rfl)
  have z2 : W2.cell? ⟨b0, 2, none⟩ = some (.slice x.acts.a x.acts.n x.acts.c) := by rw [hW, h0]; exact (World.cell?_alloc_past _ _ _ (by simp)).trans ((World.cell?_alloc_at _ _ _ _ rfl).trans rfl)
  have z3 : W2.cell? ⟨b0, 3, none⟩ = some (.int .i64 x.cap) := by rw [hW, h0]; exact (World.cell?_alloc_past _ _ _ (by simp)).trans ((World.cell?_alloc_at _ _ _ _ rfl).trans rfl)
  have z4 : W2.cell? ⟨b0, 4, none⟩ = some (.int .i64 x.dflt) := by rw [hW, h0]; exact (World.cell?_alloc_past _ _ _ (by simp)).trans ((World.cell?_alloc_at _ _ _ _ rfl).trans rfl)
  have z5 : W2.cell? ⟨b0, 5, none⟩ = some (.slice x.args.a x.args.n x.args.c) := by rw [hW, h0]; exact (World.cell?_alloc_past _ _ _ (by simp)).trans ((World.cell?_alloc_at _ _ _ _ rfl).trans rfl)
  have y0 : W2.cell? ⟨b1, 0, none⟩ = some (.int .i64 y.kind) := by rw [hW, h1]; exact (World.cell?_alloc_at _ _ _ _ (by simp)).trans rfl
  have y1 : W2.cell? ⟨b1, 1, none⟩ = some (.slice y.keys.a y.keys.n y.keys.c) := by rw [hW, h1]; exact (World.cell?_alloc_at _ _ _ _ (by simp)).trans rfl
  have y2 : W2.cell? ⟨b1, 2, none⟩ = some (.slice y.acts.a y.acts.n y.acts.c) := by rw [hW, h1]; exact (World.cell?_alloc_at _ _ _ _ (by simp)).trans rfl
  have y3 : W2.cell? ⟨b1, 3, none⟩ = some (.int .i64 y.cap) := by rw [hW, h1]; exact (World.cell?_alloc_at _ _ _ _ (by simp)).trans rfl
  have y4 : W2.cell? ⟨b1, 4, none⟩ = some (.int .i64 y.dflt) := by rw [hW, h1]; exact (World.cell?_alloc_at _ _ _ _ (by simp)).trans rfl
  have y5 : W2.cell? ⟨b1, 5, none⟩ = some (.slice y.args.a y.args.n y.args.c) := by rw [hW, h1]; exact (World.cell?_alloc_at _ _ _ _ (by simp)).trans rfl
  have HB : Hid (Below w.heap.size w W2) := by rw [hW]; exact bl_alloc (bl_alloc (Below.refl _ _))
  have EW := hid hW
  have E0 := hid h0
  have E1 := hid h1
  clear hW h0 h1
  rw [n1] at y1 EW
  rw [n2] at y2 EW
  rw [n3] at y5 EW
  rw [← q0] at y0 EW
  rw [← q3] at y3 EW
  rw [← q4] at y4 EW
  rw [n1, n2, n3, ← q0, ← q3, ← q4]
  rw [n2, ← q2] at hya
  rw [n3, ← q5] at hyz
  have HSI : Hid (∀ w', Below w.heap.size w w' → Calls Tryz.prog 35 #[.slice x.acts.a x.acts.n x.acts.c, .slice y.acts.a x.acts.n y.acts.c] w' (Yes w')) := fun w' h => qsame_below _ _ (by omega) (hxa.step h) (hya.step h)
  have HSN : Hid (∀ w', Below w.heap.size w w' → Calls Tryz.prog 83 #[.slice x.args.a x.args.n x.args.c, .slice y.args.a x.args.n y.args.c] w' (Yes w')) := fun w' h => nums_yes _ _ (by omega) (hxz.step h) (hyz.step h)
  have HX := hid (hx.step RefD.keeps HB.out)
  have HY := hid (hy.step RefD.keeps HB.out)
  have HN := hid n1
  have HKS := hid q1
  have hne : ((x.keys.n : Int) != (x.keys.n : Int)) = false := by simp
  have hk5 := hm.1
  obtain ⟨sa, esa⟩ : ∃ sa, x.keys.a = sa := ⟨_, rfl⟩
  obtain ⟨ta, eta⟩ : ∃ ta, y.keys.a = ta := ⟨_, rfl⟩
  rw [esa] at z1 EW
  rw [eta] at y1 EW
  rw [esa, eta]
  have ESA := hid esa
  have ETA := hid eta
  clear hx hy hxa hya hxz hyz q0 q1 q2 q3 q4 q5 n1 n2 n3 hm esa eta
  go_enter Tryz.func38, Tryz.ntmps38
  go_wp2
  rw [← EW.out, ← E1.out, ← E0.out]
  clear EW E0 E1
  go_loopw [5] (fun q wr => ∃ k : Nat, k ≤ x.keys.n ∧ q = .int .i64 k ∧ Hid (Below W2.heap.size W2 wr)) (fun q _ => x.keys.n - (intOf q).toNat)
  case atStart => exact ⟨0, Nat.zero_le _, rfl, Below.refl _ _⟩
  case round =>
    obtain ⟨k, hk, rfl, hb⟩ := hrel
    have hb1 := hb.out
    have z0 := cell_keep z0 hb1
    have y0 := cell_keep y0 hb1
    have z1 := cell_keep z1 hb1
    have y1 := cell_keep y1 hb1
    have z2 := cell_keep z2 hb1
    have y2 := cell_keep y2 hb1
    have z3 := cell_keep z3 hb1
    have y3 := cell_keep y3 hb1
    have z4 := cell_keep z4 hb1
    have y4 := cell_keep y4 hb1
    have z5 := cell_keep z5 hb1
    have y5 := cell_keep y5 hb1
    clear hb1
    by_cases hlt : k < x.keys.n
    · have hki : (k : Int) < (x.keys.n : Int) := by omega
      obtain ⟨g1, o1, u, e1, hu, ⟨u0, _⟩, ⟨u1, _⟩⟩ := row_at (HX.out.step RefD.keeps hb.out) hlt
      obtain ⟨g2, o2, v, e2, hv, ⟨v0, _⟩, ⟨v1, _⟩⟩ := row_at (HY.out.step RefD.keeps hb.out) (show k < y.keys.n by rw [HN.out]; exact hlt)
      obtain rfl : sa = some ⟨g1, o1, none⟩ := by rw [← ESA.out]; exact e1
      obtain rfl : ta = some ⟨g2, o2, none⟩ := by rw [← ETA.out]; exact e2
      obtain rfl : u = v := by rw [HKS.out, hv] at hu; exact (Option.some.inj hu).symm
      have u0' := cell_by u0
      have u1' := cell_by u1
      have v0' := cell_by v0
      have v1' := cell_by v1
      have z1' := cell_by z1
      have y1' := cell_by y1
      clear e1 e2 hu hv z0 z2 z3 z4 z5 y0 y2 y3 y4 y5
      go_wp2_with fail
      haveI inhB : ∀ w : World, Inhabited (BelowBy w) := fun w => ⟨⟨w, Below.refl _ _⟩⟩
      refine wp_region_quiet_below (by kernel_rfl) (by kernel_rfl) ?_
      repeat (go_big_quiet_step (fail))
      refine wpQuiet_nil ?_
      intro wq hw'
      obtain ⟨⟨_, hwq⟩, hw''⟩ := hw'
      subst hw''
      have HE := hid (bl_step hb.out hwq)
      clear hwq hb u0' u1' v0' v1' z1' y1'
      go_wp2
      go_roundw
      case rel => exact ⟨k + 1, by omega, by go_num, HE⟩
      case measure => simp [intOf]; omega
    · have hki : ¬ (k : Int) < (x.keys.n : Int) := by omega
      have BW := hid (bl_step HB.out hb.out)
      clear hb
      have HS1 := hid (HSI.out _ BW.out)
      go_wp2_with fail
      refine HS1.out.mono ?_
      rintro e w1 ⟨rfl, hb1⟩
      have BW1 := hid (bl_step BW.out hb1)
      have z0 := cell_keep z0 hb1
      have y0 := cell_keep y0 hb1
      have z1 := cell_keep z1 hb1
      have y1 := cell_keep y1 hb1
      have z2 := cell_keep z2 hb1
      have y2 := cell_keep y2 hb1
      have z3 := cell_keep z3 hb1
      have y3 := cell_keep y3 hb1
      have z4 := cell_keep z4 hb1
      have y4 := cell_keep y4 hb1
      have z5 := cell_keep z5 hb1
      have y5 := cell_keep y5 hb1
      have HS2 := hid (HSN.out _ BW1.out)
      clear hb1 HS1
      go_wp2_with fail
      refine HS2.out.mono ?_
      rintro e w2 ⟨rfl, hb2⟩
      have BW2 := hid (bl_step BW1.out hb2)
      clear hb2 HS2
      go_wp2
      go_ret
      exact ⟨rfl, BW2.out⟩
end Go.Proofs.YtedeiaokohdhpaaGreat
