/- Texts of one chain, joined: QSame3. -/
import Derived.Test.YtedeiaokohdhpaaGreatG30
namespace Go.Proofs.YtedeiaokohdhpaaGreat
open Go.RowKit
set_option maxHeartbeats 8000000 in
set_option maxRecDepth 20000 in
theorem sameOp_any (c : Bool) (x y : OpD) (w : World) (hx : QRow 4 PushD.lie w x.e x.es) (hy : QRow 4 PushD.lie w y.e y.es) (he : EqOp c x.p y.p) (hm : x.e.n ≤ 100000) :
    Calls Tryz.prog 37 #[.agg #[.int .i64 x.kind, .int .i64 x.r.h, .int .i64 x.r.f, .int .i64 x.head, .slice x.e.a x.e.n x.e.c], .agg #[.int .i64 y.kind, .int .i64 y.r.h, .int .i64 y.r.f, .int .i64 y.head, .slice y.e.a y.e.n y.e.c], .bool c] w (Yes w) := by
  obtain ⟨q0, q1, q2, q3⟩ := he
  have HT : Hid (EqL (EqPush c) x.es y.es → ∀ w', Below w.heap.size w w' → Calls Tryz.prog 82 #[.slice x.e.a x.e.n x.e.c, .slice y.e.a y.e.n y.e.c, .bool c] w' (Yes w')) := fun h w' hb => sameTree_any c x.e y.e x.es y.es w' (hx.step PushD.keeps hb) (hy.step PushD.keeps hb) h hm
  obtain ⟨W2, hW⟩ : ∃ W2, W2 = (w.alloc (.cells #[.int .i64 x.kind, .int .i64 x.r.h, .int .i64 x.r.f, .int .i64 x.head, .slice x.e.a x.e.n x.e.c] 59)).alloc (.cells #[.int .i64 y.kind, .int .i64 y.r.h, .int .i64 y.r.f, .int .i64 y.head, .slice y.e.a y.e.n y.e.c] 59) := ⟨_, rfl⟩
  obtain ⟨b0, h0⟩ : ∃ b0, b0 = w.heap.size := ⟨_, rfl⟩
  obtain ⟨b1, h1⟩ : ∃ b1, b1 = w.heap.size + 1 := ⟨_, rfl⟩
  have z0 : W2.cell? ⟨b0, 0, none⟩ = some (.int .i64 x.kind) := by rw [hW, h0]; exact (World.cell?_alloc_past _ _ _ (by simp)).trans ((World.cell?_alloc_at _ _ _ _ rfl).trans rfl)
  have z1 : W2.cell? ⟨b0, 1, none⟩ = some (.int .i64 x.r.h) := by rw [hW, h0]; exact (World.cell?_alloc_past _ _ _ (by simp)).trans ((World.cell?_alloc_at _ _ _ _ rfl).trans rfl)
  have z2 : W2.cell? ⟨b0, 2, none⟩ = some (.int .i64 x.r.f) := by rw [hW, h0]; exact (World.cell?_alloc_past _ _ _ (by simp)).trans ((World.cell?_alloc_at _ _ _ _ rfl).trans rfl)
  have z3 : W2.cell? ⟨b0, 3, none⟩ = some (.int .i64 x.head) := by rw [hW, h0]; exact (World.cell?_alloc_past _ _ _ (by simp)).trans ((World.cell?_alloc_at _ _ _ _ rfl).trans rfl)
  have z4 : W2.cell? ⟨b0, 4, none⟩ = some (.slice x.e.a x.e.n x.e.c) := by rw [hW, h0]; exact (World.cell?_alloc_past _ _ _ (by simp)).trans ((World.cell?_alloc_at _ _ _ _ rfl).trans rfl)
  have y0 : W2.cell? ⟨b1, 0, none⟩ = some (.int .i64 y.kind) := by rw [hW, h1]; exact (World.cell?_alloc_at _ _ _ _ (by simp)).trans rfl
  have y1 : W2.cell? ⟨b1, 1, none⟩ = some (.int .i64 y.r.h) := by rw [hW, h1]; exact (World.cell?_alloc_at _ _ _ _ (by simp)).trans rfl
  have y2 : W2.cell? ⟨b1, 2, none⟩ = some (.int .i64 y.r.f) := by rw [hW, h1]; exact (World.cell?_alloc_at _ _ _ _ (by simp)).trans rfl
  have y3 : W2.cell? ⟨b1, 3, none⟩ = some (.int .i64 y.head) := by rw [hW, h1]; exact (World.cell?_alloc_at _ _ _ _ (by simp)).trans rfl
  have y4 : W2.cell? ⟨b1, 4, none⟩ = some (.slice y.e.a y.e.n y.e.c) := by rw [hW, h1]; exact (World.cell?_alloc_at _ _ _ _ (by simp)).trans rfl
  have HB : Hid (Below w.heap.size w W2) := by rw [hW]; exact bl_alloc (bl_alloc (Below.refl _ _))
  have EW := hid hW
  have E0 := hid h0
  have E1 := hid h1
  clear hW h0 h1
  have hk : y.kind = x.kind := q0.symm
  rw [hk] at y0 EW
  rw [hk]
  have QR : Hid ((c = false ∨ x.kind = 1 ∨ x.kind = 6) → y.r = x.r) := fun h => (q1 h).symm
  have QH : Hid ((c = false ∨ x.kind = 2 ∨ x.kind = 3 ∨ x.kind = 6) → y.head = x.head) := fun h => (q2 h).symm
  have QE : Hid ((c = false ∨ x.kind = 1 ∨ x.kind = 5) → EqL (EqPush c) x.es y.es) := q3
  clear q0 q1 q2 q3 hk hx hy
  cases c with
  | false =>
    have hr := QR.out (.inl rfl)
    rw [hr] at y1 y2 EW
    rw [hr]
    clear hr
    have hh := QH.out (.inl rfl)
    rw [hh] at y3 EW
    rw [hh]
    clear hh
    have HTC := hid (HT.out (QE.out (.inl rfl)) W2 HB.out)
    clear HT QR QH QE
    go_enter Tryz.func37, Tryz.ntmps37
    go_wp2_with fail
    rw [← EW.out, ← E1.out, ← E0.out]
    clear EW E0 E1
    refine HTC.out.mono ?_
    rintro e w1 ⟨rfl, hb1⟩
    have z0 := cell_keep z0 hb1
    have y0 := cell_keep y0 hb1
    have z1 := cell_keep z1 hb1
    have y1 := cell_keep y1 hb1
    have z2 := cell_keep z2 hb1
    have y2 := cell_keep y2 hb1
    have z3 := cell_keep z3 hb1
    have y3 := cell_keep y3 hb1
    have z4 := cell_keep z4 hb1
    have y4 := cell_keep y4 hb1
    have HE := hid (bl_step HB.out hb1)
    clear HTC hb1
    go_wp2
    go_ret
    exact ⟨rfl, HE.out⟩
  | true =>
    by_cases k1 : x.kind = 1
    · have e1 : (x.kind == 1) = true := by simpa using k1
      have e2 : (x.kind == 2) = false := by rw [k1]; rfl
      have e3 : (x.kind == 3) = false := by rw [k1]; rfl
      have e6 : (x.kind == 6) = false := by rw [k1]; rfl
      have hr := QR.out (.inr (.inl k1))
      rw [hr] at y1 y2 EW
      rw [hr]
      clear hr
      have HTC := hid (HT.out (QE.out (.inr (.inl k1))) W2 HB.out)
      clear HT QR QH QE
      clear k1
      go_enter Tryz.func37, Tryz.ntmps37
      go_wp2_with fail
      rw [← EW.out, ← E1.out, ← E0.out]
      clear EW E0 E1
      refine HTC.out.mono ?_
      rintro e w1 ⟨rfl, hb1⟩
      have z0 := cell_keep z0 hb1
      have y0 := cell_keep y0 hb1
      have z1 := cell_keep z1 hb1
      have y1 := cell_keep y1 hb1
      have z2 := cell_keep z2 hb1
      have y2 := cell_keep y2 hb1
      have z3 := cell_keep z3 hb1
      have y3 := cell_keep y3 hb1
      have z4 := cell_keep z4 hb1
      have y4 := cell_keep y4 hb1
      have HE := hid (bl_step HB.out hb1)
      clear HTC hb1
      go_wp2
      go_ret
      exact ⟨rfl, HE.out⟩
    have e1 : (x.kind == 1) = false := by simpa using k1
    by_cases k2 : x.kind = 2
    · have e2 : (x.kind == 2) = true := by simpa using k2
      have e5 : (x.kind == 5) = false := by rw [k2]; rfl
      have e6 : (x.kind == 6) = false := by rw [k2]; rfl
      have hh := QH.out (.inr (.inl k2))
      rw [hh] at y3 EW
      rw [hh]
      clear hh
      clear HT QR QH QE
      clear k1 k2
      go_enter Tryz.func37, Tryz.ntmps37
      go_wp2
      go_ret
      exact ⟨rfl, bl_alloc (bl_alloc (Below.refl _ _))⟩
    have e2 : (x.kind == 2) = false := by simpa using k2
    by_cases k3 : x.kind = 3
    · have e3 : (x.kind == 3) = true := by simpa using k3
      have e5 : (x.kind == 5) = false := by rw [k3]; rfl
      have e6 : (x.kind == 6) = false := by rw [k3]; rfl
      have hh := QH.out (.inr (.inr (.inl k3)))
      rw [hh] at y3 EW
      rw [hh]
      clear hh
      clear HT QR QH QE
      clear k1 k2 k3
      go_enter Tryz.func37, Tryz.ntmps37
      go_wp2
      go_ret
      exact ⟨rfl, bl_alloc (bl_alloc (Below.refl _ _))⟩
    have e3 : (x.kind == 3) = false := by simpa using k3
    by_cases k5 : x.kind = 5
    · have e5 : (x.kind == 5) = true := by simpa using k5
      have e6 : (x.kind == 6) = false := by rw [k5]; rfl
      have HTC := hid (HT.out (QE.out (.inr (.inr k5))) W2 HB.out)
      clear HT QR QH QE
      clear k1 k2 k3 k5
      go_enter Tryz.func37, Tryz.ntmps37
      go_wp2_with fail
      rw [← EW.out, ← E1.out, ← E0.out]
      clear EW E0 E1
      refine HTC.out.mono ?_
      rintro e w1 ⟨rfl, hb1⟩
      have z0 := cell_keep z0 hb1
      have y0 := cell_keep y0 hb1
      have z1 := cell_keep z1 hb1
      have y1 := cell_keep y1 hb1
      have z2 := cell_keep z2 hb1
      have y2 := cell_keep y2 hb1
      have z3 := cell_keep z3 hb1
      have y3 := cell_keep y3 hb1
      have z4 := cell_keep z4 hb1
      have y4 := cell_keep y4 hb1
      have HE := hid (bl_step HB.out hb1)
      clear HTC hb1
      go_wp2
      go_ret
      exact ⟨rfl, HE.out⟩
    have e5 : (x.kind == 5) = false := by simpa using k5
    by_cases k6 : x.kind = 6
    · have e6 : (x.kind == 6) = true := by simpa using k6
      have hr := QR.out (.inr (.inr k6))
      rw [hr] at y1 y2 EW
      rw [hr]
      clear hr
      have hh := QH.out (.inr (.inr (.inr k6)))
      rw [hh] at y3 EW
      rw [hh]
      clear hh
      clear HT QR QH QE
      clear k1 k2 k3 k5 k6
      go_enter Tryz.func37, Tryz.ntmps37
      go_wp2
      go_ret
      exact ⟨rfl, bl_alloc (bl_alloc (Below.refl _ _))⟩
    · have e6 : (x.kind == 6) = false := by simpa using k6
      clear HT QR QH QE
      clear k1 k2 k3 k5 k6
      go_enter Tryz.func37, Tryz.ntmps37
      go_wp2
      go_ret
      exact ⟨rfl, bl_alloc (bl_alloc (Below.refl _ _))⟩
set_option maxHeartbeats 8000000 in
set_option maxRecDepth 20000 in
theorem sameNode_any (c : Bool) (x y : NodeD) (w : World) (hx : QRow 4 PushD.lie w x.e x.es) (hy : QRow 4 PushD.lie w y.e y.es) (he : EqNode c x.p y.p) (hm : x.e.n ≤ 100000) :
    Calls Tryz.prog 39 #[.agg #[.int .i64 x.kind, .int .i64 x.n, .slice x.e.a x.e.n x.e.c, .int .i64 x.yes, .int .i64 x.no], .agg #[.int .i64 y.kind, .int .i64 y.n, .slice y.e.a y.e.n y.e.c, .int .i64 y.yes, .int .i64 y.no], .bool c] w (Yes w) := by
  obtain ⟨q0, q1, q2, q3, q4⟩ := he
  have HT : Hid (EqL (EqPush c) x.es y.es → ∀ w', Below w.heap.size w w' → Calls Tryz.prog 82 #[.slice x.e.a x.e.n x.e.c, .slice y.e.a y.e.n y.e.c, .bool c] w' (Yes w')) := fun h w' hb => sameTree_any c x.e y.e x.es y.es w' (hx.step PushD.keeps hb) (hy.step PushD.keeps hb) h hm
  obtain ⟨W2, hW⟩ : ∃ W2, W2 = (w.alloc (.cells #[.int .i64 x.kind, .int .i64 x.n, .slice x.e.a x.e.n x.e.c, .int .i64 x.yes, .int .i64 x.no] 65)).alloc (.cells #[.int .i64 y.kind, .int .i64 y.n, .slice y.e.a y.e.n y.e.c, .int .i64 y.yes, .int .i64 y.no] 65) := ⟨_, rfl⟩
  obtain ⟨b0, h0⟩ : ∃ b0, b0 = w.heap.size := ⟨_, rfl⟩
  obtain ⟨b1, h1⟩ : ∃ b1, b1 = w.heap.size + 1 := ⟨_, rfl⟩
  have z0 : W2.cell? ⟨b0, 0, none⟩ = some (.int .i64 x.kind) := by rw [hW, h0]; exact (World.cell?_alloc_past _ _ _ (by simp)).trans ((World.cell?_alloc_at _ _ _ _ rfl).trans rfl)
  have z1 : W2.cell? ⟨b0, 1, none⟩ = some (.int .i64 x.n) := by rw [hW, h0]; exact (World.cell?_alloc_past _ _ _ (by simp)).trans ((World.cell?_alloc_at _ _ _ _ rfl).trans rfl)
  have z2 : W2.cell? ⟨b0, 2, none⟩ = some (.slice x.e.a x.e.n x.e.c) := by rw [hW, h0]; exact (World.cell?_alloc_past _ _ _ (by simp)).trans ((World.cell?_alloc_at _ _ _ _ rfl).trans rfl)
  have z3 : W2.cell? ⟨b0, 3, none⟩ = some (.int .i64 x.yes) := by rw [hW, h0]; exact (World.cell?_alloc_past _ _ _ (by simp)).trans ((World.cell?_alloc_at _ _ _ _ rfl).trans rfl)
  have z4 : W2.cell? ⟨b0, 4, none⟩ = some (.int .i64 x.no) := by rw [hW, h0]; exact (World.cell?_alloc_past _ _ _ (by simp)).trans ((World.cell?_alloc_at _ _ _ _ rfl).trans rfl)
  have y0 : W2.cell? ⟨b1, 0, none⟩ = some (.int .i64 y.kind) := by rw [hW, h1]; exact (World.cell?_alloc_at _ _ _ _ (by simp)).trans rfl
  have y1 : W2.cell? ⟨b1, 1, none⟩ = some (.int .i64 y.n) := by rw [hW, h1]; exact (World.cell?_alloc_at _ _ _ _ (by simp)).trans rfl
  have y2 : W2.cell? ⟨b1, 2, none⟩ = some (.slice y.e.a y.e.n y.e.c) := by rw [hW, h1]; exact (World.cell?_alloc_at _ _ _ _ (by simp)).trans rfl
  have y3 : W2.cell? ⟨b1, 3, none⟩ = some (.int .i64 y.yes) := by rw [hW, h1]; exact (World.cell?_alloc_at _ _ _ _ (by simp)).trans rfl
  have y4 : W2.cell? ⟨b1, 4, none⟩ = some (.int .i64 y.no) := by rw [hW, h1]; exact (World.cell?_alloc_at _ _ _ _ (by simp)).trans rfl
  have HB : Hid (Below w.heap.size w W2) := by rw [hW]; exact bl_alloc (bl_alloc (Below.refl _ _))
  have EW := hid hW
  have E0 := hid h0
  have E1 := hid h1
  clear hW h0 h1
  have hk : y.kind = x.kind := q0.symm
  have hye : y.yes = x.yes := q1.symm
  rw [hk] at y0 EW
  rw [hk]
  rw [hye] at y3 EW
  rw [hye]
  have QN : Hid ((c = false ∨ x.kind ≠ 3) → y.n = x.n) := fun h => (q2 h).symm
  have QE : Hid ((c = false ∨ x.kind = 3) → EqL (EqPush c) x.es y.es) := q3
  have QO : Hid ((c = false ∨ x.kind = 3 ∨ x.kind = 4) → y.no = x.no) := fun h => (q4 h).symm
  clear q0 q1 q2 q3 q4 hk hye hx hy
  cases c with
  | false =>
    have hn := QN.out (.inl rfl)
    rw [hn] at y1 EW
    rw [hn]
    clear hn
    have ho := QO.out (.inl rfl)
    rw [ho] at y4 EW
    rw [ho]
    clear ho
    have HTC := hid (HT.out (QE.out (.inl rfl)) W2 HB.out)
    clear HT QN QE QO
    go_enter Tryz.func39, Tryz.ntmps39
    go_wp2_with fail
    rw [← EW.out, ← E1.out, ← E0.out]
    clear EW E0 E1
    refine HTC.out.mono ?_
    rintro e w1 ⟨rfl, hb1⟩
    have z0 := cell_keep z0 hb1
    have y0 := cell_keep y0 hb1
    have z1 := cell_keep z1 hb1
    have y1 := cell_keep y1 hb1
    have z2 := cell_keep z2 hb1
    have y2 := cell_keep y2 hb1
    have z3 := cell_keep z3 hb1
    have y3 := cell_keep y3 hb1
    have z4 := cell_keep z4 hb1
    have y4 := cell_keep y4 hb1
    have HE := hid (bl_step HB.out hb1)
    clear HTC hb1
    go_wp2
    go_ret
    exact ⟨rfl, HE.out⟩
  | true =>
    by_cases k3 : x.kind = 3
    · have e3 : (x.kind == 3) = true := by simpa using k3
      have n3 : (x.kind != 3) = false := by rw [k3]; rfl
      have e4 : (x.kind == 4) = false := by rw [k3]; rfl
      have ho := QO.out (.inr (.inl k3))
      rw [ho] at y4 EW
      rw [ho]
      clear ho
      have HTC := hid (HT.out (QE.out (.inr k3)) W2 HB.out)
      clear HT QN QE QO
      clear k3
      go_enter Tryz.func39, Tryz.ntmps39
      go_wp2_with fail
      rw [← EW.out, ← E1.out, ← E0.out]
      clear EW E0 E1
      refine HTC.out.mono ?_
      rintro e w1 ⟨rfl, hb1⟩
      have z0 := cell_keep z0 hb1
      have y0 := cell_keep y0 hb1
      have z1 := cell_keep z1 hb1
      have y1 := cell_keep y1 hb1
      have z2 := cell_keep z2 hb1
      have y2 := cell_keep y2 hb1
      have z3 := cell_keep z3 hb1
      have y3 := cell_keep y3 hb1
      have z4 := cell_keep z4 hb1
      have y4 := cell_keep y4 hb1
      have HE := hid (bl_step HB.out hb1)
      clear HTC hb1
      go_wp2
      go_ret
      exact ⟨rfl, HE.out⟩
    have e3 : (x.kind == 3) = false := by simpa using k3
    have n3 : (x.kind != 3) = true := by simpa using k3
    by_cases k4 : x.kind = 4
    · have e4 : (x.kind == 4) = true := by simpa using k4
      have hn := QN.out (.inr k3)
      rw [hn] at y1 EW
      rw [hn]
      clear hn
      have ho := QO.out (.inr (.inr k4))
      rw [ho] at y4 EW
      rw [ho]
      clear ho
      clear HT QN QE QO
      clear k3 k4
      go_enter Tryz.func39, Tryz.ntmps39
      go_wp2
      go_ret
      exact ⟨rfl, bl_alloc (bl_alloc (Below.refl _ _))⟩
    · have e4 : (x.kind == 4) = false := by simpa using k4
      have hn := QN.out (.inr k3)
      rw [hn] at y1 EW
      rw [hn]
      clear hn
      clear HT QN QE QO
      clear k3 k4
      go_enter Tryz.func39, Tryz.ntmps39
      go_wp2
      go_ret
      exact ⟨rfl, bl_alloc (bl_alloc (Below.refl _ _))⟩
end Go.Proofs.YtedeiaokohdhpaaGreat
