/- Texts of one chain, joined: QSame5. -/
import Derived.Test.YtedeiaokohdhpaaGreatG48
import Derived.Test.YtedeiaokohdhpaaGreatG49
import Derived.Test.YtedeiaokohdhpaaGreatG50
import Derived.Test.YtedeiaokohdhpaaGreatG33
namespace Go.Proofs.YtedeiaokohdhpaaGreat
open Go.RowKit
theorem map_at {α β : Type} {f : α → β} {S T : List α} (h : S.map f = T.map f) {i : Nat} {x y : α} (hx : S[i]? = some x) (hy : T[i]? = some y) : f x = f y := by
  have := congrArg (·[i]?) h
  simp only [List.getElem?_map, hx, hy, Option.map_some, Option.some.injEq] at this
  exact this
theorem row_mem {α β : Type} {k : Nat} {P : α → World → Nat → Nat → Prop} {w : World} {s : QSl} {S : List α} {f : α → β} (h : QRow k P w s S) {i : Nat} {x : α} (hx : S[i]? = some x) : (∃ g o, P x w g o) ∧ f x ∈ S.map f := by
  obtain ⟨g, o, _, hp⟩ := h.2 i x hx
  exact ⟨⟨g, _, hp⟩, List.mem_map.2 ⟨x, List.mem_of_getElem? hx, rfl⟩⟩
set_option maxHeartbeats 32000000 in
set_option maxRecDepth 20000 in
theorem samePlan_any (c : Bool) (d d' : PlanD) (w : World) (hx : d.lie w) (hy : d'.lie w) (he : EqPlan c d.p d'.p) (hm : d.p.little) :
    Calls Tryz.prog 12 #[d.v, d'.v, .bool c] w (Yes w) := by
  have n0 : d'.heads.n = d.heads.n := by rw [← hx.hs.1, ← hy.hs.1]; have := congrArg List.length he.hs; simpa [PlanD.p] using this.symm
  have n2 : d'.states.n = d.states.n := by rw [← hx.ss.1, ← hy.ss.1]; have := he.ss.1; simpa [PlanD.p] using this.symm
  have n3 : d'.acts.n = d.acts.n := by rw [← hx.al.1, ← hy.al.1]; have := he.al.1; simpa [PlanD.p] using this.symm
  have n4 : d'.tabs.n = d.tabs.n := by rw [← hx.ts.1, ← hy.ts.1]; have := congrArg List.length he.ts; simpa [PlanD.p] using this.symm
  have n5 : d'.nodes.n = d.nodes.n := by rw [← hx.ns.1, ← hy.ns.1]; have := he.ns.1; simpa [PlanD.p] using this.symm
  have n1 : d'.mta.n = d.mta.n := by rw [← hx.ms.1, ← hy.ms.1]; exact (congrArg List.length he.ms).symm
  have n6 : d'.out.n = d.out.n := by rw [← hx.os.1, ← hy.os.1]; exact (congrArg List.length he.os).symm
  have l0 : d.heads.n ≤ 50 := by have := hm.hs; simp [PlanD.p, hx.hs.1] at this; exact this
  have l1 : d.mta.n ≤ 500 := by have := hm.ms; simp [PlanD.p, hx.ms.1] at this; exact this
  have l2 : d.states.n ≤ 50 := by have := hm.ss; simp [PlanD.p, hx.ss.1] at this; exact this
  have l3 : d.acts.n ≤ 50 := by have := hm.al; simp [PlanD.p, hx.al.1] at this; exact this
  have l4 : d.tabs.n ≤ 50 := by have := hm.ts; simp [PlanD.p, hx.ts.1] at this; exact this
  have l5 : d.nodes.n ≤ 50 := by have := hm.ns; simp [PlanD.p, hx.ns.1] at this; exact this
  have l6 : d.out.n ≤ 500 := by have := hm.os; simp [PlanD.p, hx.os.1] at this; exact this
  obtain ⟨W2, hW⟩ : ∃ W2, W2 = (w.alloc d.box).alloc d'.box := ⟨_, rfl⟩
  obtain ⟨b0, h0⟩ : ∃ b0, b0 = w.heap.size := ⟨_, rfl⟩
  obtain ⟨b1, h1⟩ : ∃ b1, b1 = w.heap.size + 1 := ⟨_, rfl⟩
  have zc : W2.cell? ⟨b0, 0, none⟩ = some (.slice d.heads.a d.heads.n d.heads.c) ∧ W2.cell? ⟨b0, 1, none⟩ = some (.slice d.mta.a d.mta.n d.mta.c) ∧ W2.cell? ⟨b0, 2, none⟩ = some (.slice d.states.a d.states.n d.states.c) ∧ W2.cell? ⟨b0, 3, none⟩ = some (.slice d.acts.a d.acts.n d.acts.c) ∧ W2.cell? ⟨b0, 4, none⟩ = some (.slice d.tabs.a d.tabs.n d.tabs.c) ∧ W2.cell? ⟨b0, 5, none⟩ = some (.slice d.nodes.a d.nodes.n d.nodes.c) ∧ W2.cell? ⟨b0, 6, none⟩ = some (.slice d.out.a d.out.n d.out.c) := by rw [hW, h0]; refine ⟨?_, ?_, ?_, ?_, ?_, ?_, ?_⟩ <;> exact (World.cell?_alloc_past _ _ _ (by simp)).trans ((World.cell?_alloc_at _ _ _ _ rfl).trans rfl)
  have yc : W2.cell? ⟨b1, 0, none⟩ = some (.slice d'.heads.a d'.heads.n d'.heads.c) ∧ W2.cell? ⟨b1, 1, none⟩ = some (.slice d'.mta.a d'.mta.n d'.mta.c) ∧ W2.cell? ⟨b1, 2, none⟩ = some (.slice d'.states.a d'.states.n d'.states.c) ∧ W2.cell? ⟨b1, 3, none⟩ = some (.slice d'.acts.a d'.acts.n d'.acts.c) ∧ W2.cell? ⟨b1, 4, none⟩ = some (.slice d'.tabs.a d'.tabs.n d'.tabs.c) ∧ W2.cell? ⟨b1, 5, none⟩ = some (.slice d'.nodes.a d'.nodes.n d'.nodes.c) ∧ W2.cell? ⟨b1, 6, none⟩ = some (.slice d'.out.a d'.out.n d'.out.c) := by rw [hW, h1]; refine ⟨?_, ?_, ?_, ?_, ?_, ?_, ?_⟩ <;> exact (World.cell?_alloc_at _ _ _ _ (by simp)).trans rfl
  have HB : Hid (Below w.heap.size w W2) := by rw [hW]; exact bl_alloc (bl_alloc (Below.refl _ _))
  have EW := hid hW
  have E0 := hid h0
  have E1 := hid h1
  have HSM : Hid (∀ w', Below W2.heap.size W2 w' → Calls Tryz.prog 35 #[.slice d.mta.a d.mta.n d.mta.c, .slice d'.mta.a d.mta.n d'.mta.c] w' (Yes w')) := fun w' h => qsame_below _ _ (by omega) (hx.ms.step (bl_step HB.out h)) (by have := hy.ms; rw [n1, show d'.ms = d.ms from he.ms.symm] at this; exact this.step (bl_step HB.out h))
  have HSO : Hid (∀ w', Below W2.heap.size W2 w' → Calls Tryz.prog 35 #[.slice d.out.a d.out.n d.out.c, .slice d'.out.a d.out.n d'.out.c] w' (Yes w')) := fun w' h => qsame_below _ _ (by omega) (hx.os.step (bl_step HB.out h)) (by have := hy.os; rw [n6, show d'.os = d.os from he.os.symm] at this; exact this.step (bl_step HB.out h))
  have CALLheads : ∀ (k : Nat) (u v : HeadD), d.hs[k]? = some u → d'.hs[k]? = some v → ∀ w', Below W2.heap.size W2 w' → Calls Tryz.prog 35 #[.slice u.w.a u.w.n u.w.c, .slice v.w.a v.w.n v.w.c] w' fun e w'' => e = .returned (.bool true) ∧ Below w'.heap.size w' w'' := fun k u v hu hv w' h => by
    obtain ⟨⟨g, o, hp⟩, hmem⟩ := row_mem (f := HeadD.ws) hx.hs hu
    obtain ⟨⟨g', o', hp'⟩, _⟩ := row_mem (f := HeadD.ws) hy.hs hv
    have e : u.ws = v.ws := map_at he.hs hu hv
    have hl := hm.hw _ hmem
    have e1 := hp.2.1
    have e2 := hp'.2.1
    have e3 : v.w.n = u.w.n := by rw [← e1, ← e2, e]
    have h2 := hp'.2
    rw [e3, ← e] at h2
    rw [e3]
    exact qsame_below _ _ (by omega) (hp.2.step (bl_step HB.out h)) (h2.step (bl_step HB.out h))
  have CALLstates : ∀ (k : Nat) (u v : StateD), d.ss[k]? = some u → d'.ss[k]? = some v → ∀ w', Below W2.heap.size W2 w' → Calls Tryz.prog 36 #[.agg #[.int .i64 u.head, .int .i64 u.r.h, .int .i64 u.r.f, .slice u.cases.a u.cases.n u.cases.c, .int .i64 u.els], .agg #[.int .i64 v.head, .int .i64 v.r.h, .int .i64 v.r.f, .slice v.cases.a v.cases.n v.cases.c, .int .i64 v.els], .bool c] w' fun e w'' => e = .returned (.bool true) ∧ Below w'.heap.size w' w'' := fun k u v hu hv w' h => by
    obtain ⟨⟨g, o, hp⟩, hmem⟩ := row_mem (f := StateD.p) hx.ss hu
    obtain ⟨⟨g', o', hp'⟩, _⟩ := row_mem (f := StateD.p) hy.ss hv
    have hl := hm.sc _ hmem
    have e1 := hp.2.2.2.2.2.1
    exact sameState_any c u v w' (hp.2.2.2.2.2.step CaseD.keeps (bl_step HB.out h)) (hp'.2.2.2.2.2.step CaseD.keeps (bl_step HB.out h)) (he.ss.at hu hv) (by have : u.cs.length ≤ 500 := hl; omega)
  have CALLtabs : ∀ (k : Nat) (u v : TabD), d.ts[k]? = some u → d'.ts[k]? = some v → ∀ w', Below W2.heap.size W2 w' → Calls Tryz.prog 38 #[.agg #[.int .i64 u.kind, .slice u.keys.a u.keys.n u.keys.c, .slice u.acts.a u.acts.n u.acts.c, .int .i64 u.cap, .int .i64 u.dflt, .slice u.args.a u.args.n u.args.c], .agg #[.int .i64 v.kind, .slice v.keys.a v.keys.n v.keys.c, .slice v.acts.a v.acts.n v.acts.c, .int .i64 v.cap, .int .i64 v.dflt, .slice v.args.a v.args.n v.args.c]] w' fun e w'' => e = .returned (.bool true) ∧ Below w'.heap.size w' w'' := fun k u v hu hv w' h => by
    obtain ⟨⟨g, o, hp⟩, hmem⟩ := row_mem (f := TabD.p) hx.ts hu
    obtain ⟨⟨g', o', hp'⟩, _⟩ := row_mem (f := TabD.p) hy.ts hv
    have hl := hm.tl _ hmem
    have hl1 : u.ks.length ≤ 500 := hl.1
    have hl2 : u.al.length ≤ 500 := hl.2.1
    have hl3 : u.zs.length ≤ 500 := hl.2.2
    have hp := hp.2.2.2.2.2.2
    have hp' := hp'.2.2.2.2.2.2
    have e1 := hp.1.1
    have e2 := hp.2.1.1
    have e3 := hp.2.2.1
    exact sameTable_any u v w' (hp.1.step RefD.keeps (bl_step HB.out h)) (hp'.1.step RefD.keeps (bl_step HB.out h)) (hp.2.1.step (bl_step HB.out h)) (hp'.2.1.step (bl_step HB.out h)) (hp.2.2.step (bl_step HB.out h)) (hp'.2.2.step (bl_step HB.out h)) (map_at he.ts hu hv) (by omega)
  have CALLnodes : ∀ (k : Nat) (u v : NodeD), d.ns[k]? = some u → d'.ns[k]? = some v → ∀ w', Below W2.heap.size W2 w' → Calls Tryz.prog 39 #[.agg #[.int .i64 u.kind, .int .i64 u.n, .slice u.e.a u.e.n u.e.c, .int .i64 u.yes, .int .i64 u.no], .agg #[.int .i64 v.kind, .int .i64 v.n, .slice v.e.a v.e.n v.e.c, .int .i64 v.yes, .int .i64 v.no], .bool c] w' fun e w'' => e = .returned (.bool true) ∧ Below w'.heap.size w' w'' := fun k u v hu hv w' h => by
    obtain ⟨⟨g, o, hp⟩, hmem⟩ := row_mem (f := NodeD.p) hx.ns hu
    obtain ⟨⟨g', o', hp'⟩, _⟩ := row_mem (f := NodeD.p) hy.ns hv
    have hl : u.es.length ≤ 500 := hm.ne _ hmem
    have e1 := hp.2.2.2.2.2.1
    exact sameNode_any c u v w' (hp.2.2.2.2.2.step PushD.keeps (bl_step HB.out h)) (hp'.2.2.2.2.2.step PushD.keeps (bl_step HB.out h)) (he.ns.at hu hv) (by omega)
  have CALLacts : ∀ (k : Nat) (u v : ActD), d.al[k]? = some u → d'.al[k]? = some v → (v.w.n = u.w.n ∧ v.ops.n = u.ops.n ∧ u.ops.n ≤ 50) ∧ (∀ w', Below W2.heap.size W2 w' → Calls Tryz.prog 35 #[.slice u.w.a u.w.n u.w.c, .slice v.w.a u.w.n v.w.c] w' (Yes w')) ∧ QRow 5 OpD.lie W2 u.ops u.os ∧ QRow 5 OpD.lie W2 v.ops v.os ∧ (∀ (j : Nat) (x y : OpD), u.os[j]? = some x → v.os[j]? = some y → ∀ w', Below W2.heap.size W2 w' → Calls Tryz.prog 37 #[.agg #[.int .i64 x.kind, .int .i64 x.r.h, .int .i64 x.r.f, .int .i64 x.head, .slice x.e.a x.e.n x.e.c], .agg #[.int .i64 y.kind, .int .i64 y.r.h, .int .i64 y.r.f, .int .i64 y.head, .slice y.e.a y.e.n y.e.c], .bool c] w' fun e w'' => e = .returned (.bool true) ∧ Below w'.heap.size w' w'') := fun k u v hu hv => by
    obtain ⟨⟨g, o, hp⟩, hmem⟩ := row_mem (f := ActD.p) hx.al hu
    obtain ⟨⟨g', o', hp'⟩, _⟩ := row_mem (f := ActD.p) hy.al hv
    have hl := hm.aw _ hmem
    have hl1 : u.ws.length ≤ 500 := hl.1
    have hl2 : (u.os.map OpD.p).length ≤ 50 := hl.2
    rw [List.length_map] at hl2
    obtain ⟨q1, q2⟩ := he.al.at hu hv
    have q1 : u.ws = v.ws := q1
    have q3 : (u.os.map OpD.p).length = (v.os.map OpD.p).length := q2.1
    rw [List.length_map, List.length_map] at q3
    have e1 := hp.2.2.1.1
    have e2 := hp'.2.2.1.1
    have e3 := hp.2.2.2.1
    have e4 := hp'.2.2.2.1
    have m1 : v.w.n = u.w.n := by rw [← e1, ← e2, q1]
    have h2 := hp'.2.2.1
    rw [m1, ← q1] at h2
    refine ⟨⟨m1, by omega, by omega⟩, fun w' h => qsame_below _ _ (by omega) (hp.2.2.1.step (bl_step HB.out h)) (h2.step (bl_step HB.out h)), hp.2.2.2.step OpD.keeps HB.out, hp'.2.2.2.step OpD.keeps HB.out, fun j x y hj hj' w' h => ?_⟩
    obtain ⟨⟨g3, o3, hq⟩, hmem2⟩ := row_mem (f := OpD.p) hp.2.2.2 hj
    obtain ⟨⟨g4, o4, hq'⟩, _⟩ := row_mem (f := OpD.p) hp'.2.2.2 hj'
    have hl4 : x.es.length ≤ 500 := hm.ae _ hmem _ hmem2
    have e5 := hq.2.2.2.2.2.1
    exact sameOp_any c x y w' (hq.2.2.2.2.2.step PushD.keeps (bl_step HB.out h)) (hq'.2.2.2.2.2.step PushD.keeps (bl_step HB.out h)) (EqL.at q2 hj hj') (by omega)
  have CALLheads := hid CALLheads
  have CALLstates := hid CALLstates
  have CALLacts := hid CALLacts
  have CALLtabs := hid CALLtabs
  have CALLnodes := hid CALLnodes
  have HX := hid (hx.step HB.out)
  have HY := hid (hy.step HB.out)
  have HNN : Hid (d'.heads.n = d.heads.n ∧ d'.states.n = d.states.n ∧ d'.acts.n = d.acts.n ∧ d'.tabs.n = d.tabs.n ∧ d'.nodes.n = d.nodes.n) := ⟨n0, n2, n3, n4, n5⟩
  rw [n0, n1, n2, n3, n4, n5, n6] at yc
  unfold PlanD.box at EW
  unfold PlanD.v
  rw [n0, n1, n2, n3, n4, n5, n6] at EW ⊢
  obtain ⟨a0, ea⟩ : ∃ a, d.heads.a = a := ⟨_, rfl⟩
  rw [ea] at zc EW ⊢
  have EA0 := hid ea
  clear ea
  obtain ⟨b0', eb⟩ : ∃ a, d'.heads.a = a := ⟨_, rfl⟩
  rw [eb] at yc EW ⊢
  have EB0 := hid eb
  clear eb
  obtain ⟨a2, ea⟩ : ∃ a, d.states.a = a := ⟨_, rfl⟩
  rw [ea] at zc EW ⊢
  have EA2 := hid ea
  clear ea
  obtain ⟨b2', eb⟩ : ∃ a, d'.states.a = a := ⟨_, rfl⟩
  rw [eb] at yc EW ⊢
  have EB2 := hid eb
  clear eb
  obtain ⟨a3, ea⟩ : ∃ a, d.acts.a = a := ⟨_, rfl⟩
  rw [ea] at zc EW ⊢
  have EA3 := hid ea
  clear ea
  obtain ⟨b3', eb⟩ : ∃ a, d'.acts.a = a := ⟨_, rfl⟩
  rw [eb] at yc EW ⊢
  have EB3 := hid eb
  clear eb
  obtain ⟨a4, ea⟩ : ∃ a, d.tabs.a = a := ⟨_, rfl⟩
  rw [ea] at zc EW ⊢
  have EA4 := hid ea
  clear ea
  obtain ⟨b4', eb⟩ : ∃ a, d'.tabs.a = a := ⟨_, rfl⟩
  rw [eb] at yc EW ⊢
  have EB4 := hid eb
  clear eb
  obtain ⟨a5, ea⟩ : ∃ a, d.nodes.a = a := ⟨_, rfl⟩
  rw [ea] at zc EW ⊢
  have EA5 := hid ea
  clear ea
  obtain ⟨b5', eb⟩ : ∃ a, d'.nodes.a = a := ⟨_, rfl⟩
  rw [eb] at yc EW ⊢
  have EB5 := hid eb
  clear eb
  have ZC := hid zc
  have YC := hid yc
  obtain ⟨z0, z1, z2, z3, z4, z5, z6⟩ := zc
  obtain ⟨y0, y1, y2, y3, y4, y5, y6⟩ := yc
  clear hx hy he hm hW h0 h1 n0 n1 n2 n3 n4 n5 n6
  have i0 : ((d.heads.n : Int) != (d.heads.n : Int)) = false := by simp
  have i2 : ((d.states.n : Int) != (d.states.n : Int)) = false := by simp
  have i3 : ((d.acts.n : Int) != (d.acts.n : Int)) = false := by simp
  have i4 : ((d.tabs.n : Int) != (d.tabs.n : Int)) = false := by simp
  have i5 : ((d.nodes.n : Int) != (d.nodes.n : Int)) = false := by simp
  go_enter Tryz.func12, Tryz.ntmps12
  go_wp2_with fail
  rw [← EW.out, ← E1.out, ← E0.out]
  clear EW E0 E1
  refine (HSM.out _ (Below.refl _ _)).mono ?_
  rintro e w1 ⟨rfl, hb1⟩
  have BW1 := hid hb1
  have z0 := cell_keep z0 hb1
  have y0 := cell_keep y0 hb1
  have z1 := cell_keep z1 hb1
  have y1 := cell_keep y1 hb1
  have z2 := cell_keep z2 hb1
  have y2 := cell_keep y2 hb1
  have z3 := cell_keep z3 hb1
  have y3 := cell_keep y3 hb1
  have z4 := cell_keep z4 hb1
  have y4 := cell_keep y4 hb1
  have z5 := cell_keep z5 hb1
  have y5 := cell_keep y5 hb1
  have z6 := cell_keep z6 hb1
  have y6 := cell_keep y6 hb1
  clear hb1 HSM
  go_wp2_with fail
  refine (HSO.out _ BW1.out).mono ?_
  rintro e w2 ⟨rfl, hb2⟩
  have BW2 := hid (bl_step BW1.out hb2)
  clear hb2 HSO z0 z1 z2 z3 z4 z5 z6 y0 y1 y2 y3 y4 y5 y6 BW1 i0 i2 i3 i4 i5
  go_wp2
  go_loopw [7] (fun q wr => ∃ k : Nat, k ≤ d.heads.n ∧ q = .int .i64 k ∧ Hid (Below W2.heap.size W2 wr)) (fun q _ => d.heads.n - (intOf q).toNat)
  case atStart => exact ⟨0, Nat.zero_le _, rfl, BW2⟩
  case round =>
    obtain ⟨k, hk, rfl, hb0⟩ := hrel
    have z0 := cell_keep ZC.out.1 hb0.out
    have y0 := cell_keep YC.out.1 hb0.out
    by_cases hlt : k < d.heads.n
    · have hki : (k : Int) < (d.heads.n : Int) := by omega
      obtain ⟨g1, o1, u, e1, hu, hpu⟩ := row_at (HX.out.hs.step HeadD.keeps hb0.out) hlt
      obtain ⟨g2, o2, v, e2, hv, hpv⟩ := row_at (HY.out.hs.step HeadD.keeps hb0.out) (show k < d'.heads.n by rw [HNN.out.1]; exact hlt)
      obtain rfl : a0 = some ⟨g1, o1, none⟩ := by rw [← EA0.out]; exact e1
      obtain rfl : b0' = some ⟨g2, o2, none⟩ := by rw [← EB0.out]; exact e2
      have HCALL := hid (fun p : BelowBy wr => CALLheads k u v hu hv p.to (bl_step hb0.out p.h))
      have u0 := Eq.mp (by rw [Nat.mul_one]) hpu.1.1
      have v0 := Eq.mp (by rw [Nat.mul_one]) hpv.1.1
      have u0' := cell_by u0
      have v0' := cell_by v0
      have z' := cell_by z0
      have y' := cell_by y0
      clear e1 e2 hu hv hpu hpv
      go_wp2_with fail
      haveI inhB : ∀ w : World, Inhabited (BelowBy w) := fun w => ⟨⟨w, Below.refl _ _⟩⟩
      refine wp_region_quiet_below (by kernel_rfl) (by kernel_rfl) ?_
      repeat (go_big_quiet_step (first | (go_at_call 35; exact calls_below _ (HCALL.out _))))
      refine wpQuiet_nil ?_
      intro wq hw'
      obtain ⟨⟨_, hwq⟩, hw''⟩ := hw'
      subst hw''
      have HE := hid (bl_step hb0.out hwq)
      clear hwq hb0 HCALL z' y' u0' v0'
      go_wp2
      go_roundw
      case rel => exact ⟨k + 1, by omega, by go_num, HE⟩
      case measure => simp [intOf]; omega
    · have hki : ¬ (k : Int) < (d.heads.n : Int) := by omega
      go_wp2
      go_loopw [8] (fun q wr => ∃ k : Nat, k ≤ d.states.n ∧ q = .int .i64 k ∧ Hid (Below W2.heap.size W2 wr)) (fun q _ => d.states.n - (intOf q).toNat)
      case atStart => exact ⟨0, Nat.zero_le _, rfl, hb0⟩
      case round =>
        obtain ⟨k, hk, rfl, hb2⟩ := hrel
        have z2 := cell_keep ZC.out.2.2.1 hb2.out
        have y2 := cell_keep YC.out.2.2.1 hb2.out
        by_cases hlt : k < d.states.n
        · have hki : (k : Int) < (d.states.n : Int) := by omega
          obtain ⟨g1, o1, u, e1, hu, hpu⟩ := row_at (HX.out.ss.step StateD.keeps hb2.out) hlt
          obtain ⟨g2, o2, v, e2, hv, hpv⟩ := row_at (HY.out.ss.step StateD.keeps hb2.out) (show k < d'.states.n by rw [HNN.out.2.1]; exact hlt)
          obtain rfl : a2 = some ⟨g1, o1, none⟩ := by rw [← EA2.out]; exact e1
          obtain rfl : b2' = some ⟨g2, o2, none⟩ := by rw [← EB2.out]; exact e2
          have HCALL := hid (fun p : BelowBy wr => CALLstates k u v hu hv p.to (bl_step hb2.out p.h))
          obtain ⟨⟨u0, _⟩, ⟨u1, _⟩, ⟨u2, _⟩, ⟨u3, _⟩, ⟨u4, _⟩, _⟩ := hpu
          obtain ⟨⟨v0, _⟩, ⟨v1, _⟩, ⟨v2, _⟩, ⟨v3, _⟩, ⟨v4, _⟩, _⟩ := hpv
          have u0' := cell_by u0
          have v0' := cell_by v0
          have u1' := cell_by u1
          have v1' := cell_by v1
          have u2' := cell_by u2
          have v2' := cell_by v2
          have u3' := cell_by u3
          have v3' := cell_by v3
          have u4' := cell_by u4
          have v4' := cell_by v4
          have z' := cell_by z2
          have y' := cell_by y2
          clear e1 e2 hu hv
          go_wp2_with fail
          haveI inhB : ∀ w : World, Inhabited (BelowBy w) := fun w => ⟨⟨w, Below.refl _ _⟩⟩
          refine wp_region_quiet_below (by kernel_rfl) (by kernel_rfl) ?_
          repeat (go_big_quiet_step (first | (go_at_call 36; exact calls_below _ (HCALL.out _))))
          refine wpQuiet_nil ?_
          intro wq hw'
          obtain ⟨⟨_, hwq⟩, hw''⟩ := hw'
          subst hw''
          have HE := hid (bl_step hb2.out hwq)
          clear hwq hb2 HCALL z' y' u0' v0' u1' v1' u2' v2' u3' v3' u4' v4'
          go_wp2
          go_roundw
          case rel => exact ⟨k + 1, by omega, by go_num, HE⟩
          case measure => simp [intOf]; omega
        · have hki : ¬ (k : Int) < (d.states.n : Int) := by omega
          go_wp2
          go_loopw [9, 10, 11, 12] (fun q _ _ _ wr => ∃ k : Nat, k ≤ d.acts.n ∧ q = .int .i64 k ∧ Hid (Below W2.heap.size W2 wr)) (fun q _ _ _ _ => d.acts.n - (intOf q).toNat)
          case atStart => exact ⟨0, Nat.zero_le _, rfl, hb2⟩
          case round =>
            obtain ⟨k, hk, rfl, hb3⟩ := hrel
            have z3 := cell_keep ZC.out.2.2.2.1 hb3.out
            have y3 := cell_keep YC.out.2.2.2.1 hb3.out
            by_cases hlt : k < d.acts.n
            · have hki : (k : Int) < (d.acts.n : Int) := by omega
              obtain ⟨g1, o1, u, e1, hu, ⟨u0, _⟩, ⟨u1, _⟩, _⟩ := row_at (HX.out.al.step ActD.keeps hb3.out) hlt
              obtain ⟨g2, o2, v, e2, hv, ⟨v0, _⟩, ⟨v1, _⟩, _⟩ := row_at (HY.out.al.step ActD.keeps hb3.out) (show k < d'.acts.n by rw [HNN.out.2.2.1]; exact hlt)
              obtain rfl : a3 = some ⟨g1, o1, none⟩ := by rw [← EA3.out]; exact e1
              obtain rfl : b3' = some ⟨g2, o2, none⟩ := by rw [← EB3.out]; exact e2
              obtain ⟨⟨m1, m2, m3⟩, hsi, hrx, hry, hop⟩ := CALLacts.out k u v hu hv
              rw [m1] at v0
              rw [m2] at v1
              have M2 := hid m2
              have HSI := hid hsi
              have HRX := hid hrx
              have HRY := hid hry
              have HOP := hid hop
              have i1 : ((u.ops.n : Int) != (u.ops.n : Int)) = false := by simp
              obtain ⟨ua, eua⟩ : ∃ a, u.ops.a = a := ⟨_, rfl⟩
              obtain ⟨va, eva⟩ : ∃ a, v.ops.a = a := ⟨_, rfl⟩
              rw [eua] at u1
              rw [eva] at v1
              have EUA := hid eua
              have EVA := hid eva
              clear e1 e2 hu hv m1 m2 hsi hrx hry hop eua eva
              go_wp2_with fail
              go_region_held3 (fun w' => w'.cell? ⟨b0, 3, none⟩ = some (.slice (some ⟨g1, o1, none⟩) d.acts.n d.acts.c) ∧ w'.cell? ⟨b1, 3, none⟩ = some (.slice (some ⟨g2, o2, none⟩) d.acts.n d'.acts.c) ∧ w'.cell? ⟨g1, o1 + k * 2, none⟩ = some (.slice u.w.a u.w.n u.w.c) ∧ w'.cell? ⟨g1, o1 + k * 2 + 1, none⟩ = some (.slice ua u.ops.n u.ops.c) ∧ w'.cell? ⟨g2, o2 + k * 2, none⟩ = some (.slice v.w.a u.w.n v.w.c) ∧ w'.cell? ⟨g2, o2 + k * 2 + 1, none⟩ = some (.slice va u.ops.n v.ops.c)) (go_keep) (fail)
              · obtain ⟨W4, hW4⟩ : ∃ W4, W4 = ((wr.alloc (.cells #[.slice u.w.a u.w.n u.w.c, .slice ua u.ops.n u.ops.c] 56)).alloc (.cells #[.slice v.w.a u.w.n v.w.c, .slice va u.ops.n v.ops.c] 56)).drew := ⟨_, rfl⟩
                obtain ⟨p0, hp0⟩ : ∃ p, p = wr.heap.size := ⟨_, rfl⟩
                obtain ⟨p1, hp1⟩ : ∃ p, p = wr.heap.size + 1 := ⟨_, rfl⟩
                have x0 : W4.cell? ⟨p0, 0, none⟩ = some (.slice u.w.a u.w.n u.w.c) := by rw [hW4, hp0]; exact (World.cell?_alloc_past _ _ _ (by simp)).trans ((World.cell?_alloc_at _ _ _ _ rfl).trans rfl)
                have x1 : W4.cell? ⟨p0, 1, none⟩ = some (.slice ua u.ops.n u.ops.c) := by rw [hW4, hp0]; exact (World.cell?_alloc_past _ _ _ (by simp)).trans ((World.cell?_alloc_at _ _ _ _ rfl).trans rfl)
                have y0 : W4.cell? ⟨p1, 0, none⟩ = some (.slice v.w.a u.w.n v.w.c) := by rw [hW4, hp1]; exact (World.cell?_alloc_at _ _ _ _ (by simp)).trans rfl
                have y1 : W4.cell? ⟨p1, 1, none⟩ = some (.slice va u.ops.n v.ops.c) := by rw [hW4, hp1]; exact (World.cell?_alloc_at _ _ _ _ (by simp)).trans rfl
                have B4 : Hid (Below W2.heap.size W2 W4) := by rw [hW4]; exact (bl_alloc (bl_alloc hb3.out)).drew
                rw [← hW4, ← hp1, ← hp0]
                clear hW4 hp0 hp1 u0 u1 v0 v1 z3 y3 hb3
                go_wp2_with fail
                refine (HSI.out _ B4.out).mono ?_
                rintro e w5 ⟨rfl, hb5⟩
                have x1 := cell_keep x1 hb5
                have y1 := cell_keep y1 hb5
                have B5 := hid (bl_step B4.out hb5)
                clear hb5 B4 HSI x0 y0
                go_wp2
                go_loopw [12] (fun q wi => ∃ j : Nat, j ≤ u.ops.n ∧ q = .int .i64 j ∧ Hid (Below w5.heap.size w5 wi)) (fun q _ => u.ops.n - (intOf q).toNat)
                case atStart => exact ⟨0, Nat.zero_le _, rfl, Below.refl _ _⟩
                case round =>
                  obtain ⟨j, hj, rfl, hb6⟩ := hrel
                  have x1 := cell_keep x1 hb6.out
                  have y1 := cell_keep y1 hb6.out
                  have B6 := hid (bl_step B5.out hb6.out)
                  by_cases hlj : j < u.ops.n
                  · have hji : (j : Int) < (u.ops.n : Int) := by omega
                    obtain ⟨g3, o3, s, e3, hs, ⟨s0, _⟩, ⟨s1, _⟩, ⟨s2, _⟩, ⟨s3, _⟩, ⟨s4, _⟩, _⟩ := row_at (HRX.out.step OpD.keeps B6.out) hlj
                    obtain ⟨g4, o4, t, e4, ht, ⟨t0, _⟩, ⟨t1, _⟩, ⟨t2, _⟩, ⟨t3, _⟩, ⟨t4, _⟩, _⟩ := row_at (HRY.out.step OpD.keeps B6.out) (show j < v.ops.n by rw [M2.out]; exact hlj)
                    obtain rfl : ua = some ⟨g3, o3, none⟩ := by rw [← EUA.out]; exact e3
                    obtain rfl : va = some ⟨g4, o4, none⟩ := by rw [← EVA.out]; exact e4
                    have HCALL := hid (fun p : BelowBy wr => HOP.out j s t hs ht p.to (bl_step B6.out p.h))
                    have x' := cell_by x1
                    have y' := cell_by y1
                    have s0' := cell_by s0
                    have s1' := cell_by s1
                    have s2' := cell_by s2
                    have s3' := cell_by s3
                    have s4' := cell_by s4
                    have t0' := cell_by t0
                    have t1' := cell_by t1
                    have t2' := cell_by t2
                    have t3' := cell_by t3
                    have t4' := cell_by t4
                    clear e3 e4 hs ht
                    go_wp2_with fail
                    haveI inhB : ∀ w : World, Inhabited (BelowBy w) := fun w => ⟨⟨w, Below.refl _ _⟩⟩
                    refine wp_region_quiet_below (by kernel_rfl) (by kernel_rfl) ?_
                    repeat (go_big_quiet_step (first | (go_at_call 37; exact calls_below _ (HCALL.out _))))
                    refine wpQuiet_nil ?_
                    intro wq hw'
                    obtain ⟨⟨_, hwq⟩, hw''⟩ := hw'
                    subst hw''
                    have HE := hid (bl_step hb6.out hwq)
                    clear hwq hb6 B6 HCALL x' y' s0' s1' s2' s3' s4' t0' t1' t2' t3' t4'
                    go_wp2
                    go_roundw
                    case rel => exact ⟨j + 1, by omega, by go_num, HE⟩
                    case measure => simp [intOf]; omega
                  · have hji : ¬ (j : Int) < (u.ops.n : Int) := by omega
                    clear hb6
                    go_wp2
                    go_roundw
                    case rel => exact ⟨k + 1, by omega, by go_num, B6⟩
                    case measure => simp [intOf]; omega
              · obtain ⟨W4, hW4⟩ : ∃ W4, W4 = ((wr.alloc (.cells #[.slice v.w.a u.w.n v.w.c, .slice va u.ops.n v.ops.c] 56)).alloc (.cells #[.slice u.w.a u.w.n u.w.c, .slice ua u.ops.n u.ops.c] 56)).drew := ⟨_, rfl⟩
                obtain ⟨p0, hp0⟩ : ∃ p, p = wr.heap.size := ⟨_, rfl⟩
                obtain ⟨p1, hp1⟩ : ∃ p, p = wr.heap.size + 1 := ⟨_, rfl⟩
                have x0 : W4.cell? ⟨p1, 0, none⟩ = some (.slice u.w.a u.w.n u.w.c) := by rw [hW4, hp1]; exact (World.cell?_alloc_at _ _ _ _ (by simp)).trans rfl
                have x1 : W4.cell? ⟨p1, 1, none⟩ = some (.slice ua u.ops.n u.ops.c) := by rw [hW4, hp1]; exact (World.cell?_alloc_at _ _ _ _ (by simp)).trans rfl
                have y0 : W4.cell? ⟨p0, 0, none⟩ = some (.slice v.w.a u.w.n v.w.c) := by rw [hW4, hp0]; exact (World.cell?_alloc_past _ _ _ (by simp)).trans ((World.cell?_alloc_at _ _ _ _ rfl).trans rfl)
                have y1 : W4.cell? ⟨p0, 1, none⟩ = some (.slice va u.ops.n v.ops.c) := by rw [hW4, hp0]; exact (World.cell?_alloc_past _ _ _ (by simp)).trans ((World.cell?_alloc_at _ _ _ _ rfl).trans rfl)
                have B4 : Hid (Below W2.heap.size W2 W4) := by rw [hW4]; exact (bl_alloc (bl_alloc hb3.out)).drew
                rw [← hW4, ← hp1, ← hp0]
                clear hW4 hp0 hp1 u0 u1 v0 v1 z3 y3 hb3
                go_wp2_with fail
                refine (HSI.out _ B4.out).mono ?_
                rintro e w5 ⟨rfl, hb5⟩
                have x1 := cell_keep x1 hb5
                have y1 := cell_keep y1 hb5
                have B5 := hid (bl_step B4.out hb5)
                clear hb5 B4 HSI x0 y0
                go_wp2
                go_loopw [12] (fun q wi => ∃ j : Nat, j ≤ u.ops.n ∧ q = .int .i64 j ∧ Hid (Below w5.heap.size w5 wi)) (fun q _ => u.ops.n - (intOf q).toNat)
                case atStart => exact ⟨0, Nat.zero_le _, rfl, Below.refl _ _⟩
                case round =>
                  obtain ⟨j, hj, rfl, hb6⟩ := hrel
                  have x1 := cell_keep x1 hb6.out
                  have y1 := cell_keep y1 hb6.out
                  have B6 := hid (bl_step B5.out hb6.out)
                  by_cases hlj : j < u.ops.n
                  · have hji : (j : Int) < (u.ops.n : Int) := by omega
                    obtain ⟨g3, o3, s, e3, hs, ⟨s0, _⟩, ⟨s1, _⟩, ⟨s2, _⟩, ⟨s3, _⟩, ⟨s4, _⟩, _⟩ := row_at (HRX.out.step OpD.keeps B6.out) hlj
                    obtain ⟨g4, o4, t, e4, ht, ⟨t0, _⟩, ⟨t1, _⟩, ⟨t2, _⟩, ⟨t3, _⟩, ⟨t4, _⟩, _⟩ := row_at (HRY.out.step OpD.keeps B6.out) (show j < v.ops.n by rw [M2.out]; exact hlj)
                    obtain rfl : ua = some ⟨g3, o3, none⟩ := by rw [← EUA.out]; exact e3
                    obtain rfl : va = some ⟨g4, o4, none⟩ := by rw [← EVA.out]; exact e4
                    have HCALL := hid (fun p : BelowBy wr => HOP.out j s t hs ht p.to (bl_step B6.out p.h))
                    have x' := cell_by x1
                    have y' := cell_by y1
                    have s0' := cell_by s0
                    have s1' := cell_by s1
                    have s2' := cell_by s2
                    have s3' := cell_by s3
                    have s4' := cell_by s4
                    have t0' := cell_by t0
                    have t1' := cell_by t1
                    have t2' := cell_by t2
                    have t3' := cell_by t3
                    have t4' := cell_by t4
                    clear e3 e4 hs ht
                    go_wp2_with fail
                    haveI inhB : ∀ w : World, Inhabited (BelowBy w) := fun w => ⟨⟨w, Below.refl _ _⟩⟩
                    refine wp_region_quiet_below (by kernel_rfl) (by kernel_rfl) ?_
                    repeat (go_big_quiet_step (first | (go_at_call 37; exact calls_below _ (HCALL.out _))))
                    refine wpQuiet_nil ?_
                    intro wq hw'
                    obtain ⟨⟨_, hwq⟩, hw''⟩ := hw'
                    subst hw''
                    have HE := hid (bl_step hb6.out hwq)
                    clear hwq hb6 B6 HCALL x' y' s0' s1' s2' s3' s4' t0' t1' t2' t3' t4'
                    go_wp2
                    go_roundw
                    case rel => exact ⟨j + 1, by omega, by go_num, HE⟩
                    case measure => simp [intOf]; omega
                  · have hji : ¬ (j : Int) < (u.ops.n : Int) := by omega
                    clear hb6
                    go_wp2
                    go_roundw
                    case rel => exact ⟨k + 1, by omega, by go_num, B6⟩
                    case measure => simp [intOf]; omega
            · have hki : ¬ (k : Int) < (d.acts.n : Int) := by omega
              go_wp2
              go_loopw [13] (fun q wr => ∃ k : Nat, k ≤ d.tabs.n ∧ q = .int .i64 k ∧ Hid (Below W2.heap.size W2 wr)) (fun q _ => d.tabs.n - (intOf q).toNat)
              case atStart => exact ⟨0, Nat.zero_le _, rfl, hb3⟩
              case round =>
                obtain ⟨k, hk, rfl, hb4⟩ := hrel
                have z4 := cell_keep ZC.out.2.2.2.2.1 hb4.out
                have y4 := cell_keep YC.out.2.2.2.2.1 hb4.out
                by_cases hlt : k < d.tabs.n
                · have hki : (k : Int) < (d.tabs.n : Int) := by omega
                  obtain ⟨g1, o1, u, e1, hu, hpu⟩ := row_at (HX.out.ts.step TabD.keeps hb4.out) hlt
                  obtain ⟨g2, o2, v, e2, hv, hpv⟩ := row_at (HY.out.ts.step TabD.keeps hb4.out) (show k < d'.tabs.n by rw [HNN.out.2.2.2.1]; exact hlt)
                  obtain rfl : a4 = some ⟨g1, o1, none⟩ := by rw [← EA4.out]; exact e1
                  obtain rfl : b4' = some ⟨g2, o2, none⟩ := by rw [← EB4.out]; exact e2
                  have HCALL := hid (fun p : BelowBy wr => CALLtabs k u v hu hv p.to (bl_step hb4.out p.h))
                  obtain ⟨⟨u0, _⟩, ⟨u1, _⟩, ⟨u2, _⟩, ⟨u3, _⟩, ⟨u4, _⟩, ⟨u5, _⟩, _⟩ := hpu
                  obtain ⟨⟨v0, _⟩, ⟨v1, _⟩, ⟨v2, _⟩, ⟨v3, _⟩, ⟨v4, _⟩, ⟨v5, _⟩, _⟩ := hpv
                  have u0' := cell_by u0
                  have v0' := cell_by v0
                  have u1' := cell_by u1
                  have v1' := cell_by v1
                  have u2' := cell_by u2
                  have v2' := cell_by v2
                  have u3' := cell_by u3
                  have v3' := cell_by v3
                  have u4' := cell_by u4
                  have v4' := cell_by v4
                  have u5' := cell_by u5
                  have v5' := cell_by v5
                  have z' := cell_by z4
                  have y' := cell_by y4
                  clear e1 e2 hu hv
                  go_wp2_with fail
                  haveI inhB : ∀ w : World, Inhabited (BelowBy w) := fun w => ⟨⟨w, Below.refl _ _⟩⟩
                  refine wp_region_quiet_below (by kernel_rfl) (by kernel_rfl) ?_
                  repeat (go_big_quiet_step (first | (go_at_call 38; exact calls_below _ (HCALL.out _))))
                  refine wpQuiet_nil ?_
                  intro wq hw'
                  obtain ⟨⟨_, hwq⟩, hw''⟩ := hw'
                  subst hw''
                  have HE := hid (bl_step hb4.out hwq)
                  clear hwq hb4 HCALL z' y' u0' v0' u1' v1' u2' v2' u3' v3' u4' v4' u5' v5'
                  go_wp2
                  go_roundw
                  case rel => exact ⟨k + 1, by omega, by go_num, HE⟩
                  case measure => simp [intOf]; omega
                · have hki : ¬ (k : Int) < (d.tabs.n : Int) := by omega
                  go_wp2
                  go_loopw [14] (fun q wr => ∃ k : Nat, k ≤ d.nodes.n ∧ q = .int .i64 k ∧ Hid (Below W2.heap.size W2 wr)) (fun q _ => d.nodes.n - (intOf q).toNat)
                  case atStart => exact ⟨0, Nat.zero_le _, rfl, hb4⟩
                  case round =>
                    obtain ⟨k, hk, rfl, hb5⟩ := hrel
                    have z5 := cell_keep ZC.out.2.2.2.2.2.1 hb5.out
                    have y5 := cell_keep YC.out.2.2.2.2.2.1 hb5.out
                    by_cases hlt : k < d.nodes.n
                    · have hki : (k : Int) < (d.nodes.n : Int) := by omega
                      obtain ⟨g1, o1, u, e1, hu, hpu⟩ := row_at (HX.out.ns.step NodeD.keeps hb5.out) hlt
                      obtain ⟨g2, o2, v, e2, hv, hpv⟩ := row_at (HY.out.ns.step NodeD.keeps hb5.out) (show k < d'.nodes.n by rw [HNN.out.2.2.2.2]; exact hlt)
                      obtain rfl : a5 = some ⟨g1, o1, none⟩ := by rw [← EA5.out]; exact e1
                      obtain rfl : b5' = some ⟨g2, o2, none⟩ := by rw [← EB5.out]; exact e2
                      have HCALL := hid (fun p : BelowBy wr => CALLnodes k u v hu hv p.to (bl_step hb5.out p.h))
                      obtain ⟨⟨u0, _⟩, ⟨u1, _⟩, ⟨u2, _⟩, ⟨u3, _⟩, ⟨u4, _⟩, _⟩ := hpu
                      obtain ⟨⟨v0, _⟩, ⟨v1, _⟩, ⟨v2, _⟩, ⟨v3, _⟩, ⟨v4, _⟩, _⟩ := hpv
                      have u0' := cell_by u0
                      have v0' := cell_by v0
                      have u1' := cell_by u1
                      have v1' := cell_by v1
                      have u2' := cell_by u2
                      have v2' := cell_by v2
                      have u3' := cell_by u3
                      have v3' := cell_by v3
                      have u4' := cell_by u4
                      have v4' := cell_by v4
                      have z' := cell_by z5
                      have y' := cell_by y5
                      clear e1 e2 hu hv
                      go_wp2_with fail
                      haveI inhB : ∀ w : World, Inhabited (BelowBy w) := fun w => ⟨⟨w, Below.refl _ _⟩⟩
                      refine wp_region_quiet_below (by kernel_rfl) (by kernel_rfl) ?_
                      repeat (go_big_quiet_step (first | (go_at_call 39; exact calls_below _ (HCALL.out _))))
                      refine wpQuiet_nil ?_
                      intro wq hw'
                      obtain ⟨⟨_, hwq⟩, hw''⟩ := hw'
                      subst hw''
                      have HE := hid (bl_step hb5.out hwq)
                      clear hwq hb5 HCALL z' y' u0' v0' u1' v1' u2' v2' u3' v3' u4' v4'
                      go_wp2
                      go_roundw
                      case rel => exact ⟨k + 1, by omega, by go_num, HE⟩
                      case measure => simp [intOf]; omega
                    · have hki : ¬ (k : Int) < (d.nodes.n : Int) := by omega
                      go_wp2
                      have HE := hid (bl_step HB.out hb5.out)
                      go_ret
                      exact ⟨rfl, HE.out⟩
end Go.Proofs.YtedeiaokohdhpaaGreat
