/- plan.Own: actions, and the whole plan. -/
import Derived.Test.YtlnkfgdepddmladGreatVQEach
import Derived.Test.YtlnkfgdepddmladGreatVQGreat
import Derived.Deep.RegionHeld3
namespace Go.Proofs.YtlnkfgdepddmladGreat
open Go.RowKit

set_option maxHeartbeats 4000000 in
set_option maxRecDepth 20000 in
theorem ownAction_any (x : ActD) (w : World) (hi : kAct.inn x w) (hn : x.w.n ≤ 100000 ∧ x.ops.n ≤ 100000 ∧ ∀ o ∈ x.os, o.e.n ≤ 100000) : Calls Tryz.prog 74 #[.agg #[.slice x.w.a x.w.n x.w.c, .slice x.ops.a x.ops.n x.ops.c]] w (OwnDone kAct ActD.p x w) := by
  have HC0 : Hid (∀ w', Below w.heap.size w w' → Calls Tryz.prog 70 #[.slice x.w.a x.w.n x.w.c] w' (RowDone kInt id x.ws x.w.n w')) := fun w' hb => (copied_int x.w x.ws w' (hi.2.1.step hb) hi.1.1 hn.1).mono fun _ _ h => h.rows hi.2.1.2.1
  have HC1 : Hid (∀ w', Below w.heap.size w w' → Calls Tryz.prog 128 #[.slice x.ops.a x.ops.n x.ops.c, .func (.func 129) #[] #[]] w' (RowDone kOp OpD.p x.os x.ops.n w')) := fun w' hb => each_op x.ops x.os w' (hi.2.2.step OpD.keeps hb) hi.1.2 hn.2.1 hn.2.2
  have HI := hid hi
  clear hi
  go_enter Tryz.func74, Tryz.ntmps74
  go_wp2_with fail
  refine (HC0.out _ (bl_alloc (bl_alloc (Below.refl _ _)))).mono ?_
  rintro e w1 ⟨a0, c0, L0, rfl, hr, hn0, he, hb⟩
  have p0_1 : w1.cell? ⟨w.heap.size, 0, none⟩ = some (.slice x.w.a x.w.n x.w.c) := (hb.cell (p := ⟨w.heap.size, 0, none⟩) (sz0 _ _ _)).trans (by simp)
  have q0_1 : w1.cell? ⟨w.heap.size + 1, 0, none⟩ = some (.slice none 0 0) := (hb.cell (p := ⟨w.heap.size + 1, 0, none⟩) (sz1 _ _ _)).trans (by simp)
  have r0_1 : w1.frozen? ⟨w.heap.size, 0, none⟩ = false := (hb.frozen (p := ⟨w.heap.size, 0, none⟩) (sz0 _ _ _)).trans (by simp)
  have s0_1 : w1.frozen? ⟨w.heap.size + 1, 0, none⟩ = false := (hb.frozen (p := ⟨w.heap.size + 1, 0, none⟩) (sz1 _ _ _)).trans (by simp)
  have p1_1 : w1.cell? ⟨w.heap.size, 1, none⟩ = some (.slice x.ops.a x.ops.n x.ops.c) := (hb.cell (p := ⟨w.heap.size, 1, none⟩) (sz0 _ _ _)).trans (by simp)
  have q1_1 : w1.cell? ⟨w.heap.size + 1, 1, none⟩ = some (.slice none 0 0) := (hb.cell (p := ⟨w.heap.size + 1, 1, none⟩) (sz1 _ _ _)).trans (by simp)
  have r1_1 : w1.frozen? ⟨w.heap.size, 1, none⟩ = false := (hb.frozen (p := ⟨w.heap.size, 1, none⟩) (sz0 _ _ _)).trans (by simp)
  have s1_1 : w1.frozen? ⟨w.heap.size + 1, 1, none⟩ = false := (hb.frozen (p := ⟨w.heap.size + 1, 1, none⟩) (sz1 _ _ _)).trans (by simp)
  have HZ : Hid (w.heap.size + 2 ≤ w1.heap.size) := by have := hb.size; first | exact Nat.le_trans (sz1 _ _ _) this | (rw [World.size_setCell] at this; exact Nat.le_trans HZp.out this)
  have hz : w.heap.size + 1 < w1.heap.size := HZ.out
  have HR0 := hid (hr.cov (Kd.covs kInt) (two_new (w := w) (sz1 _ _ _)))
  have HN0 := hid hn0
  have HE0 := hid he
  have HB1 : Hid (Below w.heap.size w (w1.setCell ⟨w.heap.size, 0, none⟩ (.slice a0 x.w.n c0))) := ((bl_alloc (bl_alloc (Below.refl w.heap.size w))).trans (hb.mono (Nat.le_of_lt (sz0 _ _ _)))).setCell (Nat.le_refl _) _
  have HZp := HZ
  clear hr hn0 he hb HC0
  have hzp := hz
  clear hz
  go_wp2_with fail
  refine (HC1.out _ HB1.out).mono ?_
  rintro e w2 ⟨a1, c1, L1, rfl, hr, hn0, he, hb⟩
  have p0_2 : w2.cell? ⟨w.heap.size, 0, none⟩ = some (.slice a0 x.w.n c0) := (hb.cell (p := ⟨w.heap.size, 0, none⟩) (by rw [World.size_setCell]; show w.heap.size < _; omega)).trans ((World.cell?_setCell_same _ _ _ p0_1))
  have q0_2 : w2.cell? ⟨w.heap.size + 1, 0, none⟩ = some (.slice none 0 0) := (hb.cell (p := ⟨w.heap.size + 1, 0, none⟩) (by rw [World.size_setCell]; show w.heap.size + 1 < _; omega)).trans ((World.cell?_setCell_other _ _ _ _ (by simp)).trans q0_1)
  have r0_2 : w2.frozen? ⟨w.heap.size, 0, none⟩ = false := (hb.frozen (p := ⟨w.heap.size, 0, none⟩) (by rw [World.size_setCell]; show w.heap.size < _; omega)).trans ((World.frozen?_setCell _ _ _ _).trans r0_1)
  have s0_2 : w2.frozen? ⟨w.heap.size + 1, 0, none⟩ = false := (hb.frozen (p := ⟨w.heap.size + 1, 0, none⟩) (by rw [World.size_setCell]; show w.heap.size + 1 < _; omega)).trans ((World.frozen?_setCell _ _ _ _).trans s0_1)
  have p1_2 : w2.cell? ⟨w.heap.size, 1, none⟩ = some (.slice x.ops.a x.ops.n x.ops.c) := (hb.cell (p := ⟨w.heap.size, 1, none⟩) (by rw [World.size_setCell]; show w.heap.size < _; omega)).trans (((World.cell?_setCell_other _ _ _ _ (by simp)).trans p1_1))
  have q1_2 : w2.cell? ⟨w.heap.size + 1, 1, none⟩ = some (.slice none 0 0) := (hb.cell (p := ⟨w.heap.size + 1, 1, none⟩) (by rw [World.size_setCell]; show w.heap.size + 1 < _; omega)).trans ((World.cell?_setCell_other _ _ _ _ (by simp)).trans q1_1)
  have r1_2 : w2.frozen? ⟨w.heap.size, 1, none⟩ = false := (hb.frozen (p := ⟨w.heap.size, 1, none⟩) (by rw [World.size_setCell]; show w.heap.size < _; omega)).trans ((World.frozen?_setCell _ _ _ _).trans r1_1)
  have s1_2 : w2.frozen? ⟨w.heap.size + 1, 1, none⟩ = false := (hb.frozen (p := ⟨w.heap.size + 1, 1, none⟩) (by rw [World.size_setCell]; show w.heap.size + 1 < _; omega)).trans ((World.frozen?_setCell _ _ _ _).trans s1_1)
  have HZ : Hid (w.heap.size + 2 ≤ w2.heap.size) := by have := hb.size; first | exact Nat.le_trans (sz1 _ _ _) this | (rw [World.size_setCell] at this; exact Nat.le_trans HZp.out this)
  have hz : w.heap.size + 1 < w2.heap.size := HZ.out
  have HR0 := hid ((HR0.out.step (Kd.keeps kInt) (two_abv ((Abv.refl _ _).put (by simp) _))).step (Kd.keeps kInt) (mask_step hb))
  have HR1 := hid (hr.cov (Kd.covs kOp) (two_new (w := w) (by rw [World.size_setCell]; exact HZp.out)))
  have HN1 := hid hn0
  have HE1 := hid he
  have HB2 : Hid (Below w.heap.size w (w2.setCell ⟨w.heap.size, 1, none⟩ (.slice a1 x.ops.n c1))) := ((HB1.out).trans (hb.mono (by rw [World.size_setCell]; have := HZp.out; omega))).setCell (Nat.le_refl _) _
  have HZp := HZ
  clear hr hn0 he hb HC1 hzp p0_1 q0_1 r0_1 s0_1 p1_1 q1_1 r1_1 s1_1
  go_wp2
  refine bodyPost_ret (v := .agg #[.slice a0 x.w.n c0, .slice a1 x.ops.n c1]) (by simp [results, Tryz.results74, go_sem, *]) rfl ?_
  refine ⟨⟨⟨a0, x.w.n, c0⟩, L0, ⟨a1, x.ops.n, c1⟩, L1⟩, rfl, by simp only [ActD.p, map_id_eq HE0.out, HE1.out], kAct.cov (kAct.step ⟨⟨HN0.out, HN1.out⟩, row_hasI HR0.out, HR1.out⟩ (two_abv ((((Abv.refl _ _).put (by simp) _).put (by simp) _).put (by simp) _))) (two_old _ _), ?_⟩
  exact ((HB2.out).setCell (Nat.le_succ _) _).setCell (Nat.le_succ _) _

set_option maxHeartbeats 4000000 in
set_option maxRecDepth 20000 in
theorem each_act (s : QSl) (S : List ActD) (w : World) (h : QRow 2 ActD.lie w s S) (h0 : s.nil0) (hn : s.n ≤ 100000) (hb : ∀ x ∈ S, x.w.n ≤ 100000 ∧ x.ops.n ≤ 100000 ∧ ∀ o ∈ x.os, o.e.n ≤ 100000) : Calls Tryz.prog 73 #[.slice s.a s.n s.c, .func (.func 74) #[] #[]] w (RowDone kAct ActD.p S s.n w) := by
  have HC := hid (copied_act s S w h h0 hn)
  have HIN := hid (kAct.inns h)
  have HL := hid h.1
  have HB := hid hb
  clear h h0 hb
  go_enter Tryz.func73, Tryz.ntmps73
  go_wp2_with fail
  refine HC.out.mono ?_
  rintro e w1 ⟨a, c, rfl, ho, hb1⟩
  have ST : Hid (EachAt kAct ActD.p 83 S s.n w a c 0 S w1) := EachAt.start ho HL.out hb1
  clear ho hb1 HC
  go_wp2
  go_loopw [12, 6, 7] (fun q _ _ wr => ∃ (i : Nat) (L : List ActD), i ≤ s.n ∧ q = .int .i64 i ∧ Hid (EachAt kAct ActD.p 83 S s.n w a c i L wr)) (fun q _ _ _ => s.n - (intOf q).toNat)
  case atStart => exact ⟨0, S, Nat.zero_le _, rfl, ST⟩
  case round =>
    obtain ⟨i, L, hi, rfl, EA⟩ := hrel
    clear ST
    by_cases hlt : i < s.n
    · have hii : (i : Int) < (s.n : Int) := by omega
      obtain ⟨g, x, rfl, hx, hx', hg, hgw, hcell, hfz⟩ := EA.out.at hlt
      have z0 : wr.cell? ⟨g, i * 2, none⟩ = some (.slice x.w.a x.w.n x.w.c) := hcell 0 _ rfl
      have z1 : wr.cell? ⟨g, i * 2 + 1, none⟩ = some (.slice x.ops.a x.ops.n x.ops.c) := hcell 1 _ rfl
      have HX := hid hx
      have HOW := hid (ownAction_any x (wr.alloc (.cells #[.slice x.w.a x.w.n x.w.c, .slice x.ops.a x.ops.n x.ops.c] 83)) (kAct.step (HIN.out x (List.mem_of_getElem? hx')) (bl_step EA.out.bel (bl_alloc (Below.refl _ _)))) (HB.out x (List.mem_of_getElem? hx')))
      have HG := hid hg
      have HGW := hid hgw
      clear hcell hx hx' hg hgw hfz
      go_wp2_with fail
      refine HOW.out.mono ?_
      rintro e w2 ⟨x', he, hf, hin, hb2⟩
      obtain rfl : e = .returned (.agg #[.slice x'.w.a x'.w.n x'.w.c, .slice x'.ops.a x'.ops.n x'.ops.c]) := he
      have hgw : g < w2.heap.size := by have h1 := hb2.size; rw [World.size_alloc] at h1; have := HGW.out; omega
      have y0 : w2.cell? ⟨g, i * 2, none⟩ = some (.slice x.w.a x.w.n x.w.c) := (hb2.cell (p := ⟨g, i * 2, none⟩) (by have := HGW.out; simp; omega)).trans ((World.cell?_alloc_past _ _ _ (by have := HGW.out; simp; omega)).trans z0)
      have v0 : w2.frozen? ⟨g, i * 2, none⟩ = false := (hb2.frozen (p := ⟨g, i * 2, none⟩) (by have := HGW.out; simp; omega)).trans ((World.frozen?_alloc_past _ _ _ (by have := HGW.out; simp; omega)).trans (EA.out.own.frozenAt _))
      have y1 : w2.cell? ⟨g, i * 2 + 1, none⟩ = some (.slice x.ops.a x.ops.n x.ops.c) := (hb2.cell (p := ⟨g, i * 2 + 1, none⟩) (by have := HGW.out; simp; omega)).trans ((World.cell?_alloc_past _ _ _ (by have := HGW.out; simp; omega)).trans z1)
      have v1 : w2.frozen? ⟨g, i * 2 + 1, none⟩ = false := (hb2.frozen (p := ⟨g, i * 2 + 1, none⟩) (by have := HGW.out; simp; omega)).trans ((World.frozen?_alloc_past _ _ _ (by have := HGW.out; simp; omega)).trans (EA.out.own.frozenAt _))
      have NX : Hid (EachAt kAct ActD.p 83 S s.n w (some ⟨g, 0, none⟩) c (i + 1) (L.set i x') (setsAt w2 g (i * kAct.k) (kAct.cells x'))) := EA.out.next hlt HX.out (bl_alloc (Below.refl _ _)) hb2 hf hin
      clear hf hin hb2 HOW EA z0 z1
      go_wp2
      go_roundw
      case rel => exact ⟨i + 1, _, by omega, by go_num, NX⟩
      case measure => simp [intOf]; omega
    · have hii : ¬ (i : Int) < (s.n : Int) := by omega
      have HE := hid (EA.out.end (by omega))
      clear EA
      go_wp2
      go_ret
      exact HE.out

/-- no list of a plan is beyond what a copy takes -/
structure PlanD.fits (d : PlanD) : Prop where
  hs : d.heads.n ≤ 100000 ∧ ∀ x ∈ d.hs, x.w.n ≤ 100000
  ms : d.mta.n ≤ 100000
  ss : d.states.n ≤ 100000 ∧ ∀ x ∈ d.ss, x.cases.n ≤ 100000
  al : d.acts.n ≤ 100000 ∧ ∀ x ∈ d.al, x.w.n ≤ 100000 ∧ x.ops.n ≤ 100000 ∧ ∀ o ∈ x.os, o.e.n ≤ 100000
  ts : d.tabs.n ≤ 100000 ∧ ∀ x ∈ d.ts, x.keys.n ≤ 100000 ∧ x.acts.n ≤ 100000 ∧ x.args.n ≤ 100000
  ns : d.nodes.n ≤ 100000 ∧ ∀ x ∈ d.ns, x.e.n ≤ 100000
  os : d.out.n ≤ 100000

/-- a plan like d -/
def PlanDone (d : PlanD) (w : World) (e : Ending) (w' : World) : Prop := ∃ d' : PlanD, e = .returned d'.v ∧ d'.lie w' ∧ d'.nil0 ∧ d'.p = d.p ∧ Below w.heap.size w w'

theorem keep7 {w w' : World} {s : Nat} {v0 v1 v2 v3 v4 v5 v6 : Value} (h : w.cell? ⟨s, 0, none⟩ = some v0 ∧ w.cell? ⟨s, 1, none⟩ = some v1 ∧ w.cell? ⟨s, 2, none⟩ = some v2 ∧ w.cell? ⟨s, 3, none⟩ = some v3 ∧ w.cell? ⟨s, 4, none⟩ = some v4 ∧ w.cell? ⟨s, 5, none⟩ = some v5 ∧ w.cell? ⟨s, 6, none⟩ = some v6) (b : Below w.heap.size w w') : w'.cell? ⟨s, 0, none⟩ = some v0 ∧ w'.cell? ⟨s, 1, none⟩ = some v1 ∧ w'.cell? ⟨s, 2, none⟩ = some v2 ∧ w'.cell? ⟨s, 3, none⟩ = some v3 ∧ w'.cell? ⟨s, 4, none⟩ = some v4 ∧ w'.cell? ⟨s, 5, none⟩ = some v5 ∧ w'.cell? ⟨s, 6, none⟩ = some v6 :=
  ⟨cell_keep h.1 b, cell_keep h.2.1 b, cell_keep h.2.2.1 b, cell_keep h.2.2.2.1 b, cell_keep h.2.2.2.2.1 b, cell_keep h.2.2.2.2.2.1 b, cell_keep h.2.2.2.2.2.2 b⟩

theorem own_boxes (d : PlanD) (w : World) : ∃ W2 b0 b1, W2 = (w.alloc d.box).alloc (.cells #[.slice none 0 0, .slice none 0 0, .slice none 0 0, .slice none 0 0, .slice none 0 0, .slice none 0 0, .slice none 0 0] 65) ∧ b0 = w.heap.size ∧ b1 = w.heap.size + 1 ∧ W2.heap.size = w.heap.size + 2 ∧ (W2.cell? ⟨b0, 0, none⟩ = some (.slice d.heads.a d.heads.n d.heads.c) ∧ W2.cell? ⟨b0, 1, none⟩ = some (.slice d.mta.a d.mta.n d.mta.c) ∧ W2.cell? ⟨b0, 2, none⟩ = some (.slice d.states.a d.states.n d.states.c) ∧ W2.cell? ⟨b0, 3, none⟩ = some (.slice d.acts.a d.acts.n d.acts.c) ∧ W2.cell? ⟨b0, 4, none⟩ = some (.slice d.tabs.a d.tabs.n d.tabs.c) ∧ W2.cell? ⟨b0, 5, none⟩ = some (.slice d.nodes.a d.nodes.n d.nodes.c) ∧ W2.cell? ⟨b0, 6, none⟩ = some (.slice d.out.a d.out.n d.out.c)) ∧ (W2.cell? ⟨b1, 0, none⟩ = some (.slice none 0 0) ∧ W2.cell? ⟨b1, 1, none⟩ = some (.slice none 0 0) ∧ W2.cell? ⟨b1, 2, none⟩ = some (.slice none 0 0) ∧ W2.cell? ⟨b1, 3, none⟩ = some (.slice none 0 0) ∧ W2.cell? ⟨b1, 4, none⟩ = some (.slice none 0 0) ∧ W2.cell? ⟨b1, 5, none⟩ = some (.slice none 0 0) ∧ W2.cell? ⟨b1, 6, none⟩ = some (.slice none 0 0)) ∧ ∀ i, W2.frozen? ⟨b1, i, none⟩ = false := by
  refine ⟨_, _, _, rfl, rfl, rfl, by simp, ?_, ?_, ?_⟩
  · refine ⟨?_, ?_, ?_, ?_, ?_, ?_, ?_⟩ <;> exact (World.cell?_alloc_past _ _ _ (by simp)).trans ((World.cell?_alloc_at _ _ _ _ rfl).trans rfl)
  · refine ⟨?_, ?_, ?_, ?_, ?_, ?_, ?_⟩ <;> exact (World.cell?_alloc_at _ _ _ _ (by simp)).trans rfl
  · intro i
    exact World.frozen?_alloc_at _ _ _ _ (by simp)

theorem put7_st {w wx : World} {b1 : Nat} (hb : b1 < w.heap.size + 2) {v0 v1 v2 v3 v4 v5 v6 : Value} {α : Type} (K : Kd α) {s : QSl} {S : List α} (h : QRow K.k K.lie (mask (two w) (fun _ => Classical.propDecidable _) wx) s S) :
    QRow K.k K.lie ((((((((wx).setCell ⟨b1, 0, none⟩ v0).setCell ⟨b1, 1, none⟩ v1).setCell ⟨b1, 2, none⟩ v2).setCell ⟨b1, 3, none⟩ v3).setCell ⟨b1, 4, none⟩ v4).setCell ⟨b1, 5, none⟩ v5).setCell ⟨b1, 6, none⟩ v6) s S :=
  (h.step (Kd.keeps K) (two_abv ((((((((Abv.refl _ _).put hb _).put hb _).put hb _).put hb _).put hb _).put hb _).put hb _))).cov (Kd.covs K) (cov_mask _ _)

set_option maxHeartbeats 16000000 in
set_option maxRecDepth 20000 in
theorem own_plan (d : PlanD) (w : World) (hl : d.lie w) (h0 : d.nil0) (hf : d.fits) : Calls Tryz.prog 24 #[d.v] w (PlanDone d w) := by
  obtain ⟨W2, b0, b1, eW, e0, e1, hsz, hc, hz, hfz⟩ := own_boxes d w
  have HB : Hid (Below w.heap.size w W2) := by rw [eW]; exact bl_alloc (bl_alloc (Below.refl _ _))
  have HS := hid hsz
  have EW := hid eW
  have E0 := hid e0
  have E1 := hid e1
  have HZC := hid hz
  have HFZ := hid hfz
  obtain ⟨z0, z1, z2, z3, z4, z5, z6⟩ := hc
  have HC0 : Hid (∀ w', Below W2.heap.size W2 w' → Calls Tryz.prog 68 #[.slice d.heads.a d.heads.n d.heads.c, .func (.func 69) #[] #[]] w' (RowDone kHead HeadD.ws d.hs d.heads.n w')) := fun w' h => each_head d.heads d.hs w' (hl.hs.step HeadD.keeps (bl_step HB.out h)) h0.hs hf.hs.1 hf.hs.2
  have HC1 : Hid (∀ w', Below W2.heap.size W2 w' → Calls Tryz.prog 70 #[.slice d.mta.a d.mta.n d.mta.c] w' (RowDone kInt id d.ms d.mta.n w')) := fun w' h => (copied_int d.mta d.ms w' (hl.ms.step (bl_step HB.out h)) h0.ms hf.ms).mono fun _ _ h => h.rows hl.ms.2.1
  have HC2 : Hid (∀ w', Below W2.heap.size W2 w' → Calls Tryz.prog 71 #[.slice d.states.a d.states.n d.states.c, .func (.func 72) #[] #[]] w' (RowDone kState StateD.p d.ss d.states.n w')) := fun w' h => each_state d.states d.ss w' (hl.ss.step StateD.keeps (bl_step HB.out h)) h0.ss hf.ss.1 hf.ss.2
  have HC3 : Hid (∀ w', Below W2.heap.size W2 w' → Calls Tryz.prog 73 #[.slice d.acts.a d.acts.n d.acts.c, .func (.func 74) #[] #[]] w' (RowDone kAct ActD.p d.al d.acts.n w')) := fun w' h => each_act d.acts d.al w' (hl.al.step ActD.keeps (bl_step HB.out h)) h0.al hf.al.1 hf.al.2
  have HC4 : Hid (∀ w', Below W2.heap.size W2 w' → Calls Tryz.prog 75 #[.slice d.tabs.a d.tabs.n d.tabs.c, .func (.func 76) #[] #[]] w' (RowDone kTab TabD.p d.ts d.tabs.n w')) := fun w' h => each_tab d.tabs d.ts w' (hl.ts.step TabD.keeps (bl_step HB.out h)) h0.ts hf.ts.1 hf.ts.2
  have HC5 : Hid (∀ w', Below W2.heap.size W2 w' → Calls Tryz.prog 77 #[.slice d.nodes.a d.nodes.n d.nodes.c, .func (.func 78) #[] #[]] w' (RowDone kNode NodeD.p d.ns d.nodes.n w')) := fun w' h => each_node d.nodes d.ns w' (hl.ns.step NodeD.keeps (bl_step HB.out h)) h0.ns hf.ns.1 hf.ns.2
  have HC6 : Hid (∀ w', Below W2.heap.size W2 w' → Calls Tryz.prog 70 #[.slice d.out.a d.out.n d.out.c] w' (CopyDone kInt 3 d.os d.out.n w')) := fun w' h => copied_int d.out d.os w' (hl.os.step (bl_step HB.out h)) h0.os hf.os
  have HOW := hid hl.os.2.1
  have HSZ : Hid (∀ w', Below W2.heap.size W2 w' → w.heap.size + 2 ≤ w'.heap.size) := fun w' h => by rw [← hsz]; exact h.size
  have HT : Hid (∀ w', Below W2.heap.size W2 w' → (w'.cell? ⟨b1, 0, none⟩ = some (.slice none 0 0) ∧ w'.cell? ⟨b1, 1, none⟩ = some (.slice none 0 0) ∧ w'.cell? ⟨b1, 2, none⟩ = some (.slice none 0 0) ∧ w'.cell? ⟨b1, 3, none⟩ = some (.slice none 0 0) ∧ w'.cell? ⟨b1, 4, none⟩ = some (.slice none 0 0) ∧ w'.cell? ⟨b1, 5, none⟩ = some (.slice none 0 0) ∧ w'.cell? ⟨b1, 6, none⟩ = some (.slice none 0 0)) ∧ (w'.frozen? ⟨b1, 0, none⟩ = false ∧ w'.frozen? ⟨b1, 1, none⟩ = false ∧ w'.frozen? ⟨b1, 2, none⟩ = false ∧ w'.frozen? ⟨b1, 3, none⟩ = false ∧ w'.frozen? ⟨b1, 4, none⟩ = false ∧ w'.frozen? ⟨b1, 5, none⟩ = false ∧ w'.frozen? ⟨b1, 6, none⟩ = false) ∧ b1 < w'.heap.size) := fun w' h => by
    have hb : b1 < W2.heap.size := by rw [hsz, e1]; omega
    have hk : ∀ i v, W2.cell? ⟨b1, i, none⟩ = some v → w'.cell? ⟨b1, i, none⟩ = some v := fun i v hv => cell_keep hv h
    have hk' : ∀ i, w'.frozen? ⟨b1, i, none⟩ = false := fun i => (h.frozen (p := ⟨b1, i, none⟩) hb).trans (hfz i)
    exact ⟨⟨hk _ _ hz.1, hk _ _ hz.2.1, hk _ _ hz.2.2.1, hk _ _ hz.2.2.2.1, hk _ _ hz.2.2.2.2.1, hk _ _ hz.2.2.2.2.2.1, hk _ _ hz.2.2.2.2.2.2⟩, ⟨hk' 0, hk' 1, hk' 2, hk' 3, hk' 4, hk' 5, hk' 6⟩, Nat.lt_of_lt_of_le hb h.size⟩
  have HCUR := hid (Below.refl W2.heap.size W2).drew
  clear eW e0 e1 hl h0 hf hz hfz hsz
  go_enter Tryz.func24, Tryz.ntmps24
  go_wp2_with fail
  rw [← EW.out, ← E1.out, ← E0.out]
  have hne : ¬ (b0 = b1) := by rw [E0.out, E1.out]; omega
  have hne' : ¬ (b1 = b0) := by rw [E0.out, E1.out]; omega
  go_region_held3 (fun w' => w'.cell? ⟨b0, 0, none⟩ = some (.slice d.heads.a d.heads.n d.heads.c) ∧ w'.cell? ⟨b0, 1, none⟩ = some (.slice d.mta.a d.mta.n d.mta.c) ∧ w'.cell? ⟨b0, 2, none⟩ = some (.slice d.states.a d.states.n d.states.c) ∧ w'.cell? ⟨b0, 3, none⟩ = some (.slice d.acts.a d.acts.n d.acts.c) ∧ w'.cell? ⟨b0, 4, none⟩ = some (.slice d.tabs.a d.tabs.n d.tabs.c) ∧ w'.cell? ⟨b0, 5, none⟩ = some (.slice d.nodes.a d.nodes.n d.nodes.c) ∧ w'.cell? ⟨b0, 6, none⟩ = some (.slice d.out.a d.out.n d.out.c))
    (first
      | go_keep
      | (go_split_ands
         exact keep7 ⟨by assumption, by assumption, by assumption, by assumption, by assumption, by assumption, by assumption⟩ hbx))
    (first
      | (go_at_call 68; (with_reducible refine (HC0.out _ HCUR.out).mono ?_); rintro e wx ⟨a0, c0, L0, rfl, hr, hn, he, hbx⟩; have HR0 := hid (hr.cov (Kd.covs kHead) (two_new (w := w) (HSZ.out _ HCUR.out))); have HN0 := hid hn; have HL0 := hid he; clear hr hn he; have HCUR := hid (bl_step HCUR.out hbx))
      | (go_at_call 70; (with_reducible refine (HC1.out _ HCUR.out).mono ?_); rintro e wx ⟨a1, c1, L1, rfl, hr, hn, he, hbx⟩; have HR1 := hid (hr.cov (Kd.covs kInt) (two_new (w := w) (HSZ.out _ HCUR.out))); have HN1 := hid hn; have HL1 := hid he; clear hr hn he; have HR0 := hid (HR0.out.step (Kd.keeps kHead) (mask_step hbx)); have HCUR := hid (bl_step HCUR.out hbx))
      | (go_at_call 71; (with_reducible refine (HC2.out _ HCUR.out).mono ?_); rintro e wx ⟨a2, c2, L2, rfl, hr, hn, he, hbx⟩; have HR2 := hid (hr.cov (Kd.covs kState) (two_new (w := w) (HSZ.out _ HCUR.out))); have HN2 := hid hn; have HL2 := hid he; clear hr hn he; have HR0 := hid (HR0.out.step (Kd.keeps kHead) (mask_step hbx)); have HR1 := hid (HR1.out.step (Kd.keeps kInt) (mask_step hbx)); have HCUR := hid (bl_step HCUR.out hbx))
      | (go_at_call 73; (with_reducible refine (HC3.out _ HCUR.out).mono ?_); rintro e wx ⟨a3, c3, L3, rfl, hr, hn, he, hbx⟩; have HR3 := hid (hr.cov (Kd.covs kAct) (two_new (w := w) (HSZ.out _ HCUR.out))); have HN3 := hid hn; have HL3 := hid he; clear hr hn he; have HR0 := hid (HR0.out.step (Kd.keeps kHead) (mask_step hbx)); have HR1 := hid (HR1.out.step (Kd.keeps kInt) (mask_step hbx)); have HR2 := hid (HR2.out.step (Kd.keeps kState) (mask_step hbx)); have HCUR := hid (bl_step HCUR.out hbx))
      | (go_at_call 75; (with_reducible refine (HC4.out _ HCUR.out).mono ?_); rintro e wx ⟨a4, c4, L4, rfl, hr, hn, he, hbx⟩; have HR4 := hid (hr.cov (Kd.covs kTab) (two_new (w := w) (HSZ.out _ HCUR.out))); have HN4 := hid hn; have HL4 := hid he; clear hr hn he; have HR0 := hid (HR0.out.step (Kd.keeps kHead) (mask_step hbx)); have HR1 := hid (HR1.out.step (Kd.keeps kInt) (mask_step hbx)); have HR2 := hid (HR2.out.step (Kd.keeps kState) (mask_step hbx)); have HR3 := hid (HR3.out.step (Kd.keeps kAct) (mask_step hbx)); have HCUR := hid (bl_step HCUR.out hbx))
      | (go_at_call 77; (with_reducible refine (HC5.out _ HCUR.out).mono ?_); rintro e wx ⟨a5, c5, L5, rfl, hr, hn, he, hbx⟩; have HR5 := hid (hr.cov (Kd.covs kNode) (two_new (w := w) (HSZ.out _ HCUR.out))); have HN5 := hid hn; have HL5 := hid he; clear hr hn he; have HR0 := hid (HR0.out.step (Kd.keeps kHead) (mask_step hbx)); have HR1 := hid (HR1.out.step (Kd.keeps kInt) (mask_step hbx)); have HR2 := hid (HR2.out.step (Kd.keeps kState) (mask_step hbx)); have HR3 := hid (HR3.out.step (Kd.keeps kAct) (mask_step hbx)); have HR4 := hid (HR4.out.step (Kd.keeps kTab) (mask_step hbx)); have HCUR := hid (bl_step HCUR.out hbx))
      | (go_at_call 70; (with_reducible refine (HC6.out _ HCUR.out).mono ?_); rintro e wx ⟨a6, c6, rfl, ho, hbx⟩; have HR6 := hid ((fresh_row kInt ho HOW.out).cov (Kd.covs kInt) (two_new (w := w) (HSZ.out _ HCUR.out))); have HO6 := hid ho; clear ho; have HR0 := hid (HR0.out.step (Kd.keeps kHead) (mask_step hbx)); have HR1 := hid (HR1.out.step (Kd.keeps kInt) (mask_step hbx)); have HR2 := hid (HR2.out.step (Kd.keeps kState) (mask_step hbx)); have HR3 := hid (HR3.out.step (Kd.keeps kAct) (mask_step hbx)); have HR4 := hid (HR4.out.step (Kd.keeps kTab) (mask_step hbx)); have HR5 := hid (HR5.out.step (Kd.keeps kNode) (mask_step hbx)); have HCUR := hid (bl_step HCUR.out hbx); obtain ⟨⟨t0, t1, t2, t3, t4, t5, t6⟩, ⟨f0, f1, f2, f3, f4, f5, f6⟩, hb1⟩ := HT.out _ HCUR.out))
  all_goals
    have HE := hid (HB.out.trans (HCUR.out.mono HB.out.size))
    go_wp2
    refine bodyPost_ret (v := .agg #[.slice a0 d.heads.n c0, .slice a1 d.mta.n c1, .slice a2 d.states.n c2, .slice a3 d.acts.n c3, .slice a4 d.tabs.n c4, .slice a5 d.nodes.n c5, .slice a6 d.out.n c6]) (by simp [results, Tryz.results24, go_sem, *]) rfl ?_
    have HP : b1 < w.heap.size + 2 := by rw [E1.out]; omega
    obtain ⟨_, _, e6, hle6, _⟩ := own_is HO6.out
    simp only [Value.slice.injEq, true_and] at e6
    refine ⟨⟨⟨a0, d.heads.n, c0⟩, L0, ⟨a1, d.mta.n, c1⟩, L1, ⟨a2, d.states.n, c2⟩, L2, ⟨a3, d.acts.n, c3⟩, L3, ⟨a4, d.tabs.n, c4⟩, L4, ⟨a5, d.nodes.n, c5⟩, L5, ⟨a6, d.out.n, c6⟩, d.os⟩, rfl, ?_, ?_, ?_, ?_⟩
    · exact ⟨put7_st HP kHead HR0.out, row_hasI (put7_st HP kInt HR1.out), put7_st HP kState HR2.out, put7_st HP kAct HR3.out, put7_st HP kTab HR4.out, put7_st HP kNode HR5.out, row_hasI (put7_st HP kInt HR6.out), by rw [e6.2]; exact hle6⟩
    · exact ⟨HN0.out, HN1.out, HN2.out, HN3.out, HN4.out, HN5.out, Kd.own_nil0 HO6.out⟩
    · simp only [PlanD.p, HL0.out, map_id_eq HL1.out, HL2.out, HL3.out, HL4.out, HL5.out]
    · exact (((((((HE.out).setCell (by show w.heap.size ≤ b1; rw [E1.out]; omega) _).setCell (by show w.heap.size ≤ b1; rw [E1.out]; omega) _).setCell (by show w.heap.size ≤ b1; rw [E1.out]; omega) _).setCell (by show w.heap.size ≤ b1; rw [E1.out]; omega) _).setCell (by show w.heap.size ≤ b1; rw [E1.out]; omega) _).setCell (by show w.heap.size ≤ b1; rw [E1.out]; omega) _).setCell (by show w.heap.size ≤ b1; rw [E1.out]; omega) _
end Go.Proofs.YtlnkfgdepddmladGreat
