/- Texts of one chain, joined: QOwn1, QEach, QOwn2. -/
import Derived.Test.YtajelgjbgehahaaGreatJ2
import Derived.Test.YtajelgjbgehahaaGreatVQGreat
import Derived.Deep.RegionHeld3
namespace Go.Proofs.YtajelgjbgehahaaGreat
open Go.RowKit

theorem sz0 (w : World) (o o' : Obj) : w.heap.size < ((w.alloc o).alloc o').heap.size := by simp; omega
theorem sz1 (w : World) (o o' : Obj) : w.heap.size + 1 < ((w.alloc o).alloc o').heap.size := by simp

theorem Kd.keeps {α : Type} (K : Kd α) : Keeps K.lie := fun h b => K.lay (fun j u hu => cell_keep (K.cell h j u hu) b) (K.step (K.out h) b)
theorem Kd.covs {α : Type} (K : Kd α) : Covs K.lie := fun h c => K.lay (fun j u hu => c.2 _ _ _ (K.cell h j u hu)) (K.cov (K.out h) c)

/-- from the block B on nothing is another one -/
structure Abv (B : Nat) (w w' : World) : Prop where
  os : w'.os = w.os
  tape : w'.tape = w.tape
  output : w'.output = w.output
  size : w'.heap.size = w.heap.size
  block : ∀ k, B ≤ k → w'.heap[k]? = w.heap[k]?

theorem Abv.refl (B : Nat) (w : World) : Abv B w w := ⟨rfl, rfl, rfl, rfl, fun _ _ => rfl⟩
theorem Abv.put {B : Nat} {a w : World} (h : Abv B a w) {p : Addr} (hp : p.block < B) (u : Value) : Abv B a (w.setCell p u) :=
  ⟨h.os, h.tape, h.output, by rw [World.size_setCell]; exact h.size, fun k hk => (Below.heap_setCell _ _ _ _ (by omega)).trans (h.block k hk)⟩

/-- what was there, and two blocks more -/
abbrev two (w : World) : Nat → Prop := fun b => b < w.heap.size + 2

theorem two_abv {w w1 w2 : World} (h : Abv (w.heap.size + 2) w1 w2) : Below (mask (two w) (fun _ => Classical.propDecidable _) w1).heap.size (mask (two w) (fun _ => Classical.propDecidable _) w1) (mask (two w) (fun _ => Classical.propDecidable _) w2) :=
  mask_below h.os h.tape h.output (Nat.le_of_eq h.size.symm) (fun _ h => h) fun k _ hF => ⟨hF, h.block k (Nat.le_of_not_lt hF)⟩
theorem two_new {w W w1 : World} (h : w.heap.size + 2 ≤ W.heap.size) : Cov (mask (old W) (fun _ => Classical.propDecidable _) w1) (mask (two w) (fun _ => Classical.propDecidable _) w1) := cov_less _ fun b (hb : b < w.heap.size + 2) => show b < W.heap.size by omega
theorem two_old (w w1 : World) : Cov (mask (two w) (fun _ => Classical.propDecidable _) w1) (mask (old w) (fun _ => Classical.propDecidable _) w1) := cov_less _ fun b (hb : b < w.heap.size) => show b < w.heap.size + 2 by omega

/-- what an 'own' tells of x: the like of it, in memory of its own -/
def OwnDone {α β : Type} (K : Kd α) (f : α → β) (x : α) (w : World) (e : Ending) (w' : World) : Prop :=
  ∃ x', e = .returned (.agg (K.cells x').toArray) ∧ f x' = f x ∧ K.inn x' (mask (old w) (fun _ => Classical.propDecidable _) w') ∧ Below w.heap.size w w'

/-- a row of such -/
def RowDone {α β : Type} (K : Kd α) (f : α → β) (S : List α) (n : Nat) (w : World) (e : Ending) (w' : World) : Prop :=
  ∃ a c L, e = .returned (.slice a n c) ∧ QRow K.k K.lie (mask (old w) (fun _ => Classical.propDecidable _) w') ⟨a, n, c⟩ L ∧ QSl.nil0 ⟨a, n, c⟩ ∧ L.map f = S.map f ∧ Below w.heap.size w w'

theorem CopyDone.rows {α : Type} {K : Kd α} {T : TypeId} {S : List α} {n : Nat} {w : World} {e : Ending} {w' : World} (h : CopyDone K T S n w e w') (hi : ∀ s ∈ S, K.inn s (mask (old w) (fun _ => Classical.propDecidable _) w')) : RowDone K id S n w e w' := by
  obtain ⟨a, c, e, h1, h2, h3⟩ := h.row hi
  exact ⟨a, c, S, e, h1, h2, rfl, h3⟩

theorem map_id_eq {α : Type} {L S : List α} (h : L.map id = S.map id) : L = S := by simpa using h

set_option maxHeartbeats 4000000 in
set_option maxRecDepth 20000 in
theorem ownHeader_any (x : HeadD) (w : World) (hi : kHead.inn x w) (hn : x.w.n ≤ 100000) : Calls Tryz.prog 23 #[.agg #[.slice x.w.a x.w.n x.w.c]] w (OwnDone kHead HeadD.ws x w) := by
  have HC0 : Hid (∀ w', Below w.heap.size w w' → Calls Tryz.prog 24 #[.slice x.w.a x.w.n x.w.c] w' (RowDone kInt id x.ws x.w.n w')) := fun w' hb => (copied_int x.w x.ws w' (hi.2.step hb) hi.1 hn).mono fun _ _ h => h.rows hi.2.2.1
  have HI := hid hi
  clear hi
  go_enter Tryz.func23, Tryz.ntmps23
  go_wp2_with fail
  refine (HC0.out _ (bl_alloc (bl_alloc (Below.refl _ _)))).mono ?_
  rintro e w1 ⟨a0, c0, L0, rfl, hr, hn0, he, hb⟩
  have p0_1 : w1.cell? ⟨w.heap.size, 0, none⟩ = some (.slice x.w.a x.w.n x.w.c) := (hb.cell (p := ⟨w.heap.size, 0, none⟩) (sz0 _ _ _)).trans (by simp)
  have q0_1 : w1.cell? ⟨w.heap.size + 1, 0, none⟩ = some (.slice none 0 0) := (hb.cell (p := ⟨w.heap.size + 1, 0, none⟩) (sz1 _ _ _)).trans (by simp)
  have r0_1 : w1.frozen? ⟨w.heap.size, 0, none⟩ = false := (hb.frozen (p := ⟨w.heap.size, 0, none⟩) (sz0 _ _ _)).trans (by simp)
  have s0_1 : w1.frozen? ⟨w.heap.size + 1, 0, none⟩ = false := (hb.frozen (p := ⟨w.heap.size + 1, 0, none⟩) (sz1 _ _ _)).trans (by simp)
  have HZ : Hid (w.heap.size + 2 ≤ w1.heap.size) := by have := hb.size; first | exact Nat.le_trans (sz1 _ _ _) this | (rw [World.size_setCell] at this; exact Nat.le_trans HZp.out this)
  have hz : w.heap.size + 1 < w1.heap.size := HZ.out
  have HR0 := hid (hr.cov (Kd.covs kInt) (two_new (w := w) (sz1 _ _ _)))
  have HN0 := hid hn0
  have HE0 := hid he
  have HB1 : Hid (Below w.heap.size w (w1.setCell ⟨w.heap.size, 0, none⟩ (.slice a0 x.w.n c0))) := ((bl_alloc (bl_alloc (Below.refl w.heap.size w))).trans (hb.mono (Nat.le_of_lt (sz0 _ _ _)))).setCell (Nat.le_refl _) _
  have HZp := HZ
  clear hr hn0 he hb HC0
  go_wp2
  refine bodyPost_ret (v := .agg #[.slice a0 x.w.n c0]) (by simp [results, Tryz.results23, go_sem, *]) rfl ?_
  refine ⟨⟨⟨a0, x.w.n, c0⟩, L0⟩, rfl, map_id_eq HE0.out, kHead.cov (kHead.step ⟨HN0.out, row_hasI HR0.out⟩ (two_abv (((Abv.refl _ _).put (by simp) _).put (by simp) _))) (two_old _ _), ?_⟩
  exact (HB1.out).setCell (Nat.le_succ _) _

set_option maxHeartbeats 4000000 in
set_option maxRecDepth 20000 in
theorem ownState_any (x : StateD) (w : World) (hi : kState.inn x w) (hn : x.cases.n ≤ 100000) : Calls Tryz.prog 26 #[.agg #[.int .i64 x.head, .int .i64 x.r.h, .int .i64 x.r.f, .slice x.cases.a x.cases.n x.cases.c, .int .i64 x.els]] w (OwnDone kState StateD.p x w) := by
  have HC0 : Hid (∀ w', Below w.heap.size w w' → Calls Tryz.prog 48 #[.slice x.cases.a x.cases.n x.cases.c] w' (RowDone kCase id x.cs x.cases.n w')) := fun w' hb => (copied_case x.cases x.cs w' (hi.2.step CaseD.keeps hb) hi.1.2.2.2.1 hn).mono fun _ _ h => h.rows (kCase.inns (w := w) hi.2)
  have HI := hid hi
  clear hi
  go_enter Tryz.func26, Tryz.ntmps26
  go_wp2_with fail
  refine (HC0.out _ (bl_alloc (bl_alloc (Below.refl _ _)))).mono ?_
  rintro e w1 ⟨a0, c0, L0, rfl, hr, hn0, he, hb⟩
  have p0_1 : w1.cell? ⟨w.heap.size, 0, none⟩ = some (.int .i64 x.head) := (hb.cell (p := ⟨w.heap.size, 0, none⟩) (sz0 _ _ _)).trans (by simp)
  have q0_1 : w1.cell? ⟨w.heap.size + 1, 0, none⟩ = some (.int .i64 0) := (hb.cell (p := ⟨w.heap.size + 1, 0, none⟩) (sz1 _ _ _)).trans (by simp)
  have r0_1 : w1.frozen? ⟨w.heap.size, 0, none⟩ = false := (hb.frozen (p := ⟨w.heap.size, 0, none⟩) (sz0 _ _ _)).trans (by simp)
  have s0_1 : w1.frozen? ⟨w.heap.size + 1, 0, none⟩ = false := (hb.frozen (p := ⟨w.heap.size + 1, 0, none⟩) (sz1 _ _ _)).trans (by simp)
  have p1_1 : w1.cell? ⟨w.heap.size, 1, none⟩ = some (.int .i64 x.r.h) := (hb.cell (p := ⟨w.heap.size, 1, none⟩) (sz0 _ _ _)).trans (by simp)
  have q1_1 : w1.cell? ⟨w.heap.size + 1, 1, none⟩ = some (.int .i64 0) := (hb.cell (p := ⟨w.heap.size + 1, 1, none⟩) (sz1 _ _ _)).trans (by simp)
  have r1_1 : w1.frozen? ⟨w.heap.size, 1, none⟩ = false := (hb.frozen (p := ⟨w.heap.size, 1, none⟩) (sz0 _ _ _)).trans (by simp)
  have s1_1 : w1.frozen? ⟨w.heap.size + 1, 1, none⟩ = false := (hb.frozen (p := ⟨w.heap.size + 1, 1, none⟩) (sz1 _ _ _)).trans (by simp)
  have p2_1 : w1.cell? ⟨w.heap.size, 2, none⟩ = some (.int .i64 x.r.f) := (hb.cell (p := ⟨w.heap.size, 2, none⟩) (sz0 _ _ _)).trans (by simp)
  have q2_1 : w1.cell? ⟨w.heap.size + 1, 2, none⟩ = some (.int .i64 0) := (hb.cell (p := ⟨w.heap.size + 1, 2, none⟩) (sz1 _ _ _)).trans (by simp)
  have r2_1 : w1.frozen? ⟨w.heap.size, 2, none⟩ = false := (hb.frozen (p := ⟨w.heap.size, 2, none⟩) (sz0 _ _ _)).trans (by simp)
  have s2_1 : w1.frozen? ⟨w.heap.size + 1, 2, none⟩ = false := (hb.frozen (p := ⟨w.heap.size + 1, 2, none⟩) (sz1 _ _ _)).trans (by simp)
  have p3_1 : w1.cell? ⟨w.heap.size, 3, none⟩ = some (.slice x.cases.a x.cases.n x.cases.c) := (hb.cell (p := ⟨w.heap.size, 3, none⟩) (sz0 _ _ _)).trans (by simp)
  have q3_1 : w1.cell? ⟨w.heap.size + 1, 3, none⟩ = some (.slice none 0 0) := (hb.cell (p := ⟨w.heap.size + 1, 3, none⟩) (sz1 _ _ _)).trans (by simp)
  have r3_1 : w1.frozen? ⟨w.heap.size, 3, none⟩ = false := (hb.frozen (p := ⟨w.heap.size, 3, none⟩) (sz0 _ _ _)).trans (by simp)
  have s3_1 : w1.frozen? ⟨w.heap.size + 1, 3, none⟩ = false := (hb.frozen (p := ⟨w.heap.size + 1, 3, none⟩) (sz1 _ _ _)).trans (by simp)
  have p4_1 : w1.cell? ⟨w.heap.size, 4, none⟩ = some (.int .i64 x.els) := (hb.cell (p := ⟨w.heap.size, 4, none⟩) (sz0 _ _ _)).trans (by simp)
  have q4_1 : w1.cell? ⟨w.heap.size + 1, 4, none⟩ = some (.int .i64 0) := (hb.cell (p := ⟨w.heap.size + 1, 4, none⟩) (sz1 _ _ _)).trans (by simp)
  have r4_1 : w1.frozen? ⟨w.heap.size, 4, none⟩ = false := (hb.frozen (p := ⟨w.heap.size, 4, none⟩) (sz0 _ _ _)).trans (by simp)
  have s4_1 : w1.frozen? ⟨w.heap.size + 1, 4, none⟩ = false := (hb.frozen (p := ⟨w.heap.size + 1, 4, none⟩) (sz1 _ _ _)).trans (by simp)
  have HZ : Hid (w.heap.size + 2 ≤ w1.heap.size) := by have := hb.size; first | exact Nat.le_trans (sz1 _ _ _) this | (rw [World.size_setCell] at this; exact Nat.le_trans HZp.out this)
  have hz : w.heap.size + 1 < w1.heap.size := HZ.out
  have HR0 := hid (hr.cov (Kd.covs kCase) (two_new (w := w) (sz1 _ _ _)))
  have HN0 := hid hn0
  have HE0 := hid he
  have HB1 : Hid (Below w.heap.size w (w1.setCell ⟨w.heap.size, 3, none⟩ (.slice a0 x.cases.n c0))) := ((bl_alloc (bl_alloc (Below.refl w.heap.size w))).trans (hb.mono (Nat.le_of_lt (sz0 _ _ _)))).setCell (Nat.le_refl _) _
  have HZp := HZ
  clear hr hn0 he hb HC0
  go_wp2
  refine bodyPost_ret (v := .agg #[.int .i64 x.head, .int .i64 x.r.h, .int .i64 x.r.f, .slice a0 x.cases.n c0, .int .i64 x.els]) (by simp [results, Tryz.results26, go_sem, *]) rfl ?_
  refine ⟨⟨x.head, x.r, ⟨a0, x.cases.n, c0⟩, L0, x.els⟩, rfl, by rw [map_id_eq HE0.out]; rfl, kState.cov (kState.step ⟨⟨HI.out.1.1, HI.out.1.2.1, HI.out.1.2.2.1, HN0.out, HI.out.1.2.2.2.2⟩, HR0.out⟩ (two_abv (((((((Abv.refl _ _).put (by simp) _).put (by simp) _).put (by simp) _).put (by simp) _).put (by simp) _).put (by simp) _))) (two_old _ _), ?_⟩
  exact (((((HB1.out).setCell (Nat.le_succ _) _).setCell (Nat.le_succ _) _).setCell (Nat.le_succ _) _).setCell (Nat.le_succ _) _).setCell (Nat.le_succ _) _

set_option maxHeartbeats 4000000 in
set_option maxRecDepth 20000 in
theorem ownOp_any (x : OpD) (w : World) (hi : kOp.inn x w) (hn : x.e.n ≤ 100000) : Calls Tryz.prog 51 #[.agg #[.int .i64 x.kind, .int .i64 x.r.h, .int .i64 x.r.f, .int .i64 x.head, .slice x.e.a x.e.n x.e.c]] w (OwnDone kOp OpD.p x w) := by
  have HC0 : Hid (∀ w', Below w.heap.size w w' → Calls Tryz.prog 56 #[.slice x.e.a x.e.n x.e.c] w' (RowDone kPush id x.es x.e.n w')) := fun w' hb => (copied_push x.e x.es w' (hi.2.step PushD.keeps hb) hi.1.2.2.2.2 hn).mono fun _ _ h => h.rows (kPush.inns (w := w) hi.2)
  have HI := hid hi
  clear hi
  go_enter Tryz.func51, Tryz.ntmps51
  go_wp2_with fail
  refine (HC0.out _ (bl_alloc (bl_alloc (Below.refl _ _)))).mono ?_
  rintro e w1 ⟨a0, c0, L0, rfl, hr, hn0, he, hb⟩
  have p0_1 : w1.cell? ⟨w.heap.size, 0, none⟩ = some (.int .i64 x.kind) := (hb.cell (p := ⟨w.heap.size, 0, none⟩) (sz0 _ _ _)).trans (by simp)
  have q0_1 : w1.cell? ⟨w.heap.size + 1, 0, none⟩ = some (.int .i64 0) := (hb.cell (p := ⟨w.heap.size + 1, 0, none⟩) (sz1 _ _ _)).trans (by simp)
  have r0_1 : w1.frozen? ⟨w.heap.size, 0, none⟩ = false := (hb.frozen (p := ⟨w.heap.size, 0, none⟩) (sz0 _ _ _)).trans (by simp)
  have s0_1 : w1.frozen? ⟨w.heap.size + 1, 0, none⟩ = false := (hb.frozen (p := ⟨w.heap.size + 1, 0, none⟩) (sz1 _ _ _)).trans (by simp)
  have p1_1 : w1.cell? ⟨w.heap.size, 1, none⟩ = some (.int .i64 x.r.h) := (hb.cell (p := ⟨w.heap.size, 1, none⟩) (sz0 _ _ _)).trans (by simp)
  have q1_1 : w1.cell? ⟨w.heap.size + 1, 1, none⟩ = some (.int .i64 0) := (hb.cell (p := ⟨w.heap.size + 1, 1, none⟩) (sz1 _ _ _)).trans (by simp)
  have r1_1 : w1.frozen? ⟨w.heap.size, 1, none⟩ = false := (hb.frozen (p := ⟨w.heap.size, 1, none⟩) (sz0 _ _ _)).trans (by simp)
  have s1_1 : w1.frozen? ⟨w.heap.size + 1, 1, none⟩ = false := (hb.frozen (p := ⟨w.heap.size + 1, 1, none⟩) (sz1 _ _ _)).trans (by simp)
  have p2_1 : w1.cell? ⟨w.heap.size, 2, none⟩ = some (.int .i64 x.r.f) := (hb.cell (p := ⟨w.heap.size, 2, none⟩) (sz0 _ _ _)).trans (by simp)
  have q2_1 : w1.cell? ⟨w.heap.size + 1, 2, none⟩ = some (.int .i64 0) := (hb.cell (p := ⟨w.heap.size + 1, 2, none⟩) (sz1 _ _ _)).trans (by simp)
  have r2_1 : w1.frozen? ⟨w.heap.size, 2, none⟩ = false := (hb.frozen (p := ⟨w.heap.size, 2, none⟩) (sz0 _ _ _)).trans (by simp)
  have s2_1 : w1.frozen? ⟨w.heap.size + 1, 2, none⟩ = false := (hb.frozen (p := ⟨w.heap.size + 1, 2, none⟩) (sz1 _ _ _)).trans (by simp)
  have p3_1 : w1.cell? ⟨w.heap.size, 3, none⟩ = some (.int .i64 x.head) := (hb.cell (p := ⟨w.heap.size, 3, none⟩) (sz0 _ _ _)).trans (by simp)
  have q3_1 : w1.cell? ⟨w.heap.size + 1, 3, none⟩ = some (.int .i64 0) := (hb.cell (p := ⟨w.heap.size + 1, 3, none⟩) (sz1 _ _ _)).trans (by simp)
  have r3_1 : w1.frozen? ⟨w.heap.size, 3, none⟩ = false := (hb.frozen (p := ⟨w.heap.size, 3, none⟩) (sz0 _ _ _)).trans (by simp)
  have s3_1 : w1.frozen? ⟨w.heap.size + 1, 3, none⟩ = false := (hb.frozen (p := ⟨w.heap.size + 1, 3, none⟩) (sz1 _ _ _)).trans (by simp)
  have p4_1 : w1.cell? ⟨w.heap.size, 4, none⟩ = some (.slice x.e.a x.e.n x.e.c) := (hb.cell (p := ⟨w.heap.size, 4, none⟩) (sz0 _ _ _)).trans (by simp)
  have q4_1 : w1.cell? ⟨w.heap.size + 1, 4, none⟩ = some (.slice none 0 0) := (hb.cell (p := ⟨w.heap.size + 1, 4, none⟩) (sz1 _ _ _)).trans (by simp)
  have r4_1 : w1.frozen? ⟨w.heap.size, 4, none⟩ = false := (hb.frozen (p := ⟨w.heap.size, 4, none⟩) (sz0 _ _ _)).trans (by simp)
  have s4_1 : w1.frozen? ⟨w.heap.size + 1, 4, none⟩ = false := (hb.frozen (p := ⟨w.heap.size + 1, 4, none⟩) (sz1 _ _ _)).trans (by simp)
  have HZ : Hid (w.heap.size + 2 ≤ w1.heap.size) := by have := hb.size; first | exact Nat.le_trans (sz1 _ _ _) this | (rw [World.size_setCell] at this; exact Nat.le_trans HZp.out this)
  have hz : w.heap.size + 1 < w1.heap.size := HZ.out
  have HR0 := hid (hr.cov (Kd.covs kPush) (two_new (w := w) (sz1 _ _ _)))
  have HN0 := hid hn0
  have HE0 := hid he
  have HB1 : Hid (Below w.heap.size w (w1.setCell ⟨w.heap.size, 4, none⟩ (.slice a0 x.e.n c0))) := ((bl_alloc (bl_alloc (Below.refl w.heap.size w))).trans (hb.mono (Nat.le_of_lt (sz0 _ _ _)))).setCell (Nat.le_refl _) _
  have HZp := HZ
  clear hr hn0 he hb HC0
  go_wp2
  refine bodyPost_ret (v := .agg #[.int .i64 x.kind, .int .i64 x.r.h, .int .i64 x.r.f, .int .i64 x.head, .slice a0 x.e.n c0]) (by simp [results, Tryz.results51, go_sem, *]) rfl ?_
  refine ⟨⟨x.kind, x.r, x.head, ⟨a0, x.e.n, c0⟩, L0⟩, rfl, by rw [map_id_eq HE0.out]; rfl, kOp.cov (kOp.step ⟨⟨HI.out.1.1, HI.out.1.2.1, HI.out.1.2.2.1, HI.out.1.2.2.2.1, HN0.out⟩, HR0.out⟩ (two_abv (((((((Abv.refl _ _).put (by simp) _).put (by simp) _).put (by simp) _).put (by simp) _).put (by simp) _).put (by simp) _))) (two_old _ _), ?_⟩
  exact (((((HB1.out).setCell (Nat.le_succ _) _).setCell (Nat.le_succ _) _).setCell (Nat.le_succ _) _).setCell (Nat.le_succ _) _).setCell (Nat.le_succ _) _

set_option maxHeartbeats 4000000 in
set_option maxRecDepth 20000 in
theorem ownNode_any (x : NodeD) (w : World) (hi : kNode.inn x w) (hn : x.e.n ≤ 100000) : Calls Tryz.prog 32 #[.agg #[.int .i64 x.kind, .int .i64 x.n, .slice x.e.a x.e.n x.e.c, .int .i64 x.yes, .int .i64 x.no]] w (OwnDone kNode NodeD.p x w) := by
  have HC0 : Hid (∀ w', Below w.heap.size w w' → Calls Tryz.prog 56 #[.slice x.e.a x.e.n x.e.c] w' (RowDone kPush id x.es x.e.n w')) := fun w' hb => (copied_push x.e x.es w' (hi.2.step PushD.keeps hb) hi.1.2.2.1 hn).mono fun _ _ h => h.rows (kPush.inns (w := w) hi.2)
  have HI := hid hi
  clear hi
  go_enter Tryz.func32, Tryz.ntmps32
  go_wp2_with fail
  refine (HC0.out _ (bl_alloc (bl_alloc (Below.refl _ _)))).mono ?_
  rintro e w1 ⟨a0, c0, L0, rfl, hr, hn0, he, hb⟩
  have p0_1 : w1.cell? ⟨w.heap.size, 0, none⟩ = some (.int .i64 x.kind) := (hb.cell (p := ⟨w.heap.size, 0, none⟩) (sz0 _ _ _)).trans (by simp)
  have q0_1 : w1.cell? ⟨w.heap.size + 1, 0, none⟩ = some (.int .i64 0) := (hb.cell (p := ⟨w.heap.size + 1, 0, none⟩) (sz1 _ _ _)).trans (by simp)
  have r0_1 : w1.frozen? ⟨w.heap.size, 0, none⟩ = false := (hb.frozen (p := ⟨w.heap.size, 0, none⟩) (sz0 _ _ _)).trans (by simp)
  have s0_1 : w1.frozen? ⟨w.heap.size + 1, 0, none⟩ = false := (hb.frozen (p := ⟨w.heap.size + 1, 0, none⟩) (sz1 _ _ _)).trans (by simp)
  have p1_1 : w1.cell? ⟨w.heap.size, 1, none⟩ = some (.int .i64 x.n) := (hb.cell (p := ⟨w.heap.size, 1, none⟩) (sz0 _ _ _)).trans (by simp)
  have q1_1 : w1.cell? ⟨w.heap.size + 1, 1, none⟩ = some (.int .i64 0) := (hb.cell (p := ⟨w.heap.size + 1, 1, none⟩) (sz1 _ _ _)).trans (by simp)
  have r1_1 : w1.frozen? ⟨w.heap.size, 1, none⟩ = false := (hb.frozen (p := ⟨w.heap.size, 1, none⟩) (sz0 _ _ _)).trans (by simp)
  have s1_1 : w1.frozen? ⟨w.heap.size + 1, 1, none⟩ = false := (hb.frozen (p := ⟨w.heap.size + 1, 1, none⟩) (sz1 _ _ _)).trans (by simp)
  have p2_1 : w1.cell? ⟨w.heap.size, 2, none⟩ = some (.slice x.e.a x.e.n x.e.c) := (hb.cell (p := ⟨w.heap.size, 2, none⟩) (sz0 _ _ _)).trans (by simp)
  have q2_1 : w1.cell? ⟨w.heap.size + 1, 2, none⟩ = some (.slice none 0 0) := (hb.cell (p := ⟨w.heap.size + 1, 2, none⟩) (sz1 _ _ _)).trans (by simp)
  have r2_1 : w1.frozen? ⟨w.heap.size, 2, none⟩ = false := (hb.frozen (p := ⟨w.heap.size, 2, none⟩) (sz0 _ _ _)).trans (by simp)
  have s2_1 : w1.frozen? ⟨w.heap.size + 1, 2, none⟩ = false := (hb.frozen (p := ⟨w.heap.size + 1, 2, none⟩) (sz1 _ _ _)).trans (by simp)
  have p3_1 : w1.cell? ⟨w.heap.size, 3, none⟩ = some (.int .i64 x.yes) := (hb.cell (p := ⟨w.heap.size, 3, none⟩) (sz0 _ _ _)).trans (by simp)
  have q3_1 : w1.cell? ⟨w.heap.size + 1, 3, none⟩ = some (.int .i64 0) := (hb.cell (p := ⟨w.heap.size + 1, 3, none⟩) (sz1 _ _ _)).trans (by simp)
  have r3_1 : w1.frozen? ⟨w.heap.size, 3, none⟩ = false := (hb.frozen (p := ⟨w.heap.size, 3, none⟩) (sz0 _ _ _)).trans (by simp)
  have s3_1 : w1.frozen? ⟨w.heap.size + 1, 3, none⟩ = false := (hb.frozen (p := ⟨w.heap.size + 1, 3, none⟩) (sz1 _ _ _)).trans (by simp)
  have p4_1 : w1.cell? ⟨w.heap.size, 4, none⟩ = some (.int .i64 x.no) := (hb.cell (p := ⟨w.heap.size, 4, none⟩) (sz0 _ _ _)).trans (by simp)
  have q4_1 : w1.cell? ⟨w.heap.size + 1, 4, none⟩ = some (.int .i64 0) := (hb.cell (p := ⟨w.heap.size + 1, 4, none⟩) (sz1 _ _ _)).trans (by simp)
  have r4_1 : w1.frozen? ⟨w.heap.size, 4, none⟩ = false := (hb.frozen (p := ⟨w.heap.size, 4, none⟩) (sz0 _ _ _)).trans (by simp)
  have s4_1 : w1.frozen? ⟨w.heap.size + 1, 4, none⟩ = false := (hb.frozen (p := ⟨w.heap.size + 1, 4, none⟩) (sz1 _ _ _)).trans (by simp)
  have HZ : Hid (w.heap.size + 2 ≤ w1.heap.size) := by have := hb.size; first | exact Nat.le_trans (sz1 _ _ _) this | (rw [World.size_setCell] at this; exact Nat.le_trans HZp.out this)
  have hz : w.heap.size + 1 < w1.heap.size := HZ.out
  have HR0 := hid (hr.cov (Kd.covs kPush) (two_new (w := w) (sz1 _ _ _)))
  have HN0 := hid hn0
  have HE0 := hid he
  have HB1 : Hid (Below w.heap.size w (w1.setCell ⟨w.heap.size, 2, none⟩ (.slice a0 x.e.n c0))) := ((bl_alloc (bl_alloc (Below.refl w.heap.size w))).trans (hb.mono (Nat.le_of_lt (sz0 _ _ _)))).setCell (Nat.le_refl _) _
  have HZp := HZ
  clear hr hn0 he hb HC0
  go_wp2
  refine bodyPost_ret (v := .agg #[.int .i64 x.kind, .int .i64 x.n, .slice a0 x.e.n c0, .int .i64 x.yes, .int .i64 x.no]) (by simp [results, Tryz.results32, go_sem, *]) rfl ?_
  refine ⟨⟨x.kind, x.n, ⟨a0, x.e.n, c0⟩, L0, x.yes, x.no⟩, rfl, by rw [map_id_eq HE0.out]; rfl, kNode.cov (kNode.step ⟨⟨HI.out.1.1, HI.out.1.2.1, HN0.out, HI.out.1.2.2.2.1, HI.out.1.2.2.2.2⟩, HR0.out⟩ (two_abv (((((((Abv.refl _ _).put (by simp) _).put (by simp) _).put (by simp) _).put (by simp) _).put (by simp) _).put (by simp) _))) (two_old _ _), ?_⟩
  exact (((((HB1.out).setCell (Nat.le_succ _) _).setCell (Nat.le_succ _) _).setCell (Nat.le_succ _) _).setCell (Nat.le_succ _) _).setCell (Nat.le_succ _) _

set_option maxHeartbeats 4000000 in
set_option maxRecDepth 20000 in
theorem ownTable_any (x : TabD) (w : World) (hi : kTab.inn x w) (hn : x.keys.n ≤ 100000 ∧ x.acts.n ≤ 100000 ∧ x.args.n ≤ 100000) : Calls Tryz.prog 30 #[.agg #[.int .i64 x.kind, .slice x.keys.a x.keys.n x.keys.c, .slice x.acts.a x.acts.n x.acts.c, .int .i64 x.cap, .int .i64 x.dflt, .slice x.args.a x.args.n x.args.c]] w (OwnDone kTab TabD.p x w) := by
  have HC0 : Hid (∀ w', Below w.heap.size w w' → Calls Tryz.prog 53 #[.slice x.keys.a x.keys.n x.keys.c] w' (RowDone kRef id x.ks x.keys.n w')) := fun w' hb => (copied_ref x.keys x.ks w' (hi.2.1.step RefD.keeps hb) hi.1.2.1 hn.1).mono fun _ _ h => h.rows (kRef.inns (w := w) hi.2.1)
  have HC1 : Hid (∀ w', Below w.heap.size w w' → Calls Tryz.prog 24 #[.slice x.acts.a x.acts.n x.acts.c] w' (RowDone kInt id x.al x.acts.n w')) := fun w' hb => (copied_int x.acts x.al w' (hi.2.2.1.step hb) hi.1.2.2.1 hn.2.1).mono fun _ _ h => h.rows hi.2.2.1.2.1
  have HC2 : Hid (∀ w', Below w.heap.size w w' → Calls Tryz.prog 54 #[.slice x.args.a x.args.n x.args.c] w' (RowDone kNum id x.zs x.args.n w')) := fun w' hb => (copied_num x.args x.zs w' (hi.2.2.2.step hb) hi.1.2.2.2.2.2 hn.2.2).mono fun _ _ h => h.rows hi.2.2.2.2.1
  have HI := hid hi
  clear hi
  go_enter Tryz.func30, Tryz.ntmps30
  go_wp2_with fail
  refine (HC0.out _ (bl_alloc (bl_alloc (Below.refl _ _)))).mono ?_
  rintro e w1 ⟨a0, c0, L0, rfl, hr, hn0, he, hb⟩
  have p0_1 : w1.cell? ⟨w.heap.size, 0, none⟩ = some (.int .i64 x.kind) := (hb.cell (p := ⟨w.heap.size, 0, none⟩) (sz0 _ _ _)).trans (by simp)
  have q0_1 : w1.cell? ⟨w.heap.size + 1, 0, none⟩ = some (.int .i64 0) := (hb.cell (p := ⟨w.heap.size + 1, 0, none⟩) (sz1 _ _ _)).trans (by simp)
  have r0_1 : w1.frozen? ⟨w.heap.size, 0, none⟩ = false := (hb.frozen (p := ⟨w.heap.size, 0, none⟩) (sz0 _ _ _)).trans (by simp)
  have s0_1 : w1.frozen? ⟨w.heap.size + 1, 0, none⟩ = false := (hb.frozen (p := ⟨w.heap.size + 1, 0, none⟩) (sz1 _ _ _)).trans (by simp)
  have p1_1 : w1.cell? ⟨w.heap.size, 1, none⟩ = some (.slice x.keys.a x.keys.n x.keys.c) := (hb.cell (p := ⟨w.heap.size, 1, none⟩) (sz0 _ _ _)).trans (by simp)
  have q1_1 : w1.cell? ⟨w.heap.size + 1, 1, none⟩ = some (.slice none 0 0) := (hb.cell (p := ⟨w.heap.size + 1, 1, none⟩) (sz1 _ _ _)).trans (by simp)
  have r1_1 : w1.frozen? ⟨w.heap.size, 1, none⟩ = false := (hb.frozen (p := ⟨w.heap.size, 1, none⟩) (sz0 _ _ _)).trans (by simp)
  have s1_1 : w1.frozen? ⟨w.heap.size + 1, 1, none⟩ = false := (hb.frozen (p := ⟨w.heap.size + 1, 1, none⟩) (sz1 _ _ _)).trans (by simp)
  have p2_1 : w1.cell? ⟨w.heap.size, 2, none⟩ = some (.slice x.acts.a x.acts.n x.acts.c) := (hb.cell (p := ⟨w.heap.size, 2, none⟩) (sz0 _ _ _)).trans (by simp)
  have q2_1 : w1.cell? ⟨w.heap.size + 1, 2, none⟩ = some (.slice none 0 0) := (hb.cell (p := ⟨w.heap.size + 1, 2, none⟩) (sz1 _ _ _)).trans (by simp)
  have r2_1 : w1.frozen? ⟨w.heap.size, 2, none⟩ = false := (hb.frozen (p := ⟨w.heap.size, 2, none⟩) (sz0 _ _ _)).trans (by simp)
  have s2_1 : w1.frozen? ⟨w.heap.size + 1, 2, none⟩ = false := (hb.frozen (p := ⟨w.heap.size + 1, 2, none⟩) (sz1 _ _ _)).trans (by simp)
  have p3_1 : w1.cell? ⟨w.heap.size, 3, none⟩ = some (.int .i64 x.cap) := (hb.cell (p := ⟨w.heap.size, 3, none⟩) (sz0 _ _ _)).trans (by simp)
  have q3_1 : w1.cell? ⟨w.heap.size + 1, 3, none⟩ = some (.int .i64 0) := (hb.cell (p := ⟨w.heap.size + 1, 3, none⟩) (sz1 _ _ _)).trans (by simp)
  have r3_1 : w1.frozen? ⟨w.heap.size, 3, none⟩ = false := (hb.frozen (p := ⟨w.heap.size, 3, none⟩) (sz0 _ _ _)).trans (by simp)
  have s3_1 : w1.frozen? ⟨w.heap.size + 1, 3, none⟩ = false := (hb.frozen (p := ⟨w.heap.size + 1, 3, none⟩) (sz1 _ _ _)).trans (by simp)
  have p4_1 : w1.cell? ⟨w.heap.size, 4, none⟩ = some (.int .i64 x.dflt) := (hb.cell (p := ⟨w.heap.size, 4, none⟩) (sz0 _ _ _)).trans (by simp)
  have q4_1 : w1.cell? ⟨w.heap.size + 1, 4, none⟩ = some (.int .i64 0) := (hb.cell (p := ⟨w.heap.size + 1, 4, none⟩) (sz1 _ _ _)).trans (by simp)
  have r4_1 : w1.frozen? ⟨w.heap.size, 4, none⟩ = false := (hb.frozen (p := ⟨w.heap.size, 4, none⟩) (sz0 _ _ _)).trans (by simp)
  have s4_1 : w1.frozen? ⟨w.heap.size + 1, 4, none⟩ = false := (hb.frozen (p := ⟨w.heap.size + 1, 4, none⟩) (sz1 _ _ _)).trans (by simp)
  have p5_1 : w1.cell? ⟨w.heap.size, 5, none⟩ = some (.slice x.args.a x.args.n x.args.c) := (hb.cell (p := ⟨w.heap.size, 5, none⟩) (sz0 _ _ _)).trans (by simp)
  have q5_1 : w1.cell? ⟨w.heap.size + 1, 5, none⟩ = some (.slice none 0 0) := (hb.cell (p := ⟨w.heap.size + 1, 5, none⟩) (sz1 _ _ _)).trans (by simp)
  have r5_1 : w1.frozen? ⟨w.heap.size, 5, none⟩ = false := (hb.frozen (p := ⟨w.heap.size, 5, none⟩) (sz0 _ _ _)).trans (by simp)
  have s5_1 : w1.frozen? ⟨w.heap.size + 1, 5, none⟩ = false := (hb.frozen (p := ⟨w.heap.size + 1, 5, none⟩) (sz1 _ _ _)).trans (by simp)
  have HZ : Hid (w.heap.size + 2 ≤ w1.heap.size) := by have := hb.size; first | exact Nat.le_trans (sz1 _ _ _) this | (rw [World.size_setCell] at this; exact Nat.le_trans HZp.out this)
  have hz : w.heap.size + 1 < w1.heap.size := HZ.out
  have HR0 := hid (hr.cov (Kd.covs kRef) (two_new (w := w) (sz1 _ _ _)))
  have HN0 := hid hn0
  have HE0 := hid he
  have HB1 : Hid (Below w.heap.size w (w1.setCell ⟨w.heap.size, 1, none⟩ (.slice a0 x.keys.n c0))) := ((bl_alloc (bl_alloc (Below.refl w.heap.size w))).trans (hb.mono (Nat.le_of_lt (sz0 _ _ _)))).setCell (Nat.le_refl _) _
  have HZp := HZ
  clear hr hn0 he hb HC0
  have hzp := hz
  clear hz
  go_wp2_with fail
  refine (HC1.out _ HB1.out).mono ?_
  rintro e w2 ⟨a1, c1, L1, rfl, hr, hn0, he, hb⟩
  have p0_2 : w2.cell? ⟨w.heap.size, 0, none⟩ = some (.int .i64 x.kind) := (hb.cell (p := ⟨w.heap.size, 0, none⟩) (by rw [World.size_setCell]; show w.heap.size < _; omega)).trans (((World.cell?_setCell_other _ _ _ _ (by simp)).trans p0_1))
  have q0_2 : w2.cell? ⟨w.heap.size + 1, 0, none⟩ = some (.int .i64 0) := (hb.cell (p := ⟨w.heap.size + 1, 0, none⟩) (by rw [World.size_setCell]; show w.heap.size + 1 < _; omega)).trans ((World.cell?_setCell_other _ _ _ _ (by simp)).trans q0_1)
  have r0_2 : w2.frozen? ⟨w.heap.size, 0, none⟩ = false := (hb.frozen (p := ⟨w.heap.size, 0, none⟩) (by rw [World.size_setCell]; show w.heap.size < _; omega)).trans ((World.frozen?_setCell _ _ _ _).trans r0_1)
  have s0_2 : w2.frozen? ⟨w.heap.size + 1, 0, none⟩ = false := (hb.frozen (p := ⟨w.heap.size + 1, 0, none⟩) (by rw [World.size_setCell]; show w.heap.size + 1 < _; omega)).trans ((World.frozen?_setCell _ _ _ _).trans s0_1)
  have p1_2 : w2.cell? ⟨w.heap.size, 1, none⟩ = some (.slice a0 x.keys.n c0) := (hb.cell (p := ⟨w.heap.size, 1, none⟩) (by rw [World.size_setCell]; show w.heap.size < _; omega)).trans ((World.cell?_setCell_same _ _ _ p1_1))
  have q1_2 : w2.cell? ⟨w.heap.size + 1, 1, none⟩ = some (.slice none 0 0) := (hb.cell (p := ⟨w.heap.size + 1, 1, none⟩) (by rw [World.size_setCell]; show w.heap.size + 1 < _; omega)).trans ((World.cell?_setCell_other _ _ _ _ (by simp)).trans q1_1)
  have r1_2 : w2.frozen? ⟨w.heap.size, 1, none⟩ = false := (hb.frozen (p := ⟨w.heap.size, 1, none⟩) (by rw [World.size_setCell]; show w.heap.size < _; omega)).trans ((World.frozen?_setCell _ _ _ _).trans r1_1)
  have s1_2 : w2.frozen? ⟨w.heap.size + 1, 1, none⟩ = false := (hb.frozen (p := ⟨w.heap.size + 1, 1, none⟩) (by rw [World.size_setCell]; show w.heap.size + 1 < _; omega)).trans ((World.frozen?_setCell _ _ _ _).trans s1_1)
  have p2_2 : w2.cell? ⟨w.heap.size, 2, none⟩ = some (.slice x.acts.a x.acts.n x.acts.c) := (hb.cell (p := ⟨w.heap.size, 2, none⟩) (by rw [World.size_setCell]; show w.heap.size < _; omega)).trans (((World.cell?_setCell_other _ _ _ _ (by simp)).trans p2_1))
  have q2_2 : w2.cell? ⟨w.heap.size + 1, 2, none⟩ = some (.slice none 0 0) := (hb.cell (p := ⟨w.heap.size + 1, 2, none⟩) (by rw [World.size_setCell]; show w.heap.size + 1 < _; omega)).trans ((World.cell?_setCell_other _ _ _ _ (by simp)).trans q2_1)
  have r2_2 : w2.frozen? ⟨w.heap.size, 2, none⟩ = false := (hb.frozen (p := ⟨w.heap.size, 2, none⟩) (by rw [World.size_setCell]; show w.heap.size < _; omega)).trans ((World.frozen?_setCell _ _ _ _).trans r2_1)
  have s2_2 : w2.frozen? ⟨w.heap.size + 1, 2, none⟩ = false := (hb.frozen (p := ⟨w.heap.size + 1, 2, none⟩) (by rw [World.size_setCell]; show w.heap.size + 1 < _; omega)).trans ((World.frozen?_setCell _ _ _ _).trans s2_1)
  have p3_2 : w2.cell? ⟨w.heap.size, 3, none⟩ = some (.int .i64 x.cap) := (hb.cell (p := ⟨w.heap.size, 3, none⟩) (by rw [World.size_setCell]; show w.heap.size < _; omega)).trans (((World.cell?_setCell_other _ _ _ _ (by simp)).trans p3_1))
  have q3_2 : w2.cell? ⟨w.heap.size + 1, 3, none⟩ = some (.int .i64 0) := (hb.cell (p := ⟨w.heap.size + 1, 3, none⟩) (by rw [World.size_setCell]; show w.heap.size + 1 < _; omega)).trans ((World.cell?_setCell_other _ _ _ _ (by simp)).trans q3_1)
  have r3_2 : w2.frozen? ⟨w.heap.size, 3, none⟩ = false := (hb.frozen (p := ⟨w.heap.size, 3, none⟩) (by rw [World.size_setCell]; show w.heap.size < _; omega)).trans ((World.frozen?_setCell _ _ _ _).trans r3_1)
  have s3_2 : w2.frozen? ⟨w.heap.size + 1, 3, none⟩ = false := (hb.frozen (p := ⟨w.heap.size + 1, 3, none⟩) (by rw [World.size_setCell]; show w.heap.size + 1 < _; omega)).trans ((World.frozen?_setCell _ _ _ _).trans s3_1)
  have p4_2 : w2.cell? ⟨w.heap.size, 4, none⟩ = some (.int .i64 x.dflt) := (hb.cell (p := ⟨w.heap.size, 4, none⟩) (by rw [World.size_setCell]; show w.heap.size < _; omega)).trans (((World.cell?_setCell_other _ _ _ _ (by simp)).trans p4_1))
  have q4_2 : w2.cell? ⟨w.heap.size + 1, 4, none⟩ = some (.int .i64 0) := (hb.cell (p := ⟨w.heap.size + 1, 4, none⟩) (by rw [World.size_setCell]; show w.heap.size + 1 < _; omega)).trans ((World.cell?_setCell_other _ _ _ _ (by simp)).trans q4_1)
  have r4_2 : w2.frozen? ⟨w.heap.size, 4, none⟩ = false := (hb.frozen (p := ⟨w.heap.size, 4, none⟩) (by rw [World.size_setCell]; show w.heap.size < _; omega)).trans ((World.frozen?_setCell _ _ _ _).trans r4_1)
  have s4_2 : w2.frozen? ⟨w.heap.size + 1, 4, none⟩ = false := (hb.frozen (p := ⟨w.heap.size + 1, 4, none⟩) (by rw [World.size_setCell]; show w.heap.size + 1 < _; omega)).trans ((World.frozen?_setCell _ _ _ _).trans s4_1)
  have p5_2 : w2.cell? ⟨w.heap.size, 5, none⟩ = some (.slice x.args.a x.args.n x.args.c) := (hb.cell (p := ⟨w.heap.size, 5, none⟩) (by rw [World.size_setCell]; show w.heap.size < _; omega)).trans (((World.cell?_setCell_other _ _ _ _ (by simp)).trans p5_1))
  have q5_2 : w2.cell? ⟨w.heap.size + 1, 5, none⟩ = some (.slice none 0 0) := (hb.cell (p := ⟨w.heap.size + 1, 5, none⟩) (by rw [World.size_setCell]; show w.heap.size + 1 < _; omega)).trans ((World.cell?_setCell_other _ _ _ _ (by simp)).trans q5_1)
  have r5_2 : w2.frozen? ⟨w.heap.size, 5, none⟩ = false := (hb.frozen (p := ⟨w.heap.size, 5, none⟩) (by rw [World.size_setCell]; show w.heap.size < _; omega)).trans ((World.frozen?_setCell _ _ _ _).trans r5_1)
  have s5_2 : w2.frozen? ⟨w.heap.size + 1, 5, none⟩ = false := (hb.frozen (p := ⟨w.heap.size + 1, 5, none⟩) (by rw [World.size_setCell]; show w.heap.size + 1 < _; omega)).trans ((World.frozen?_setCell _ _ _ _).trans s5_1)
  have HZ : Hid (w.heap.size + 2 ≤ w2.heap.size) := by have := hb.size; first | exact Nat.le_trans (sz1 _ _ _) this | (rw [World.size_setCell] at this; exact Nat.le_trans HZp.out this)
  have hz : w.heap.size + 1 < w2.heap.size := HZ.out
  have HR0 := hid ((HR0.out.step (Kd.keeps kRef) (two_abv ((Abv.refl _ _).put (by simp) _))).step (Kd.keeps kRef) (mask_step hb))
  have HR1 := hid (hr.cov (Kd.covs kInt) (two_new (w := w) (by rw [World.size_setCell]; exact HZp.out)))
  have HN1 := hid hn0
  have HE1 := hid he
  have HB2 : Hid (Below w.heap.size w (w2.setCell ⟨w.heap.size, 2, none⟩ (.slice a1 x.acts.n c1))) := ((HB1.out).trans (hb.mono (by rw [World.size_setCell]; have := HZp.out; omega))).setCell (Nat.le_refl _) _
  have HZp := HZ
  clear hr hn0 he hb HC1 hzp p0_1 q0_1 r0_1 s0_1 p1_1 q1_1 r1_1 s1_1 p2_1 q2_1 r2_1 s2_1 p3_1 q3_1 r3_1 s3_1 p4_1 q4_1 r4_1 s4_1 p5_1 q5_1 r5_1 s5_1
  have hzp := hz
  clear hz
  go_wp2_with fail
  refine (HC2.out _ HB2.out).mono ?_
  rintro e w3 ⟨a2, c2, L2, rfl, hr, hn0, he, hb⟩
  have p0_3 : w3.cell? ⟨w.heap.size, 0, none⟩ = some (.int .i64 x.kind) := (hb.cell (p := ⟨w.heap.size, 0, none⟩) (by rw [World.size_setCell]; show w.heap.size < _; omega)).trans (((World.cell?_setCell_other _ _ _ _ (by simp)).trans p0_2))
  have q0_3 : w3.cell? ⟨w.heap.size + 1, 0, none⟩ = some (.int .i64 0) := (hb.cell (p := ⟨w.heap.size + 1, 0, none⟩) (by rw [World.size_setCell]; show w.heap.size + 1 < _; omega)).trans ((World.cell?_setCell_other _ _ _ _ (by simp)).trans q0_2)
  have r0_3 : w3.frozen? ⟨w.heap.size, 0, none⟩ = false := (hb.frozen (p := ⟨w.heap.size, 0, none⟩) (by rw [World.size_setCell]; show w.heap.size < _; omega)).trans ((World.frozen?_setCell _ _ _ _).trans r0_2)
  have s0_3 : w3.frozen? ⟨w.heap.size + 1, 0, none⟩ = false := (hb.frozen (p := ⟨w.heap.size + 1, 0, none⟩) (by rw [World.size_setCell]; show w.heap.size + 1 < _; omega)).trans ((World.frozen?_setCell _ _ _ _).trans s0_2)
  have p1_3 : w3.cell? ⟨w.heap.size, 1, none⟩ = some (.slice a0 x.keys.n c0) := (hb.cell (p := ⟨w.heap.size, 1, none⟩) (by rw [World.size_setCell]; show w.heap.size < _; omega)).trans (((World.cell?_setCell_other _ _ _ _ (by simp)).trans p1_2))
  have q1_3 : w3.cell? ⟨w.heap.size + 1, 1, none⟩ = some (.slice none 0 0) := (hb.cell (p := ⟨w.heap.size + 1, 1, none⟩) (by rw [World.size_setCell]; show w.heap.size + 1 < _; omega)).trans ((World.cell?_setCell_other _ _ _ _ (by simp)).trans q1_2)
  have r1_3 : w3.frozen? ⟨w.heap.size, 1, none⟩ = false := (hb.frozen (p := ⟨w.heap.size, 1, none⟩) (by rw [World.size_setCell]; show w.heap.size < _; omega)).trans ((World.frozen?_setCell _ _ _ _).trans r1_2)
  have s1_3 : w3.frozen? ⟨w.heap.size + 1, 1, none⟩ = false := (hb.frozen (p := ⟨w.heap.size + 1, 1, none⟩) (by rw [World.size_setCell]; show w.heap.size + 1 < _; omega)).trans ((World.frozen?_setCell _ _ _ _).trans s1_2)
  have p2_3 : w3.cell? ⟨w.heap.size, 2, none⟩ = some (.slice a1 x.acts.n c1) := (hb.cell (p := ⟨w.heap.size, 2, none⟩) (by rw [World.size_setCell]; show w.heap.size < _; omega)).trans ((World.cell?_setCell_same _ _ _ p2_2))
  have q2_3 : w3.cell? ⟨w.heap.size + 1, 2, none⟩ = some (.slice none 0 0) := (hb.cell (p := ⟨w.heap.size + 1, 2, none⟩) (by rw [World.size_setCell]; show w.heap.size + 1 < _; omega)).trans ((World.cell?_setCell_other _ _ _ _ (by simp)).trans q2_2)
  have r2_3 : w3.frozen? ⟨w.heap.size, 2, none⟩ = false := (hb.frozen (p := ⟨w.heap.size, 2, none⟩) (by rw [World.size_setCell]; show w.heap.size < _; omega)).trans ((World.frozen?_setCell _ _ _ _).trans r2_2)
  have s2_3 : w3.frozen? ⟨w.heap.size + 1, 2, none⟩ = false := (hb.frozen (p := ⟨w.heap.size + 1, 2, none⟩) (by rw [World.size_setCell]; show w.heap.size + 1 < _; omega)).trans ((World.frozen?_setCell _ _ _ _).trans s2_2)
  have p3_3 : w3.cell? ⟨w.heap.size, 3, none⟩ = some (.int .i64 x.cap) := (hb.cell (p := ⟨w.heap.size, 3, none⟩) (by rw [World.size_setCell]; show w.heap.size < _; omega)).trans (((World.cell?_setCell_other _ _ _ _ (by simp)).trans p3_2))
  have q3_3 : w3.cell? ⟨w.heap.size + 1, 3, none⟩ = some (.int .i64 0) := (hb.cell (p := ⟨w.heap.size + 1, 3, none⟩) (by rw [World.size_setCell]; show w.heap.size + 1 < _; omega)).trans ((World.cell?_setCell_other _ _ _ _ (by simp)).trans q3_2)
  have r3_3 : w3.frozen? ⟨w.heap.size, 3, none⟩ = false := (hb.frozen (p := ⟨w.heap.size, 3, none⟩) (by rw [World.size_setCell]; show w.heap.size < _; omega)).trans ((World.frozen?_setCell _ _ _ _).trans r3_2)
  have s3_3 : w3.frozen? ⟨w.heap.size + 1, 3, none⟩ = false := (hb.frozen (p := ⟨w.heap.size + 1, 3, none⟩) (by rw [World.size_setCell]; show w.heap.size + 1 < _; omega)).trans ((World.frozen?_setCell _ _ _ _).trans s3_2)
  have p4_3 : w3.cell? ⟨w.heap.size, 4, none⟩ = some (.int .i64 x.dflt) := (hb.cell (p := ⟨w.heap.size, 4, none⟩) (by rw [World.size_setCell]; show w.heap.size < _; omega)).trans (((World.cell?_setCell_other _ _ _ _ (by simp)).trans p4_2))
  have q4_3 : w3.cell? ⟨w.heap.size + 1, 4, none⟩ = some (.int .i64 0) := (hb.cell (p := ⟨w.heap.size + 1, 4, none⟩) (by rw [World.size_setCell]; show w.heap.size + 1 < _; omega)).trans ((World.cell?_setCell_other _ _ _ _ (by simp)).trans q4_2)
  have r4_3 : w3.frozen? ⟨w.heap.size, 4, none⟩ = false := (hb.frozen (p := ⟨w.heap.size, 4, none⟩) (by rw [World.size_setCell]; show w.heap.size < _; omega)).trans ((World.frozen?_setCell _ _ _ _).trans r4_2)
  have s4_3 : w3.frozen? ⟨w.heap.size + 1, 4, none⟩ = false := (hb.frozen (p := ⟨w.heap.size + 1, 4, none⟩) (by rw [World.size_setCell]; show w.heap.size + 1 < _; omega)).trans ((World.frozen?_setCell _ _ _ _).trans s4_2)
  have p5_3 : w3.cell? ⟨w.heap.size, 5, none⟩ = some (.slice x.args.a x.args.n x.args.c) := (hb.cell (p := ⟨w.heap.size, 5, none⟩) (by rw [World.size_setCell]; show w.heap.size < _; omega)).trans (((World.cell?_setCell_other _ _ _ _ (by simp)).trans p5_2))
  have q5_3 : w3.cell? ⟨w.heap.size + 1, 5, none⟩ = some (.slice none 0 0) := (hb.cell (p := ⟨w.heap.size + 1, 5, none⟩) (by rw [World.size_setCell]; show w.heap.size + 1 < _; omega)).trans ((World.cell?_setCell_other _ _ _ _ (by simp)).trans q5_2)
  have r5_3 : w3.frozen? ⟨w.heap.size, 5, none⟩ = false := (hb.frozen (p := ⟨w.heap.size, 5, none⟩) (by rw [World.size_setCell]; show w.heap.size < _; omega)).trans ((World.frozen?_setCell _ _ _ _).trans r5_2)
  have s5_3 : w3.frozen? ⟨w.heap.size + 1, 5, none⟩ = false := (hb.frozen (p := ⟨w.heap.size + 1, 5, none⟩) (by rw [World.size_setCell]; show w.heap.size + 1 < _; omega)).trans ((World.frozen?_setCell _ _ _ _).trans s5_2)
  have HZ : Hid (w.heap.size + 2 ≤ w3.heap.size) := by have := hb.size; first | exact Nat.le_trans (sz1 _ _ _) this | (rw [World.size_setCell] at this; exact Nat.le_trans HZp.out this)
  have hz : w.heap.size + 1 < w3.heap.size := HZ.out
  have HR0 := hid ((HR0.out.step (Kd.keeps kRef) (two_abv ((Abv.refl _ _).put (by simp) _))).step (Kd.keeps kRef) (mask_step hb))
  have HR1 := hid ((HR1.out.step (Kd.keeps kInt) (two_abv ((Abv.refl _ _).put (by simp) _))).step (Kd.keeps kInt) (mask_step hb))
  have HR2 := hid (hr.cov (Kd.covs kNum) (two_new (w := w) (by rw [World.size_setCell]; exact HZp.out)))
  have HN2 := hid hn0
  have HE2 := hid he
  have HB3 : Hid (Below w.heap.size w (w3.setCell ⟨w.heap.size, 5, none⟩ (.slice a2 x.args.n c2))) := ((HB2.out).trans (hb.mono (by rw [World.size_setCell]; have := HZp.out; omega))).setCell (Nat.le_refl _) _
  have HZp := HZ
  clear hr hn0 he hb HC2 hzp p0_2 q0_2 r0_2 s0_2 p1_2 q1_2 r1_2 s1_2 p2_2 q2_2 r2_2 s2_2 p3_2 q3_2 r3_2 s3_2 p4_2 q4_2 r4_2 s4_2 p5_2 q5_2 r5_2 s5_2
  go_wp2
  refine bodyPost_ret (v := .agg #[.int .i64 x.kind, .slice a0 x.keys.n c0, .slice a1 x.acts.n c1, .int .i64 x.cap, .int .i64 x.dflt, .slice a2 x.args.n c2]) (by simp [results, Tryz.results30, go_sem, *]) rfl ?_
  refine ⟨⟨x.kind, ⟨a0, x.keys.n, c0⟩, L0, ⟨a1, x.acts.n, c1⟩, L1, x.cap, x.dflt, ⟨a2, x.args.n, c2⟩, L2⟩, rfl, by rw [map_id_eq HE0.out, map_id_eq HE1.out, map_id_eq HE2.out]; rfl, kTab.cov (kTab.step ⟨⟨HI.out.1.1, HN0.out, HN1.out, HI.out.1.2.2.2.1, HI.out.1.2.2.2.2.1, HN2.out⟩, HR0.out, row_hasI HR1.out, row_hasU HR2.out⟩ (two_abv ((((((((Abv.refl _ _).put (by simp) _).put (by simp) _).put (by simp) _).put (by simp) _).put (by simp) _).put (by simp) _).put (by simp) _))) (two_old _ _), ?_⟩
  exact ((((((HB3.out).setCell (Nat.le_succ _) _).setCell (Nat.le_succ _) _).setCell (Nat.le_succ _) _).setCell (Nat.le_succ _) _).setCell (Nat.le_succ _) _).setCell (Nat.le_succ _) _
end Go.Proofs.YtajelgjbgehahaaGreat

namespace Go.Proofs.YtajelgjbgehahaaGreat
open Go.RowKit

/-- cells written one behind the other -/
def setsAt (w : World) (g : Nat) : Nat → List Value → World
  | _, [] => w
  | o, u :: us => setsAt (w.setCell ⟨g, o, none⟩ u) g (o + 1) us

def setAll (xs : List Value) : Nat → List Value → List Value
  | _, [] => xs
  | o, u :: us => setAll (xs.set o u) (o + 1) us

theorem sets_owns {base n cap k g : Nat} {T : TypeId} {us : List Value} : ∀ {w : World} {xs : List Value} {o : Nat}, w.ownsRow base T k (.slice (some ⟨g, 0, none⟩) n cap) n xs → (setsAt w g o us).ownsRow base T k (.slice (some ⟨g, 0, none⟩) n cap) n (setAll xs o us) ∧ w.grownBy (setsAt w g o us) (some g) := by
  induction us with
  | nil => intro w xs o h; exact ⟨h, rfl, rfl, rfl, Nat.le_refl _, fun _ _ _ => rfl⟩
  | cons u us ih =>
    intro w xs o h
    obtain ⟨h1, h2⟩ := h.stored o u
    obtain ⟨h3, h4⟩ := ih h1 (o := o + 1)
    refine ⟨h3, h4.os.trans h2.os, h4.tape.trans h2.tape, h4.output.trans h2.output, Nat.le_trans h2.size h4.size, fun j hj hne => ?_⟩
    exact (h4.block j (Nat.lt_of_lt_of_le hj h2.size) hne).trans (h2.block j hj hne)

theorem setAll_at (us : List Value) : ∀ (xs : List Value) (o j : Nat), o + us.length ≤ xs.length → (setAll xs o us)[j]? = if o ≤ j ∧ j < o + us.length then us[j - o]? else xs[j]? := by
  induction us with
  | nil => intro xs o j _; rw [if_neg (by simp only [List.length_nil]; omega)]; rfl
  | cons u us ih =>
    intro xs o j h
    simp only [List.length_cons] at h
    show (setAll (xs.set o u) (o + 1) us)[j]? = _
    rw [ih _ _ _ (by rw [List.length_set]; omega), List.getElem?_set]
    by_cases h1 : o + 1 ≤ j ∧ j < o + 1 + us.length
    · rw [if_pos h1, if_pos ⟨by omega, by simp only [List.length_cons]; omega⟩, show j - o = (j - (o + 1)) + 1 by omega]
      rfl
    · rw [if_neg h1]
      by_cases h2 : o = j
      · subst h2
        rw [if_pos rfl, if_pos (show o < xs.length by omega), if_pos (show o ≤ o ∧ o < o + (u :: us).length from ⟨Nat.le_refl _, by simp only [List.length_cons]; omega⟩), Nat.sub_self]
        rfl
      · rw [if_neg h2, if_neg (by simp only [List.length_cons]; omega)]

theorem setAll_len (us : List Value) : ∀ (xs : List Value) (o : Nat), (setAll xs o us).length = xs.length := by
  induction us with
  | nil => intro xs o; rfl
  | cons u us ih => intro xs o; show (setAll (xs.set o u) (o + 1) us).length = _; rw [ih, List.length_set]

theorem Kd.flat_set {α : Type} (K : Kd α) {L : List α} {i : Nat} (x' : α) (hi : i < L.length) : setAll (L.flatMap K.cells) (i * K.k) (K.cells x') = (L.set i x').flatMap K.cells := by
  have hle : i * K.k + K.k ≤ L.length * K.k := by
    have : (i + 1) * K.k ≤ L.length * K.k := Nat.mul_le_mul_right _ hi
    rw [Nat.add_mul] at this
    omega
  apply List.ext_getElem?
  intro j
  rw [setAll_at _ _ _ _ (by rw [K.len, K.flat_len]; exact hle), K.len]
  by_cases h : i * K.k ≤ j ∧ j < i * K.k + K.k
  · rw [if_pos h]
    have hr : j - i * K.k < (K.cells x').length := by rw [K.len]; omega
    rw [List.getElem?_eq_getElem hr]
    have := K.flat_at (S := L.set i x') (i := i) (r := j - i * K.k) (s := x') (by rw [List.getElem?_set_self hi]) (List.getElem?_eq_getElem hr)
    rw [← this]
    congr 1
    omega
  · rw [if_neg h]
    by_cases hj : j < L.length * K.k
    · have hjl : j < (L.flatMap K.cells).length := by rw [K.flat_len]; exact hj
      obtain ⟨i', r, s, h1, h2, h3⟩ := K.flat_of (List.getElem?_eq_getElem hjl)
      have hrk : r < K.k := by have := (List.getElem?_eq_some_iff.1 h2).1; rwa [K.len] at this
      have hne : i ≠ i' := by
        rintro rfl
        exact h ⟨by omega, by omega⟩
      subst h3
      rw [List.getElem?_eq_getElem hjl]
      exact (K.flat_at (S := L.set i x') (by rw [List.getElem?_set_ne hne]; exact h1) h2).symm
    · rw [List.getElem?_eq_none (by rw [K.flat_len]; omega), List.getElem?_eq_none (by rw [K.flat_len, List.length_set]; omega)]

/-- what was there, and the row's block -/
abbrev rowF (w : World) (a : Option Addr) : Nat → Prop := fun b => b < w.heap.size ∨ (Value.slice a 0 0).ownBlock = some b

/-- a list of which the first i are in memory of their own -/
structure EachAt {α β : Type} (K : Kd α) (f : α → β) (T : TypeId) (S : List α) (n : Nat) (w : World) (a : Option Addr) (c i : Nat) (L : List α) (wr : World) : Prop where
  own : wr.ownsRow w.heap.size T K.k (.slice a n c) n (L.flatMap K.cells)
  len : L.length = n
  done : ∀ (j : Nat) (x : α), j < i → L[j]? = some x → K.inn x (mask (rowF w a) (fun _ => Classical.propDecidable _) wr)
  eqv : L.map f = S.map f
  rest : ∀ j, i ≤ j → L[j]? = S[j]?
  bel : Below w.heap.size w wr

theorem owns_belowK {w w' : World} {base n k : Nat} {T : TypeId} {v : Value} {xs : List Value} (h : w.ownsRow base T k v n xs) (b : Below w.heap.size w w') : w'.ownsRow base T k v n xs :=
  h.kept (row := none) ⟨b.os, b.tape, b.output, b.size, fun k hk _ => b.block k hk⟩ (by cases v.ownBlock <;> simp)

theorem EachAt.next {α β : Type} {K : Kd α} {f : α → β} {T : TypeId} {S : List α} {n : Nat} {w : World} {g c i : Nat} {L : List α} {wr W w1 : World} {x x' : α} (h : EachAt K f T S n w (some ⟨g, 0, none⟩) c i L wr) (hi : i < n) (hx : L[i]? = some x)
    (hW : Below wr.heap.size wr W) (hb : Below W.heap.size W w1) (hf : f x' = f x) (hin : K.inn x' (mask (old W) (fun _ => Classical.propDecidable _) w1)) : EachAt K f T S n w (some ⟨g, 0, none⟩) c (i + 1) (L.set i x') (setsAt w1 g (i * K.k) (K.cells x')) := by
  have hg := h.own.lt g rfl
  have hbb : Below wr.heap.size wr w1 := bl_step hW hb
  have h1 := owns_belowK h.own hbb
  obtain ⟨h2, h3⟩ := sets_owns (o := i * K.k) (us := K.cells x') h1
  rw [K.flat_set x' (by rw [h.len]; exact hi)] at h2
  have hkeep : Below (mask (rowF w (some ⟨g, 0, none⟩)) (fun _ => Classical.propDecidable _) wr).heap.size (mask (rowF w (some ⟨g, 0, none⟩)) (fun _ => Classical.propDecidable _) wr) (mask (rowF w (some ⟨g, 0, none⟩)) (fun _ => Classical.propDecidable _) (setsAt w1 g (i * K.k) (K.cells x'))) :=
    mask_below (h3.os.trans hbb.os) (h3.tape.trans hbb.tape) (h3.output.trans hbb.output) (Nat.le_trans hbb.size h3.size) (fun _ h => h) fun k hk hF => ⟨hF, (h3.block k (Nat.lt_of_lt_of_le hk hbb.size) (fun e => hF (.inr e.symm))).trans (hbb.block k hk)⟩
  refine ⟨h2, by rw [List.length_set]; exact h.len, fun j y hj hy => ?_, ?_, fun j hj => ?_, ?_⟩
  · by_cases e : j = i
    · subst e
      rw [List.getElem?_set_self (by rw [h.len]; exact hi)] at hy
      cases hy
      have hnew : Below (mask (old W) (fun _ => Classical.propDecidable _) w1).heap.size (mask (old W) (fun _ => Classical.propDecidable _) w1) (mask (old W) (fun _ => Classical.propDecidable _) (setsAt w1 g (j * K.k) (K.cells x'))) :=
        mask_below h3.os h3.tape h3.output h3.size (fun _ h => h) fun k hk hF => ⟨hF, h3.block k hk (fun e => hF (by
          have e' : k = g := Option.some.inj e
          have := hW.size
          show k < W.heap.size
          omega))⟩
      refine K.cov (K.step hin hnew) (cov_less _ fun b hb => ?_)
      have := hW.size
      have := h.bel.size
      rcases hb with hb | hb
      · show b < W.heap.size
        omega
      · have e' : g = b := Option.some.inj hb
        show b < W.heap.size
        omega
    · rw [List.getElem?_set_ne (by omega)] at hy
      exact K.step (h.done j y (by omega) hy) hkeep
  · rw [List.map_set, hf, ← h.eqv]
    apply List.ext_getElem?
    intro j
    rw [List.getElem?_set]
    by_cases e : i = j
    · subst e
      rw [if_pos rfl, List.getElem?_map, hx]
      simp [h.len, hi]
    · rw [if_neg e]
  · rw [List.getElem?_set_ne (by omega)]
    exact h.rest j (by omega)
  · exact (h.bel.trans (hbb.mono h.bel.size)).grown h3 (Nat.le_trans h.bel.size hbb.size) fun k hk => by cases hk; exact hg.1

theorem EachAt.end {α β : Type} {K : Kd α} {f : α → β} {T : TypeId} {S : List α} {n : Nat} {w : World} {a : Option Addr} {c i : Nat} {L : List α} {wr : World} (h : EachAt K f T S n w a c i L wr) (hi : n ≤ i) : RowDone K f S n w (.returned (.slice a n c)) wr := by
  refine ⟨a, c, L, rfl, ?_, Kd.own_nil0 h.own, h.eqv, h.bel⟩
  refine fresh_row K h.own fun s hs => ?_
  obtain ⟨j, hj, rfl⟩ := List.getElem_of_mem hs
  exact K.cov (h.done j _ (by have := h.len; omega) (List.getElem?_eq_getElem hj)) (cov_less _ fun b hb => .inl hb)

theorem EachAt.start {α β : Type} {K : Kd α} {f : α → β} {T : TypeId} {S : List α} {n : Nat} {w : World} {a : Option Addr} {c : Nat} {w1 : World} (ho : w1.ownsRow w.heap.size T K.k (.slice a n c) n (S.flatMap K.cells)) (hl : S.length = n) (hb : Below w.heap.size w w1) : EachAt K f T S n w a c 0 S w1 :=
  ⟨ho, hl, fun _ _ hj => absurd hj (Nat.not_lt_zero _), rfl, fun _ _ => rfl, hb⟩

/-- the thing at i, and where it lies -/
theorem EachAt.at {α β : Type} {K : Kd α} {f : α → β} {T : TypeId} {S : List α} {n : Nat} {w : World} {a : Option Addr} {c i : Nat} {L : List α} {wr : World} (h : EachAt K f T S n w a c i L wr) (hi : i < n) : ∃ g x, a = some ⟨g, 0, none⟩ ∧ L[i]? = some x ∧ S[i]? = some x ∧ w.heap.size ≤ g ∧ g < wr.heap.size ∧ (∀ j u, (K.cells x)[j]? = some u → wr.cell? ⟨g, i * K.k + j, none⟩ = some u) ∧ ∀ j, wr.frozen? ⟨g, j, none⟩ = false := by
  have hl : i < L.length := by rw [h.len]; exact hi
  rcases h.own.2 with ⟨_, e⟩ | ⟨g, cap, cur, e, _⟩
  · omega
  · simp only [Value.slice.injEq] at e
    obtain ⟨rfl, _, rfl⟩ := e
    obtain ⟨h1, h2⟩ := h.own.lt g rfl
    have hx := List.getElem?_eq_getElem hl
    refine ⟨g, _, rfl, hx, by rw [← h.rest i (Nat.le_refl _)]; exact hx, h1, h2, fun j u hu => ?_, fun j => h.own.frozenAt j⟩
    have hr : j < K.k := by have := (List.getElem?_eq_some_iff.1 hu).1; rwa [K.len] at this
    rw [h.own.cellAt _ ?_, K.flat_at hx hu]
    have : (i + 1) * K.k ≤ n * K.k := Nat.mul_le_mul_right _ (by omega)
    rw [Nat.add_mul] at this
    omega

set_option maxHeartbeats 4000000 in
set_option maxRecDepth 20000 in
theorem each_head (s : QSl) (S : List HeadD) (w : World) (h : QRow 1 HeadD.lie w s S) (h0 : s.nil0) (hn : s.n ≤ 100000) (hb : ∀ x ∈ S, x.w.n ≤ 100000) : Calls Tryz.prog 22 #[.slice s.a s.n s.c, .func (.func 23) #[] #[]] w (RowDone kHead HeadD.ws S s.n w) := by
  have HC := hid (copied_head s S w h h0 hn)
  have HIN := hid (kHead.inns h)
  have HL := hid h.1
  have HB := hid hb
  clear h h0 hb
  go_enter Tryz.func22, Tryz.ntmps22
  go_wp2_with fail
  refine HC.out.mono ?_
  rintro e w1 ⟨a, c, rfl, ho, hb1⟩
  have ST : Hid (EachAt kHead HeadD.ws 63 S s.n w a c 0 S w1) := EachAt.start ho HL.out hb1
  clear ho hb1 HC
  go_wp2
  go_loopw [12, 6, 7] (fun q _ _ wr => ∃ (i : Nat) (L : List HeadD), i ≤ s.n ∧ q = .int .i64 i ∧ Hid (EachAt kHead HeadD.ws 63 S s.n w a c i L wr)) (fun q _ _ _ => s.n - (intOf q).toNat)
  case atStart => exact ⟨0, S, Nat.zero_le _, rfl, ST⟩
  case round =>
    obtain ⟨i, L, hi, rfl, EA⟩ := hrel
    clear ST
    by_cases hlt : i < s.n
    · have hii : (i : Int) < (s.n : Int) := by omega
      obtain ⟨g, x, rfl, hx, hx', hg, hgw, hcell, hfz⟩ := EA.out.at hlt
      have z0 : wr.cell? ⟨g, i, none⟩ = some (.slice x.w.a x.w.n x.w.c) := by have := hcell 0 _ rfl; rw [show i * kHead.k + 0 = i from Nat.mul_one i] at this; exact this
      have HX := hid hx
      have HOW := hid (ownHeader_any x (wr.alloc (.cells #[.slice x.w.a x.w.n x.w.c] 63)) (kHead.step (HIN.out x (List.mem_of_getElem? hx')) (bl_step EA.out.bel (bl_alloc (Below.refl _ _)))) (HB.out x (List.mem_of_getElem? hx')))
      have HG := hid hg
      have HGW := hid hgw
      clear hcell hx hx' hg hgw hfz
      go_wp2_with fail
      refine HOW.out.mono ?_
      rintro e w2 ⟨x', he, hf, hin, hb2⟩
      obtain rfl : e = .returned (.agg #[.slice x'.w.a x'.w.n x'.w.c]) := he
      have hgw : g < w2.heap.size := by have h1 := hb2.size; rw [World.size_alloc] at h1; have := HGW.out; omega
      have y0 : w2.cell? ⟨g, i, none⟩ = some (.slice x.w.a x.w.n x.w.c) := (hb2.cell (p := ⟨g, i, none⟩) (by have := HGW.out; simp; omega)).trans ((World.cell?_alloc_past _ _ _ (by have := HGW.out; simp; omega)).trans z0)
      have v0 : w2.frozen? ⟨g, i, none⟩ = false := (hb2.frozen (p := ⟨g, i, none⟩) (by have := HGW.out; simp; omega)).trans ((World.frozen?_alloc_past _ _ _ (by have := HGW.out; simp; omega)).trans (EA.out.own.frozenAt _))
      have NX : Hid (EachAt kHead HeadD.ws 63 S s.n w (some ⟨g, 0, none⟩) c (i + 1) (L.set i x') (setsAt w2 g (i * kHead.k) (kHead.cells x'))) := EA.out.next hlt HX.out (bl_alloc (Below.refl _ _)) hb2 hf hin
      clear hf hin hb2 HOW EA z0
      rw [show i * kHead.k = i from Nat.mul_one i] at NX
      go_wp2
      go_roundw
      case rel => exact ⟨i + 1, _, by omega, by go_num, NX⟩
      case measure => simp [intOf]; omega
    · have hii : ¬ (i : Int) < (s.n : Int) := by omega
      have HE := hid (EA.out.end (by omega))
      clear EA
      go_wp2
      go_ret
      exact HE.out

set_option maxHeartbeats 4000000 in
set_option maxRecDepth 20000 in
theorem each_state (s : QSl) (S : List StateD) (w : World) (h : QRow 5 StateD.lie w s S) (h0 : s.nil0) (hn : s.n ≤ 100000) (hb : ∀ x ∈ S, x.cases.n ≤ 100000) : Calls Tryz.prog 25 #[.slice s.a s.n s.c, .func (.func 26) #[] #[]] w (RowDone kState StateD.p S s.n w) := by
  have HC := hid (copied_state s S w h h0 hn)
  have HIN := hid (kState.inns h)
  have HL := hid h.1
  have HB := hid hb
  clear h h0 hb
  go_enter Tryz.func25, Tryz.ntmps25
  go_wp2_with fail
  refine HC.out.mono ?_
  rintro e w1 ⟨a, c, rfl, ho, hb1⟩
  have ST : Hid (EachAt kState StateD.p 66 S s.n w a c 0 S w1) := EachAt.start ho HL.out hb1
  clear ho hb1 HC
  go_wp2
  go_loopw [12, 6, 7] (fun q _ _ wr => ∃ (i : Nat) (L : List StateD), i ≤ s.n ∧ q = .int .i64 i ∧ Hid (EachAt kState StateD.p 66 S s.n w a c i L wr)) (fun q _ _ _ => s.n - (intOf q).toNat)
  case atStart => exact ⟨0, S, Nat.zero_le _, rfl, ST⟩
  case round =>
    obtain ⟨i, L, hi, rfl, EA⟩ := hrel
    clear ST
    by_cases hlt : i < s.n
    · have hii : (i : Int) < (s.n : Int) := by omega
      obtain ⟨g, x, rfl, hx, hx', hg, hgw, hcell, hfz⟩ := EA.out.at hlt
      have z0 : wr.cell? ⟨g, i * 5, none⟩ = some (.int .i64 x.head) := hcell 0 _ rfl
      have z1 : wr.cell? ⟨g, i * 5 + 1, none⟩ = some (.int .i64 x.r.h) := hcell 1 _ rfl
      have z2 : wr.cell? ⟨g, i * 5 + 2, none⟩ = some (.int .i64 x.r.f) := hcell 2 _ rfl
      have z3 : wr.cell? ⟨g, i * 5 + 3, none⟩ = some (.slice x.cases.a x.cases.n x.cases.c) := hcell 3 _ rfl
      have z4 : wr.cell? ⟨g, i * 5 + 4, none⟩ = some (.int .i64 x.els) := hcell 4 _ rfl
      have HX := hid hx
      have HOW := hid (ownState_any x (wr.alloc (.cells #[.int .i64 x.head, .int .i64 x.r.h, .int .i64 x.r.f, .slice x.cases.a x.cases.n x.cases.c, .int .i64 x.els] 66)) (kState.step (HIN.out x (List.mem_of_getElem? hx')) (bl_step EA.out.bel (bl_alloc (Below.refl _ _)))) (HB.out x (List.mem_of_getElem? hx')))
      have HG := hid hg
      have HGW := hid hgw
      clear hcell hx hx' hg hgw hfz
      go_wp2_with fail
      refine HOW.out.mono ?_
      rintro e w2 ⟨x', he, hf, hin, hb2⟩
      obtain rfl : e = .returned (.agg #[.int .i64 x'.head, .int .i64 x'.r.h, .int .i64 x'.r.f, .slice x'.cases.a x'.cases.n x'.cases.c, .int .i64 x'.els]) := he
      have hgw : g < w2.heap.size := by have h1 := hb2.size; rw [World.size_alloc] at h1; have := HGW.out; omega
      have y0 : w2.cell? ⟨g, i * 5, none⟩ = some (.int .i64 x.head) := (hb2.cell (p := ⟨g, i * 5, none⟩) (by have := HGW.out; simp; omega)).trans ((World.cell?_alloc_past _ _ _ (by have := HGW.out; simp; omega)).trans z0)
      have v0 : w2.frozen? ⟨g, i * 5, none⟩ = false := (hb2.frozen (p := ⟨g, i * 5, none⟩) (by have := HGW.out; simp; omega)).trans ((World.frozen?_alloc_past _ _ _ (by have := HGW.out; simp; omega)).trans (EA.out.own.frozenAt _))
      have y1 : w2.cell? ⟨g, i * 5 + 1, none⟩ = some (.int .i64 x.r.h) := (hb2.cell (p := ⟨g, i * 5 + 1, none⟩) (by have := HGW.out; simp; omega)).trans ((World.cell?_alloc_past _ _ _ (by have := HGW.out; simp; omega)).trans z1)
      have v1 : w2.frozen? ⟨g, i * 5 + 1, none⟩ = false := (hb2.frozen (p := ⟨g, i * 5 + 1, none⟩) (by have := HGW.out; simp; omega)).trans ((World.frozen?_alloc_past _ _ _ (by have := HGW.out; simp; omega)).trans (EA.out.own.frozenAt _))
      have y2 : w2.cell? ⟨g, i * 5 + 2, none⟩ = some (.int .i64 x.r.f) := (hb2.cell (p := ⟨g, i * 5 + 2, none⟩) (by have := HGW.out; simp; omega)).trans ((World.cell?_alloc_past _ _ _ (by have := HGW.out; simp; omega)).trans z2)
      have v2 : w2.frozen? ⟨g, i * 5 + 2, none⟩ = false := (hb2.frozen (p := ⟨g, i * 5 + 2, none⟩) (by have := HGW.out; simp; omega)).trans ((World.frozen?_alloc_past _ _ _ (by have := HGW.out; simp; omega)).trans (EA.out.own.frozenAt _))
      have y3 : w2.cell? ⟨g, i * 5 + 3, none⟩ = some (.slice x.cases.a x.cases.n x.cases.c) := (hb2.cell (p := ⟨g, i * 5 + 3, none⟩) (by have := HGW.out; simp; omega)).trans ((World.cell?_alloc_past _ _ _ (by have := HGW.out; simp; omega)).trans z3)
      have v3 : w2.frozen? ⟨g, i * 5 + 3, none⟩ = false := (hb2.frozen (p := ⟨g, i * 5 + 3, none⟩) (by have := HGW.out; simp; omega)).trans ((World.frozen?_alloc_past _ _ _ (by have := HGW.out; simp; omega)).trans (EA.out.own.frozenAt _))
      have y4 : w2.cell? ⟨g, i * 5 + 4, none⟩ = some (.int .i64 x.els) := (hb2.cell (p := ⟨g, i * 5 + 4, none⟩) (by have := HGW.out; simp; omega)).trans ((World.cell?_alloc_past _ _ _ (by have := HGW.out; simp; omega)).trans z4)
      have v4 : w2.frozen? ⟨g, i * 5 + 4, none⟩ = false := (hb2.frozen (p := ⟨g, i * 5 + 4, none⟩) (by have := HGW.out; simp; omega)).trans ((World.frozen?_alloc_past _ _ _ (by have := HGW.out; simp; omega)).trans (EA.out.own.frozenAt _))
      have NX : Hid (EachAt kState StateD.p 66 S s.n w (some ⟨g, 0, none⟩) c (i + 1) (L.set i x') (setsAt w2 g (i * kState.k) (kState.cells x'))) := EA.out.next hlt HX.out (bl_alloc (Below.refl _ _)) hb2 hf hin
      clear hf hin hb2 HOW EA z0 z1 z2 z3 z4
      go_wp2
      go_roundw
      case rel => exact ⟨i + 1, _, by omega, by go_num, NX⟩
      case measure => simp [intOf]; omega
    · have hii : ¬ (i : Int) < (s.n : Int) := by omega
      have HE := hid (EA.out.end (by omega))
      clear EA
      go_wp2
      go_ret
      exact HE.out

set_option maxHeartbeats 4000000 in
set_option maxRecDepth 20000 in
theorem each_op (s : QSl) (S : List OpD) (w : World) (h : QRow 5 OpD.lie w s S) (h0 : s.nil0) (hn : s.n ≤ 100000) (hb : ∀ x ∈ S, x.e.n ≤ 100000) : Calls Tryz.prog 50 #[.slice s.a s.n s.c, .func (.func 51) #[] #[]] w (RowDone kOp OpD.p S s.n w) := by
  have HC := hid (copied_op s S w h h0 hn)
  have HIN := hid (kOp.inns h)
  have HL := hid h.1
  have HB := hid hb
  clear h h0 hb
  go_enter Tryz.func50, Tryz.ntmps50
  go_wp2_with fail
  refine HC.out.mono ?_
  rintro e w1 ⟨a, c, rfl, ho, hb1⟩
  have ST : Hid (EachAt kOp OpD.p 71 S s.n w a c 0 S w1) := EachAt.start ho HL.out hb1
  clear ho hb1 HC
  go_wp2
  go_loopw [12, 6, 7] (fun q _ _ wr => ∃ (i : Nat) (L : List OpD), i ≤ s.n ∧ q = .int .i64 i ∧ Hid (EachAt kOp OpD.p 71 S s.n w a c i L wr)) (fun q _ _ _ => s.n - (intOf q).toNat)
  case atStart => exact ⟨0, S, Nat.zero_le _, rfl, ST⟩
  case round =>
    obtain ⟨i, L, hi, rfl, EA⟩ := hrel
    clear ST
    by_cases hlt : i < s.n
    · have hii : (i : Int) < (s.n : Int) := by omega
      obtain ⟨g, x, rfl, hx, hx', hg, hgw, hcell, hfz⟩ := EA.out.at hlt
      have z0 : wr.cell? ⟨g, i * 5, none⟩ = some (.int .i64 x.kind) := hcell 0 _ rfl
      have z1 : wr.cell? ⟨g, i * 5 + 1, none⟩ = some (.int .i64 x.r.h) := hcell 1 _ rfl
      have z2 : wr.cell? ⟨g, i * 5 + 2, none⟩ = some (.int .i64 x.r.f) := hcell 2 _ rfl
      have z3 : wr.cell? ⟨g, i * 5 + 3, none⟩ = some (.int .i64 x.head) := hcell 3 _ rfl
      have z4 : wr.cell? ⟨g, i * 5 + 4, none⟩ = some (.slice x.e.a x.e.n x.e.c) := hcell 4 _ rfl
      have HX := hid hx
      have HOW := hid (ownOp_any x (wr.alloc (.cells #[.int .i64 x.kind, .int .i64 x.r.h, .int .i64 x.r.f, .int .i64 x.head, .slice x.e.a x.e.n x.e.c] 71)) (kOp.step (HIN.out x (List.mem_of_getElem? hx')) (bl_step EA.out.bel (bl_alloc (Below.refl _ _)))) (HB.out x (List.mem_of_getElem? hx')))
      have HG := hid hg
      have HGW := hid hgw
      clear hcell hx hx' hg hgw hfz
      go_wp2_with fail
      refine HOW.out.mono ?_
      rintro e w2 ⟨x', he, hf, hin, hb2⟩
      obtain rfl : e = .returned (.agg #[.int .i64 x'.kind, .int .i64 x'.r.h, .int .i64 x'.r.f, .int .i64 x'.head, .slice x'.e.a x'.e.n x'.e.c]) := he
      have hgw : g < w2.heap.size := by have h1 := hb2.size; rw [World.size_alloc] at h1; have := HGW.out; omega
      have y0 : w2.cell? ⟨g, i * 5, none⟩ = some (.int .i64 x.kind) := (hb2.cell (p := ⟨g, i * 5, none⟩) (by have := HGW.out; simp; omega)).trans ((World.cell?_alloc_past _ _ _ (by have := HGW.out; simp; omega)).trans z0)
      have v0 : w2.frozen? ⟨g, i * 5, none⟩ = false := (hb2.frozen (p := ⟨g, i * 5, none⟩) (by have := HGW.out; simp; omega)).trans ((World.frozen?_alloc_past _ _ _ (by have := HGW.out; simp; omega)).trans (EA.out.own.frozenAt _))
      have y1 : w2.cell? ⟨g, i * 5 + 1, none⟩ = some (.int .i64 x.r.h) := (hb2.cell (p := ⟨g, i * 5 + 1, none⟩) (by have := HGW.out; simp; omega)).trans ((World.cell?_alloc_past _ _ _ (by have := HGW.out; simp; omega)).trans z1)
      have v1 : w2.frozen? ⟨g, i * 5 + 1, none⟩ = false := (hb2.frozen (p := ⟨g, i * 5 + 1, none⟩) (by have := HGW.out; simp; omega)).trans ((World.frozen?_alloc_past _ _ _ (by have := HGW.out; simp; omega)).trans (EA.out.own.frozenAt _))
      have y2 : w2.cell? ⟨g, i * 5 + 2, none⟩ = some (.int .i64 x.r.f) := (hb2.cell (p := ⟨g, i * 5 + 2, none⟩) (by have := HGW.out; simp; omega)).trans ((World.cell?_alloc_past _ _ _ (by have := HGW.out; simp; omega)).trans z2)
      have v2 : w2.frozen? ⟨g, i * 5 + 2, none⟩ = false := (hb2.frozen (p := ⟨g, i * 5 + 2, none⟩) (by have := HGW.out; simp; omega)).trans ((World.frozen?_alloc_past _ _ _ (by have := HGW.out; simp; omega)).trans (EA.out.own.frozenAt _))
      have y3 : w2.cell? ⟨g, i * 5 + 3, none⟩ = some (.int .i64 x.head) := (hb2.cell (p := ⟨g, i * 5 + 3, none⟩) (by have := HGW.out; simp; omega)).trans ((World.cell?_alloc_past _ _ _ (by have := HGW.out; simp; omega)).trans z3)
      have v3 : w2.frozen? ⟨g, i * 5 + 3, none⟩ = false := (hb2.frozen (p := ⟨g, i * 5 + 3, none⟩) (by have := HGW.out; simp; omega)).trans ((World.frozen?_alloc_past _ _ _ (by have := HGW.out; simp; omega)).trans (EA.out.own.frozenAt _))
      have y4 : w2.cell? ⟨g, i * 5 + 4, none⟩ = some (.slice x.e.a x.e.n x.e.c) := (hb2.cell (p := ⟨g, i * 5 + 4, none⟩) (by have := HGW.out; simp; omega)).trans ((World.cell?_alloc_past _ _ _ (by have := HGW.out; simp; omega)).trans z4)
      have v4 : w2.frozen? ⟨g, i * 5 + 4, none⟩ = false := (hb2.frozen (p := ⟨g, i * 5 + 4, none⟩) (by have := HGW.out; simp; omega)).trans ((World.frozen?_alloc_past _ _ _ (by have := HGW.out; simp; omega)).trans (EA.out.own.frozenAt _))
      have NX : Hid (EachAt kOp OpD.p 71 S s.n w (some ⟨g, 0, none⟩) c (i + 1) (L.set i x') (setsAt w2 g (i * kOp.k) (kOp.cells x'))) := EA.out.next hlt HX.out (bl_alloc (Below.refl _ _)) hb2 hf hin
      clear hf hin hb2 HOW EA z0 z1 z2 z3 z4
      go_wp2
      go_roundw
      case rel => exact ⟨i + 1, _, by omega, by go_num, NX⟩
      case measure => simp [intOf]; omega
    · have hii : ¬ (i : Int) < (s.n : Int) := by omega
      have HE := hid (EA.out.end (by omega))
      clear EA
      go_wp2
      go_ret
      exact HE.out

set_option maxHeartbeats 4000000 in
set_option maxRecDepth 20000 in
theorem each_tab (s : QSl) (S : List TabD) (w : World) (h : QRow 6 TabD.lie w s S) (h0 : s.nil0) (hn : s.n ≤ 100000) (hb : ∀ x ∈ S, x.keys.n ≤ 100000 ∧ x.acts.n ≤ 100000 ∧ x.args.n ≤ 100000) : Calls Tryz.prog 29 #[.slice s.a s.n s.c, .func (.func 30) #[] #[]] w (RowDone kTab TabD.p S s.n w) := by
  have HC := hid (copied_tab s S w h h0 hn)
  have HIN := hid (kTab.inns h)
  have HL := hid h.1
  have HB := hid hb
  clear h h0 hb
  go_enter Tryz.func29, Tryz.ntmps29
  go_wp2_with fail
  refine HC.out.mono ?_
  rintro e w1 ⟨a, c, rfl, ho, hb1⟩
  have ST : Hid (EachAt kTab TabD.p 55 S s.n w a c 0 S w1) := EachAt.start ho HL.out hb1
  clear ho hb1 HC
  go_wp2
  go_loopw [12, 6, 7] (fun q _ _ wr => ∃ (i : Nat) (L : List TabD), i ≤ s.n ∧ q = .int .i64 i ∧ Hid (EachAt kTab TabD.p 55 S s.n w a c i L wr)) (fun q _ _ _ => s.n - (intOf q).toNat)
  case atStart => exact ⟨0, S, Nat.zero_le _, rfl, ST⟩
  case round =>
    obtain ⟨i, L, hi, rfl, EA⟩ := hrel
    clear ST
    by_cases hlt : i < s.n
    · have hii : (i : Int) < (s.n : Int) := by omega
      obtain ⟨g, x, rfl, hx, hx', hg, hgw, hcell, hfz⟩ := EA.out.at hlt
      have z0 : wr.cell? ⟨g, i * 6, none⟩ = some (.int .i64 x.kind) := hcell 0 _ rfl
      have z1 : wr.cell? ⟨g, i * 6 + 1, none⟩ = some (.slice x.keys.a x.keys.n x.keys.c) := hcell 1 _ rfl
      have z2 : wr.cell? ⟨g, i * 6 + 2, none⟩ = some (.slice x.acts.a x.acts.n x.acts.c) := hcell 2 _ rfl
      have z3 : wr.cell? ⟨g, i * 6 + 3, none⟩ = some (.int .i64 x.cap) := hcell 3 _ rfl
      have z4 : wr.cell? ⟨g, i * 6 + 4, none⟩ = some (.int .i64 x.dflt) := hcell 4 _ rfl
      have z5 : wr.cell? ⟨g, i * 6 + 5, none⟩ = some (.slice x.args.a x.args.n x.args.c) := hcell 5 _ rfl
      have HX := hid hx
      have HOW := hid (ownTable_any x (wr.alloc (.cells #[.int .i64 x.kind, .slice x.keys.a x.keys.n x.keys.c, .slice x.acts.a x.acts.n x.acts.c, .int .i64 x.cap, .int .i64 x.dflt, .slice x.args.a x.args.n x.args.c] 55)) (kTab.step (HIN.out x (List.mem_of_getElem? hx')) (bl_step EA.out.bel (bl_alloc (Below.refl _ _)))) (HB.out x (List.mem_of_getElem? hx')))
      have HG := hid hg
      have HGW := hid hgw
      clear hcell hx hx' hg hgw hfz
      go_wp2_with fail
      refine HOW.out.mono ?_
      rintro e w2 ⟨x', he, hf, hin, hb2⟩
      obtain rfl : e = .returned (.agg #[.int .i64 x'.kind, .slice x'.keys.a x'.keys.n x'.keys.c, .slice x'.acts.a x'.acts.n x'.acts.c, .int .i64 x'.cap, .int .i64 x'.dflt, .slice x'.args.a x'.args.n x'.args.c]) := he
      have hgw : g < w2.heap.size := by have h1 := hb2.size; rw [World.size_alloc] at h1; have := HGW.out; omega
      have y0 : w2.cell? ⟨g, i * 6, none⟩ = some (.int .i64 x.kind) := (hb2.cell (p := ⟨g, i * 6, none⟩) (by have := HGW.out; simp; omega)).trans ((World.cell?_alloc_past _ _ _ (by have := HGW.out; simp; omega)).trans z0)
      have v0 : w2.frozen? ⟨g, i * 6, none⟩ = false := (hb2.frozen (p := ⟨g, i * 6, none⟩) (by have := HGW.out; simp; omega)).trans ((World.frozen?_alloc_past _ _ _ (by have := HGW.out; simp; omega)).trans (EA.out.own.frozenAt _))
      have y1 : w2.cell? ⟨g, i * 6 + 1, none⟩ = some (.slice x.keys.a x.keys.n x.keys.c) := (hb2.cell (p := ⟨g, i * 6 + 1, none⟩) (by have := HGW.out; simp; omega)).trans ((World.cell?_alloc_past _ _ _ (by have := HGW.out; simp; omega)).trans z1)
      have v1 : w2.frozen? ⟨g, i * 6 + 1, none⟩ = false := (hb2.frozen (p := ⟨g, i * 6 + 1, none⟩) (by have := HGW.out; simp; omega)).trans ((World.frozen?_alloc_past _ _ _ (by have := HGW.out; simp; omega)).trans (EA.out.own.frozenAt _))
      have y2 : w2.cell? ⟨g, i * 6 + 2, none⟩ = some (.slice x.acts.a x.acts.n x.acts.c) := (hb2.cell (p := ⟨g, i * 6 + 2, none⟩) (by have := HGW.out; simp; omega)).trans ((World.cell?_alloc_past _ _ _ (by have := HGW.out; simp; omega)).trans z2)
      have v2 : w2.frozen? ⟨g, i * 6 + 2, none⟩ = false := (hb2.frozen (p := ⟨g, i * 6 + 2, none⟩) (by have := HGW.out; simp; omega)).trans ((World.frozen?_alloc_past _ _ _ (by have := HGW.out; simp; omega)).trans (EA.out.own.frozenAt _))
      have y3 : w2.cell? ⟨g, i * 6 + 3, none⟩ = some (.int .i64 x.cap) := (hb2.cell (p := ⟨g, i * 6 + 3, none⟩) (by have := HGW.out; simp; omega)).trans ((World.cell?_alloc_past _ _ _ (by have := HGW.out; simp; omega)).trans z3)
      have v3 : w2.frozen? ⟨g, i * 6 + 3, none⟩ = false := (hb2.frozen (p := ⟨g, i * 6 + 3, none⟩) (by have := HGW.out; simp; omega)).trans ((World.frozen?_alloc_past _ _ _ (by have := HGW.out; simp; omega)).trans (EA.out.own.frozenAt _))
      have y4 : w2.cell? ⟨g, i * 6 + 4, none⟩ = some (.int .i64 x.dflt) := (hb2.cell (p := ⟨g, i * 6 + 4, none⟩) (by have := HGW.out; simp; omega)).trans ((World.cell?_alloc_past _ _ _ (by have := HGW.out; simp; omega)).trans z4)
      have v4 : w2.frozen? ⟨g, i * 6 + 4, none⟩ = false := (hb2.frozen (p := ⟨g, i * 6 + 4, none⟩) (by have := HGW.out; simp; omega)).trans ((World.frozen?_alloc_past _ _ _ (by have := HGW.out; simp; omega)).trans (EA.out.own.frozenAt _))
      have y5 : w2.cell? ⟨g, i * 6 + 5, none⟩ = some (.slice x.args.a x.args.n x.args.c) := (hb2.cell (p := ⟨g, i * 6 + 5, none⟩) (by have := HGW.out; simp; omega)).trans ((World.cell?_alloc_past _ _ _ (by have := HGW.out; simp; omega)).trans z5)
      have v5 : w2.frozen? ⟨g, i * 6 + 5, none⟩ = false := (hb2.frozen (p := ⟨g, i * 6 + 5, none⟩) (by have := HGW.out; simp; omega)).trans ((World.frozen?_alloc_past _ _ _ (by have := HGW.out; simp; omega)).trans (EA.out.own.frozenAt _))
      have NX : Hid (EachAt kTab TabD.p 55 S s.n w (some ⟨g, 0, none⟩) c (i + 1) (L.set i x') (setsAt w2 g (i * kTab.k) (kTab.cells x'))) := EA.out.next hlt HX.out (bl_alloc (Below.refl _ _)) hb2 hf hin
      clear hf hin hb2 HOW EA z0 z1 z2 z3 z4 z5
      go_wp2
      go_roundw
      case rel => exact ⟨i + 1, _, by omega, by go_num, NX⟩
      case measure => simp [intOf]; omega
    · have hii : ¬ (i : Int) < (s.n : Int) := by omega
      have HE := hid (EA.out.end (by omega))
      clear EA
      go_wp2
      go_ret
      exact HE.out

set_option maxHeartbeats 4000000 in
set_option maxRecDepth 20000 in
theorem each_node (s : QSl) (S : List NodeD) (w : World) (h : QRow 5 NodeD.lie w s S) (h0 : s.nil0) (hn : s.n ≤ 100000) (hb : ∀ x ∈ S, x.e.n ≤ 100000) : Calls Tryz.prog 31 #[.slice s.a s.n s.c, .func (.func 32) #[] #[]] w (RowDone kNode NodeD.p S s.n w) := by
  have HC := hid (copied_node s S w h h0 hn)
  have HIN := hid (kNode.inns h)
  have HL := hid h.1
  have HB := hid hb
  clear h h0 hb
  go_enter Tryz.func31, Tryz.ntmps31
  go_wp2_with fail
  refine HC.out.mono ?_
  rintro e w1 ⟨a, c, rfl, ho, hb1⟩
  have ST : Hid (EachAt kNode NodeD.p 76 S s.n w a c 0 S w1) := EachAt.start ho HL.out hb1
  clear ho hb1 HC
  go_wp2
  go_loopw [12, 6, 7] (fun q _ _ wr => ∃ (i : Nat) (L : List NodeD), i ≤ s.n ∧ q = .int .i64 i ∧ Hid (EachAt kNode NodeD.p 76 S s.n w a c i L wr)) (fun q _ _ _ => s.n - (intOf q).toNat)
  case atStart => exact ⟨0, S, Nat.zero_le _, rfl, ST⟩
  case round =>
    obtain ⟨i, L, hi, rfl, EA⟩ := hrel
    clear ST
    by_cases hlt : i < s.n
    · have hii : (i : Int) < (s.n : Int) := by omega
      obtain ⟨g, x, rfl, hx, hx', hg, hgw, hcell, hfz⟩ := EA.out.at hlt
      have z0 : wr.cell? ⟨g, i * 5, none⟩ = some (.int .i64 x.kind) := hcell 0 _ rfl
      have z1 : wr.cell? ⟨g, i * 5 + 1, none⟩ = some (.int .i64 x.n) := hcell 1 _ rfl
      have z2 : wr.cell? ⟨g, i * 5 + 2, none⟩ = some (.slice x.e.a x.e.n x.e.c) := hcell 2 _ rfl
      have z3 : wr.cell? ⟨g, i * 5 + 3, none⟩ = some (.int .i64 x.yes) := hcell 3 _ rfl
      have z4 : wr.cell? ⟨g, i * 5 + 4, none⟩ = some (.int .i64 x.no) := hcell 4 _ rfl
      have HX := hid hx
      have HOW := hid (ownNode_any x (wr.alloc (.cells #[.int .i64 x.kind, .int .i64 x.n, .slice x.e.a x.e.n x.e.c, .int .i64 x.yes, .int .i64 x.no] 76)) (kNode.step (HIN.out x (List.mem_of_getElem? hx')) (bl_step EA.out.bel (bl_alloc (Below.refl _ _)))) (HB.out x (List.mem_of_getElem? hx')))
      have HG := hid hg
      have HGW := hid hgw
      clear hcell hx hx' hg hgw hfz
      go_wp2_with fail
      refine HOW.out.mono ?_
      rintro e w2 ⟨x', he, hf, hin, hb2⟩
      obtain rfl : e = .returned (.agg #[.int .i64 x'.kind, .int .i64 x'.n, .slice x'.e.a x'.e.n x'.e.c, .int .i64 x'.yes, .int .i64 x'.no]) := he
      have hgw : g < w2.heap.size := by have h1 := hb2.size; rw [World.size_alloc] at h1; have := HGW.out; omega
      have y0 : w2.cell? ⟨g, i * 5, none⟩ = some (.int .i64 x.kind) := (hb2.cell (p := ⟨g, i * 5, none⟩) (by have := HGW.out; simp; omega)).trans ((World.cell?_alloc_past _ _ _ (by have := HGW.out; simp; omega)).trans z0)
      have v0 : w2.frozen? ⟨g, i * 5, none⟩ = false := (hb2.frozen (p := ⟨g, i * 5, none⟩) (by have := HGW.out; simp; omega)).trans ((World.frozen?_alloc_past _ _ _ (by have := HGW.out; simp; omega)).trans (EA.out.own.frozenAt _))
      have y1 : w2.cell? ⟨g, i * 5 + 1, none⟩ = some (.int .i64 x.n) := (hb2.cell (p := ⟨g, i * 5 + 1, none⟩) (by have := HGW.out; simp; omega)).trans ((World.cell?_alloc_past _ _ _ (by have := HGW.out; simp; omega)).trans z1)
      have v1 : w2.frozen? ⟨g, i * 5 + 1, none⟩ = false := (hb2.frozen (p := ⟨g, i * 5 + 1, none⟩) (by have := HGW.out; simp; omega)).trans ((World.frozen?_alloc_past _ _ _ (by have := HGW.out; simp; omega)).trans (EA.out.own.frozenAt _))
      have y2 : w2.cell? ⟨g, i * 5 + 2, none⟩ = some (.slice x.e.a x.e.n x.e.c) := (hb2.cell (p := ⟨g, i * 5 + 2, none⟩) (by have := HGW.out; simp; omega)).trans ((World.cell?_alloc_past _ _ _ (by have := HGW.out; simp; omega)).trans z2)
      have v2 : w2.frozen? ⟨g, i * 5 + 2, none⟩ = false := (hb2.frozen (p := ⟨g, i * 5 + 2, none⟩) (by have := HGW.out; simp; omega)).trans ((World.frozen?_alloc_past _ _ _ (by have := HGW.out; simp; omega)).trans (EA.out.own.frozenAt _))
      have y3 : w2.cell? ⟨g, i * 5 + 3, none⟩ = some (.int .i64 x.yes) := (hb2.cell (p := ⟨g, i * 5 + 3, none⟩) (by have := HGW.out; simp; omega)).trans ((World.cell?_alloc_past _ _ _ (by have := HGW.out; simp; omega)).trans z3)
      have v3 : w2.frozen? ⟨g, i * 5 + 3, none⟩ = false := (hb2.frozen (p := ⟨g, i * 5 + 3, none⟩) (by have := HGW.out; simp; omega)).trans ((World.frozen?_alloc_past _ _ _ (by have := HGW.out; simp; omega)).trans (EA.out.own.frozenAt _))
      have y4 : w2.cell? ⟨g, i * 5 + 4, none⟩ = some (.int .i64 x.no) := (hb2.cell (p := ⟨g, i * 5 + 4, none⟩) (by have := HGW.out; simp; omega)).trans ((World.cell?_alloc_past _ _ _ (by have := HGW.out; simp; omega)).trans z4)
      have v4 : w2.frozen? ⟨g, i * 5 + 4, none⟩ = false := (hb2.frozen (p := ⟨g, i * 5 + 4, none⟩) (by have := HGW.out; simp; omega)).trans ((World.frozen?_alloc_past _ _ _ (by have := HGW.out; simp; omega)).trans (EA.out.own.frozenAt _))
      have NX : Hid (EachAt kNode NodeD.p 76 S s.n w (some ⟨g, 0, none⟩) c (i + 1) (L.set i x') (setsAt w2 g (i * kNode.k) (kNode.cells x'))) := EA.out.next hlt HX.out (bl_alloc (Below.refl _ _)) hb2 hf hin
      clear hf hin hb2 HOW EA z0 z1 z2 z3 z4
      go_wp2
      go_roundw
      case rel => exact ⟨i + 1, _, by omega, by go_num, NX⟩
      case measure => simp [intOf]; omega
    · have hii : ¬ (i : Int) < (s.n : Int) := by omega
      have HE := hid (EA.out.end (by omega))
      clear EA
      go_wp2
      go_ret
      exact HE.out
end Go.Proofs.YtajelgjbgehahaaGreat

namespace Go.Proofs.YtajelgjbgehahaaGreat
open Go.RowKit

set_option maxHeartbeats 4000000 in
set_option maxRecDepth 20000 in
theorem ownAction_any (x : ActD) (w : World) (hi : kAct.inn x w) (hn : x.w.n ≤ 100000 ∧ x.ops.n ≤ 100000 ∧ ∀ o ∈ x.os, o.e.n ≤ 100000) : Calls Tryz.prog 28 #[.agg #[.slice x.w.a x.w.n x.w.c, .slice x.ops.a x.ops.n x.ops.c]] w (OwnDone kAct ActD.p x w) := by
  have HC0 : Hid (∀ w', Below w.heap.size w w' → Calls Tryz.prog 24 #[.slice x.w.a x.w.n x.w.c] w' (RowDone kInt id x.ws x.w.n w')) := fun w' hb => (copied_int x.w x.ws w' (hi.2.1.step hb) hi.1.1 hn.1).mono fun _ _ h => h.rows hi.2.1.2.1
  have HC1 : Hid (∀ w', Below w.heap.size w w' → Calls Tryz.prog 50 #[.slice x.ops.a x.ops.n x.ops.c, .func (.func 51) #[] #[]] w' (RowDone kOp OpD.p x.os x.ops.n w')) := fun w' hb => each_op x.ops x.os w' (hi.2.2.step OpD.keeps hb) hi.1.2 hn.2.1 hn.2.2
  have HI := hid hi
  clear hi
  go_enter Tryz.func28, Tryz.ntmps28
  go_wp2_with fail
  refine (HC0.out _ (bl_alloc (bl_alloc (Below.refl _ _)))).mono ?_
  rintro e w1 ⟨a0, c0, L0, rfl, hr, hn0, he, hb⟩
  have p0_1 : w1.cell? ⟨w.heap.size, 0, none⟩ = some (.slice x.w.a x.w.n x.w.c) := (hb.cell (p := ⟨w.heap.size, 0, none⟩) (sz0 _ _ _)).trans (by simp)
  have q0_1 : w1.cell? ⟨w.heap.size + 1, 0, none⟩ = some (.slice none 0 0) := (hb.cell (p := ⟨w.heap.size + 1, 0, none⟩) (sz1 _ _ _)).trans (by simp)
  have r0_1 : w1.frozen? ⟨w.heap.size, 0, none⟩ = false := (hb.frozen (p := ⟨w.heap.size, 0, none⟩) (sz0 _ _ _)).trans (by simp)
  have s0_1 : w1.frozen? ⟨w.heap.size + 1, 0, none⟩ = false := (hb.frozen (p := ⟨w.heap.size + 1, 0, none⟩) (sz1 _ _ _)).trans (by simp)
  have p1_1 : w1.cell? ⟨w.heap.size, 1, none⟩ = some (.slice x.ops.a x.ops.n x.ops.c) := (hb.cell (p := ⟨w.heap.size, 1, none⟩) (sz0 _ _ _)).trans (by simp)
  have q1_1 : w1.cell? ⟨w.heap.size + 1, 1, none⟩ = some (.slice none 0 0) := (hb.cell (p := ⟨w.heap.size + 1, 1, none⟩) (sz1 _ _ _)).trans (by simp)
  have r1_1 : w1.frozen? ⟨w.heap.size, 1, none⟩ = false := (hb.frozen (p := ⟨w.heap.size, 1, none⟩) (sz0 _ _ _)).trans (by simp)
  have s1_1 : w1.frozen? ⟨w.heap.size + 1, 1, none⟩ = false := (hb.frozen (p := ⟨w.heap.size + 1, 1, none⟩) (sz1 _ _ _)).trans (by simp)
  have HZ : Hid (w.heap.size + 2 ≤ w1.heap.size) := by have := hb.size; first | exact Nat.le_trans (sz1 _ _ _) this | (rw [World.size_setCell] at this; exact Nat.le_trans HZp.out this)
  have hz : w.heap.size + 1 < w1.heap.size := HZ.out
  have HR0 := hid (hr.cov (Kd.covs kInt) (two_new (w := w) (sz1 _ _ _)))
  have HN0 := hid hn0
  have HE0 := hid he
  have HB1 : Hid (Below w.heap.size w (w1.setCell ⟨w.heap.size, 0, none⟩ (.slice a0 x.w.n c0))) := ((bl_alloc (bl_alloc (Below.refl w.heap.size w))).trans (hb.mono (Nat.le_of_lt (sz0 _ _ _)))).setCell (Nat.le_refl _) _
  have HZp := HZ
  clear hr hn0 he hb HC0
  have hzp := hz
  clear hz
  go_wp2_with fail
  refine (HC1.out _ HB1.out).mono ?_
  rintro e w2 ⟨a1, c1, L1, rfl, hr, hn0, he, hb⟩
  have p0_2 : w2.cell? ⟨w.heap.size, 0, none⟩ = some (.slice a0 x.w.n c0) := (hb.cell (p := ⟨w.heap.size, 0, none⟩) (by rw [World.size_setCell]; show w.heap.size < _; omega)).trans ((World.cell?_setCell_same _ _ _ p0_1))
  have q0_2 : w2.cell? ⟨w.heap.size + 1, 0, none⟩ = some (.slice none 0 0) := (hb.cell (p := ⟨w.heap.size + 1, 0, none⟩) (by rw [World.size_setCell]; show w.heap.size + 1 < _; omega)).trans ((World.cell?_setCell_other _ _ _ _ (by simp)).trans q0_1)
  have r0_2 : w2.frozen? ⟨w.heap.size, 0, none⟩ = false := (hb.frozen (p := ⟨w.heap.size, 0, none⟩) (by rw [World.size_setCell]; show w.heap.size < _; omega)).trans ((World.frozen?_setCell _ _ _ _).trans r0_1)
  have s0_2 : w2.frozen? ⟨w.heap.size + 1, 0, none⟩ = false := (hb.frozen (p := ⟨w.heap.size + 1, 0, none⟩) (by rw [World.size_setCell]; show w.heap.size + 1 < _; omega)).trans ((World.frozen?_setCell _ _ _ _).trans s0_1)
  have p1_2 : w2.cell? ⟨w.heap.size, 1, none⟩ = some (.slice x.ops.a x.ops.n x.ops.c) := (hb.cell (p := ⟨w.heap.size, 1, none⟩) (by rw [World.size_setCell]; show w.heap.size < _; omega)).trans (((World.cell?_setCell_other _ _ _ _ (by simp)).trans p1_1))
  have q1_2 : w2.cell? ⟨w.heap.size + 1, 1, none⟩ = some (.slice none 0 0) := (hb.cell (p := ⟨w.heap.size + 1, 1, none⟩) (by rw [World.size_setCell]; show w.heap.size + 1 < _; omega)).trans ((World.cell?_setCell_other _ _ _ _ (by simp)).trans q1_1)
  have r1_2 : w2.frozen? ⟨w.heap.size, 1, none⟩ = false := (hb.frozen (p := ⟨w.heap.size, 1, none⟩) (by rw [World.size_setCell]; show w.heap.size < _; omega)).trans ((World.frozen?_setCell _ _ _ _).trans r1_1)
  have s1_2 : w2.frozen? ⟨w.heap.size + 1, 1, none⟩ = false := (hb.frozen (p := ⟨w.heap.size + 1, 1, none⟩) (by rw [World.size_setCell]; show w.heap.size + 1 < _; omega)).trans ((World.frozen?_setCell _ _ _ _).trans s1_1)
  have HZ : Hid (w.heap.size + 2 ≤ w2.heap.size) := by have := hb.size; first | exact Nat.le_trans (sz1 _ _ _) this | (rw [World.size_setCell] at this; exact Nat.le_trans HZp.out this)
  have hz : w.heap.size + 1 < w2.heap.size := HZ.out
  have HR0 := hid ((HR0.out.step (Kd.keeps kInt) (two_abv ((Abv.refl _ _).put (by simp) _))).step (Kd.keeps kInt) (mask_step hb))
  have HR1 := hid (hr.cov (Kd.covs kOp) (two_new (w := w) (by rw [World.size_setCell]; exact HZp.out)))
  have HN1 := hid hn0
  have HE1 := hid he
  have HB2 : Hid (Below w.heap.size w (w2.setCell ⟨w.heap.size, 1, none⟩ (.slice a1 x.ops.n c1))) := ((HB1.out).trans (hb.mono (by rw [World.size_setCell]; have := HZp.out; omega))).setCell (Nat.le_refl _) _
  have HZp := HZ
  clear hr hn0 he hb HC1 hzp p0_1 q0_1 r0_1 s0_1 p1_1 q1_1 r1_1 s1_1
  go_wp2
  refine bodyPost_ret (v := .agg #[.slice a0 x.w.n c0, .slice a1 x.ops.n c1]) (by simp [results, Tryz.results28, go_sem, *]) rfl ?_
  refine ⟨⟨⟨a0, x.w.n, c0⟩, L0, ⟨a1, x.ops.n, c1⟩, L1⟩, rfl, by simp only [ActD.p, map_id_eq HE0.out, HE1.out], kAct.cov (kAct.step ⟨⟨HN0.out, HN1.out⟩, row_hasI HR0.out, HR1.out⟩ (two_abv ((((Abv.refl _ _).put (by simp) _).put (by simp) _).put (by simp) _))) (two_old _ _), ?_⟩
  exact ((HB2.out).setCell (Nat.le_succ _) _).setCell (Nat.le_succ _) _

set_option maxHeartbeats 4000000 in
set_option maxRecDepth 20000 in
theorem each_act (s : QSl) (S : List ActD) (w : World) (h : QRow 2 ActD.lie w s S) (h0 : s.nil0) (hn : s.n ≤ 100000) (hb : ∀ x ∈ S, x.w.n ≤ 100000 ∧ x.ops.n ≤ 100000 ∧ ∀ o ∈ x.os, o.e.n ≤ 100000) : Calls Tryz.prog 27 #[.slice s.a s.n s.c, .func (.func 28) #[] #[]] w (RowDone kAct ActD.p S s.n w) := by
  have HC := hid (copied_act s S w h h0 hn)
  have HIN := hid (kAct.inns h)
  have HL := hid h.1
  have HB := hid hb
  clear h h0 hb
  go_enter Tryz.func27, Tryz.ntmps27
  go_wp2_with fail
  refine HC.out.mono ?_
  rintro e w1 ⟨a, c, rfl, ho, hb1⟩
  have ST : Hid (EachAt kAct ActD.p 74 S s.n w a c 0 S w1) := EachAt.start ho HL.out hb1
  clear ho hb1 HC
  go_wp2
  go_loopw [12, 6, 7] (fun q _ _ wr => ∃ (i : Nat) (L : List ActD), i ≤ s.n ∧ q = .int .i64 i ∧ Hid (EachAt kAct ActD.p 74 S s.n w a c i L wr)) (fun q _ _ _ => s.n - (intOf q).toNat)
  case atStart => exact ⟨0, S, Nat.zero_le _, rfl, ST⟩
  case round =>
    obtain ⟨i, L, hi, rfl, EA⟩ := hrel
    clear ST
    by_cases hlt : i < s.n
    · have hii : (i : Int) < (s.n : Int) := by omega
      obtain ⟨g, x, rfl, hx, hx', hg, hgw, hcell, hfz⟩ := EA.out.at hlt
      have z0 : wr.cell? ⟨g, i * 2, none⟩ = some (.slice x.w.a x.w.n x.w.c) := hcell 0 _ rfl
      have z1 : wr.cell? ⟨g, i * 2 + 1, none⟩ = some (.slice x.ops.a x.ops.n x.ops.c) := hcell 1 _ rfl
      have HX := hid hx
      have HOW := hid (ownAction_any x (wr.alloc (.cells #[.slice x.w.a x.w.n x.w.c, .slice x.ops.a x.ops.n x.ops.c] 74)) (kAct.step (HIN.out x (List.mem_of_getElem? hx')) (bl_step EA.out.bel (bl_alloc (Below.refl _ _)))) (HB.out x (List.mem_of_getElem? hx')))
      have HG := hid hg
      have HGW := hid hgw
      clear hcell hx hx' hg hgw hfz
      go_wp2_with fail
      refine HOW.out.mono ?_
      rintro e w2 ⟨x', he, hf, hin, hb2⟩
      obtain rfl : e = .returned (.agg #[.slice x'.w.a x'.w.n x'.w.c, .slice x'.ops.a x'.ops.n x'.ops.c]) := he
      have hgw : g < w2.heap.size := by have h1 := hb2.size; rw [World.size_alloc] at h1; have := HGW.out; omega
      have y0 : w2.cell? ⟨g, i * 2, none⟩ = some (.slice x.w.a x.w.n x.w.c) := (hb2.cell (p := ⟨g, i * 2, none⟩) (by have := HGW.out; simp; omega)).trans ((World.cell?_alloc_past _ _ _ (by have := HGW.out; simp; omega)).trans z0)
      have v0 : w2.frozen? ⟨g, i * 2, none⟩ = false := (hb2.frozen (p := ⟨g, i * 2, none⟩) (by have := HGW.out; simp; omega)).trans ((World.frozen?_alloc_past _ _ _ (by have := HGW.out; simp; omega)).trans (EA.out.own.frozenAt _))
      have y1 : w2.cell? ⟨g, i * 2 + 1, none⟩ = some (.slice x.ops.a x.ops.n x.ops.c) := (hb2.cell (p := ⟨g, i * 2 + 1, none⟩) (by have := HGW.out; simp; omega)).trans ((World.cell?_alloc_past _ _ _ (by have := HGW.out; simp; omega)).trans z1)
      have v1 : w2.frozen? ⟨g, i * 2 + 1, none⟩ = false := (hb2.frozen (p := ⟨g, i * 2 + 1, none⟩) (by have := HGW.out; simp; omega)).trans ((World.frozen?_alloc_past _ _ _ (by have := HGW.out; simp; omega)).trans (EA.out.own.frozenAt _))
      have NX : Hid (EachAt kAct ActD.p 74 S s.n w (some ⟨g, 0, none⟩) c (i + 1) (L.set i x') (setsAt w2 g (i * kAct.k) (kAct.cells x'))) := EA.out.next hlt HX.out (bl_alloc (Below.refl _ _)) hb2 hf hin
      clear hf hin hb2 HOW EA z0 z1
      go_wp2
      go_roundw
      case rel => exact ⟨i + 1, _, by omega, by go_num, NX⟩
      case measure => simp [intOf]; omega
    · have hii : ¬ (i : Int) < (s.n : Int) := by omega
      have HE := hid (EA.out.end (by omega))
      clear EA
      go_wp2
      go_ret
      exact HE.out

/-- no list of a plan is beyond what a copy takes -/
structure PlanD.fits (d : PlanD) : Prop where
  hs : d.heads.n ≤ 100000 ∧ ∀ x ∈ d.hs, x.w.n ≤ 100000
  ms : d.mta.n ≤ 100000
  ss : d.states.n ≤ 100000 ∧ ∀ x ∈ d.ss, x.cases.n ≤ 100000
  al : d.acts.n ≤ 100000 ∧ ∀ x ∈ d.al, x.w.n ≤ 100000 ∧ x.ops.n ≤ 100000 ∧ ∀ o ∈ x.os, o.e.n ≤ 100000
  ts : d.tabs.n ≤ 100000 ∧ ∀ x ∈ d.ts, x.keys.n ≤ 100000 ∧ x.acts.n ≤ 100000 ∧ x.args.n ≤ 100000
  ns : d.nodes.n ≤ 100000 ∧ ∀ x ∈ d.ns, x.e.n ≤ 100000
  os : d.out.n ≤ 100000

/-- a plan like d -/
def PlanDone (d : PlanD) (w : World) (e : Ending) (w' : World) : Prop := ∃ d' : PlanD, e = .returned d'.v ∧ d'.lie w' ∧ d'.nil0 ∧ d'.p = d.p ∧ Below w.heap.size w w'

theorem keep7 {w w' : World} {s : Nat} {v0 v1 v2 v3 v4 v5 v6 : Value} (h : w.cell? ⟨s, 0, none⟩ = some v0 ∧ w.cell? ⟨s, 1, none⟩ = some v1 ∧ w.cell? ⟨s, 2, none⟩ = some v2 ∧ w.cell? ⟨s, 3, none⟩ = some v3 ∧ w.cell? ⟨s, 4, none⟩ = some v4 ∧ w.cell? ⟨s, 5, none⟩ = some v5 ∧ w.cell? ⟨s, 6, none⟩ = some v6) (b : Below w.heap.size w w') : w'.cell? ⟨s, 0, none⟩ = some v0 ∧ w'.cell? ⟨s, 1, none⟩ = some v1 ∧ w'.cell? ⟨s, 2, none⟩ = some v2 ∧ w'.cell? ⟨s, 3, none⟩ = some v3 ∧ w'.cell? ⟨s, 4, none⟩ = some v4 ∧ w'.cell? ⟨s, 5, none⟩ = some v5 ∧ w'.cell? ⟨s, 6, none⟩ = some v6 :=
  ⟨cell_keep h.1 b, cell_keep h.2.1 b, cell_keep h.2.2.1 b, cell_keep h.2.2.2.1 b, cell_keep h.2.2.2.2.1 b, cell_keep h.2.2.2.2.2.1 b, cell_keep h.2.2.2.2.2.2 b⟩

theorem own_boxes (d : PlanD) (w : World) : ∃ W2 b0 b1, W2 = (w.alloc d.box).alloc (.cells #[.slice none 0 0, .slice none 0 0, .slice none 0 0, .slice none 0 0, .slice none 0 0, .slice none 0 0, .slice none 0 0] 38) ∧ b0 = w.heap.size ∧ b1 = w.heap.size + 1 ∧ W2.heap.size = w.heap.size + 2 ∧ (W2.cell? ⟨b0, 0, none⟩ = some (.slice d.heads.a d.heads.n d.heads.c) ∧ W2.cell? ⟨b0, 1, none⟩ = some (.slice d.mta.a d.mta.n d.mta.c) ∧ W2.cell? ⟨b0, 2, none⟩ = some (.slice d.states.a d.states.n d.states.c) ∧ W2.cell? ⟨b0, 3, none⟩ = some (.slice d.acts.a d.acts.n d.acts.c) ∧ W2.cell? ⟨b0, 4, none⟩ = some (.slice d.tabs.a d.tabs.n d.tabs.c) ∧ W2.cell? ⟨b0, 5, none⟩ = some (.slice d.nodes.a d.nodes.n d.nodes.c) ∧ W2.cell? ⟨b0, 6, none⟩ = some (.slice d.out.a d.out.n d.out.c)) ∧ (W2.cell? ⟨b1, 0, none⟩ = some (.slice none 0 0) ∧ W2.cell? ⟨b1, 1, none⟩ = some (.slice none 0 0) ∧ W2.cell? ⟨b1, 2, none⟩ = some (.slice none 0 0) ∧ W2.cell? ⟨b1, 3, none⟩ = some (.slice none 0 0) ∧ W2.cell? ⟨b1, 4, none⟩ = some (.slice none 0 0) ∧ W2.cell? ⟨b1, 5, none⟩ = some (.slice none 0 0) ∧ W2.cell? ⟨b1, 6, none⟩ = some (.slice none 0 0)) ∧ ∀ i, W2.frozen? ⟨b1, i, none⟩ = false := by
  refine ⟨_, _, _, rfl, rfl, rfl, by simp, ?_, ?_, ?_⟩
  · refine ⟨?_, ?_, ?_, ?_, ?_, ?_, ?_⟩ <;> exact (World.cell?_alloc_past _ _ _ (by simp)).trans ((World.cell?_alloc_at _ _ _ _ rfl).trans rfl)
  · refine ⟨?_, ?_, ?_, ?_, ?_, ?_, ?_⟩ <;> exact (World.cell?_alloc_at _ _ _ _ (by simp)).trans rfl
  · intro i
    exact World.frozen?_alloc_at _ _ _ _ (by simp)

theorem put7_st {w wx : World} {b1 : Nat} (hb : b1 < w.heap.size + 2) {v0 v1 v2 v3 v4 v5 v6 : Value} {α : Type} (K : Kd α) {s : QSl} {S : List α} (h : QRow K.k K.lie (mask (two w) (fun _ => Classical.propDecidable _) wx) s S) :
    QRow K.k K.lie ((((((((wx).setCell ⟨b1, 0, none⟩ v0).setCell ⟨b1, 1, none⟩ v1).setCell ⟨b1, 2, none⟩ v2).setCell ⟨b1, 3, none⟩ v3).setCell ⟨b1, 4, none⟩ v4).setCell ⟨b1, 5, none⟩ v5).setCell ⟨b1, 6, none⟩ v6) s S :=
  (h.step (Kd.keeps K) (two_abv ((((((((Abv.refl _ _).put hb _).put hb _).put hb _).put hb _).put hb _).put hb _).put hb _))).cov (Kd.covs K) (cov_mask _ _)

set_option maxHeartbeats 16000000 in
set_option maxRecDepth 20000 in
theorem own_plan (d : PlanD) (w : World) (hl : d.lie w) (h0 : d.nil0) (hf : d.fits) : Calls Tryz.prog 13 #[d.v] w (PlanDone d w) := by
  obtain ⟨W2, b0, b1, eW, e0, e1, hsz, hc, hz, hfz⟩ := own_boxes d w
  have HB : Hid (Below w.heap.size w W2) := by rw [eW]; exact bl_alloc (bl_alloc (Below.refl _ _))
  have HS := hid hsz
  have EW := hid eW
  have E0 := hid e0
  have E1 := hid e1
  have HZC := hid hz
  have HFZ := hid hfz
  obtain ⟨z0, z1, z2, z3, z4, z5, z6⟩ := hc
  have HC0 : Hid (∀ w', Below W2.heap.size W2 w' → Calls Tryz.prog 22 #[.slice d.heads.a d.heads.n d.heads.c, .func (.func 23) #[] #[]] w' (RowDone kHead HeadD.ws d.hs d.heads.n w')) := fun w' h => each_head d.heads d.hs w' (hl.hs.step HeadD.keeps (bl_step HB.out h)) h0.hs hf.hs.1 hf.hs.2
  have HC1 : Hid (∀ w', Below W2.heap.size W2 w' → Calls Tryz.prog 24 #[.slice d.mta.a d.mta.n d.mta.c] w' (RowDone kInt id d.ms d.mta.n w')) := fun w' h => (copied_int d.mta d.ms w' (hl.ms.step (bl_step HB.out h)) h0.ms hf.ms).mono fun _ _ h => h.rows hl.ms.2.1
  have HC2 : Hid (∀ w', Below W2.heap.size W2 w' → Calls Tryz.prog 25 #[.slice d.states.a d.states.n d.states.c, .func (.func 26) #[] #[]] w' (RowDone kState StateD.p d.ss d.states.n w')) := fun w' h => each_state d.states d.ss w' (hl.ss.step StateD.keeps (bl_step HB.out h)) h0.ss hf.ss.1 hf.ss.2
  have HC3 : Hid (∀ w', Below W2.heap.size W2 w' → Calls Tryz.prog 27 #[.slice d.acts.a d.acts.n d.acts.c, .func (.func 28) #[] #[]] w' (RowDone kAct ActD.p d.al d.acts.n w')) := fun w' h => each_act d.acts d.al w' (hl.al.step ActD.keeps (bl_step HB.out h)) h0.al hf.al.1 hf.al.2
  have HC4 : Hid (∀ w', Below W2.heap.size W2 w' → Calls Tryz.prog 29 #[.slice d.tabs.a d.tabs.n d.tabs.c, .func (.func 30) #[] #[]] w' (RowDone kTab TabD.p d.ts d.tabs.n w')) := fun w' h => each_tab d.tabs d.ts w' (hl.ts.step TabD.keeps (bl_step HB.out h)) h0.ts hf.ts.1 hf.ts.2
  have HC5 : Hid (∀ w', Below W2.heap.size W2 w' → Calls Tryz.prog 31 #[.slice d.nodes.a d.nodes.n d.nodes.c, .func (.func 32) #[] #[]] w' (RowDone kNode NodeD.p d.ns d.nodes.n w')) := fun w' h => each_node d.nodes d.ns w' (hl.ns.step NodeD.keeps (bl_step HB.out h)) h0.ns hf.ns.1 hf.ns.2
  have HC6 : Hid (∀ w', Below W2.heap.size W2 w' → Calls Tryz.prog 24 #[.slice d.out.a d.out.n d.out.c] w' (CopyDone kInt 3 d.os d.out.n w')) := fun w' h => copied_int d.out d.os w' (hl.os.step (bl_step HB.out h)) h0.os hf.os
  have HOW := hid hl.os.2.1
  have HSZ : Hid (∀ w', Below W2.heap.size W2 w' → w.heap.size + 2 ≤ w'.heap.size) := fun w' h => by rw [← hsz]; exact h.size
  have HT : Hid (∀ w', Below W2.heap.size W2 w' → (w'.cell? ⟨b1, 0, none⟩ = some (.slice none 0 0) ∧ w'.cell? ⟨b1, 1, none⟩ = some (.slice none 0 0) ∧ w'.cell? ⟨b1, 2, none⟩ = some (.slice none 0 0) ∧ w'.cell? ⟨b1, 3, none⟩ = some (.slice none 0 0) ∧ w'.cell? ⟨b1, 4, none⟩ = some (.slice none 0 0) ∧ w'.cell? ⟨b1, 5, none⟩ = some (.slice none 0 0) ∧ w'.cell? ⟨b1, 6, none⟩ = some (.slice none 0 0)) ∧ (w'.frozen? ⟨b1, 0, none⟩ = false ∧ w'.frozen? ⟨b1, 1, none⟩ = false ∧ w'.frozen? ⟨b1, 2, none⟩ = false ∧ w'.frozen? ⟨b1, 3, none⟩ = false ∧ w'.frozen? ⟨b1, 4, none⟩ = false ∧ w'.frozen? ⟨b1, 5, none⟩ = false ∧ w'.frozen? ⟨b1, 6, none⟩ = false) ∧ b1 < w'.heap.size) := fun w' h => by
    have hb : b1 < W2.heap.size := by rw [hsz, e1]; omega
    have hk : ∀ i v, W2.cell? ⟨b1, i, none⟩ = some v → w'.cell? ⟨b1, i, none⟩ = some v := fun i v hv => cell_keep hv h
    have hk' : ∀ i, w'.frozen? ⟨b1, i, none⟩ = false := fun i => (h.frozen (p := ⟨b1, i, none⟩) hb).trans (hfz i)
    exact ⟨⟨hk _ _ hz.1, hk _ _ hz.2.1, hk _ _ hz.2.2.1, hk _ _ hz.2.2.2.1, hk _ _ hz.2.2.2.2.1, hk _ _ hz.2.2.2.2.2.1, hk _ _ hz.2.2.2.2.2.2⟩, ⟨hk' 0, hk' 1, hk' 2, hk' 3, hk' 4, hk' 5, hk' 6⟩, Nat.lt_of_lt_of_le hb h.size⟩
  have HCUR := hid (Below.refl W2.heap.size W2).drew
  clear eW e0 e1 hl h0 hf hz hfz hsz
  go_enter Tryz.func13, Tryz.ntmps13
  go_wp2_with fail
  rw [← EW.out, ← E1.out, ← E0.out]
  have hne : ¬ (b0 = b1) := by rw [E0.out, E1.out]; omega
  have hne' : ¬ (b1 = b0) := by rw [E0.out, E1.out]; omega
  go_region_held3 (fun w' => w'.cell? ⟨b0, 0, none⟩ = some (.slice d.heads.a d.heads.n d.heads.c) ∧ w'.cell? ⟨b0, 1, none⟩ = some (.slice d.mta.a d.mta.n d.mta.c) ∧ w'.cell? ⟨b0, 2, none⟩ = some (.slice d.states.a d.states.n d.states.c) ∧ w'.cell? ⟨b0, 3, none⟩ = some (.slice d.acts.a d.acts.n d.acts.c) ∧ w'.cell? ⟨b0, 4, none⟩ = some (.slice d.tabs.a d.tabs.n d.tabs.c) ∧ w'.cell? ⟨b0, 5, none⟩ = some (.slice d.nodes.a d.nodes.n d.nodes.c) ∧ w'.cell? ⟨b0, 6, none⟩ = some (.slice d.out.a d.out.n d.out.c))
    (first
      | go_keep
      | (go_split_ands
         exact keep7 ⟨by assumption, by assumption, by assumption, by assumption, by assumption, by assumption, by assumption⟩ hbx))
    (first
      | (go_at_call 22; (with_reducible refine (HC0.out _ HCUR.out).mono ?_); rintro e wx ⟨a0, c0, L0, rfl, hr, hn, he, hbx⟩; have HR0 := hid (hr.cov (Kd.covs kHead) (two_new (w := w) (HSZ.out _ HCUR.out))); have HN0 := hid hn; have HL0 := hid he; clear hr hn he; have HCUR := hid (bl_step HCUR.out hbx))
      | (go_at_call 24; (with_reducible refine (HC1.out _ HCUR.out).mono ?_); rintro e wx ⟨a1, c1, L1, rfl, hr, hn, he, hbx⟩; have HR1 := hid (hr.cov (Kd.covs kInt) (two_new (w := w) (HSZ.out _ HCUR.out))); have HN1 := hid hn; have HL1 := hid he; clear hr hn he; have HR0 := hid (HR0.out.step (Kd.keeps kHead) (mask_step hbx)); have HCUR := hid (bl_step HCUR.out hbx))
      | (go_at_call 25; (with_reducible refine (HC2.out _ HCUR.out).mono ?_); rintro e wx ⟨a2, c2, L2, rfl, hr, hn, he, hbx⟩; have HR2 := hid (hr.cov (Kd.covs kState) (two_new (w := w) (HSZ.out _ HCUR.out))); have HN2 := hid hn; have HL2 := hid he; clear hr hn he; have HR0 := hid (HR0.out.step (Kd.keeps kHead) (mask_step hbx)); have HR1 := hid (HR1.out.step (Kd.keeps kInt) (mask_step hbx)); have HCUR := hid (bl_step HCUR.out hbx))
      | (go_at_call 27; (with_reducible refine (HC3.out _ HCUR.out).mono ?_); rintro e wx ⟨a3, c3, L3, rfl, hr, hn, he, hbx⟩; have HR3 := hid (hr.cov (Kd.covs kAct) (two_new (w := w) (HSZ.out _ HCUR.out))); have HN3 := hid hn; have HL3 := hid he; clear hr hn he; have HR0 := hid (HR0.out.step (Kd.keeps kHead) (mask_step hbx)); have HR1 := hid (HR1.out.step (Kd.keeps kInt) (mask_step hbx)); have HR2 := hid (HR2.out.step (Kd.keeps kState) (mask_step hbx)); have HCUR := hid (bl_step HCUR.out hbx))
      | (go_at_call 29; (with_reducible refine (HC4.out _ HCUR.out).mono ?_); rintro e wx ⟨a4, c4, L4, rfl, hr, hn, he, hbx⟩; have HR4 := hid (hr.cov (Kd.covs kTab) (two_new (w := w) (HSZ.out _ HCUR.out))); have HN4 := hid hn; have HL4 := hid he; clear hr hn he; have HR0 := hid (HR0.out.step (Kd.keeps kHead) (mask_step hbx)); have HR1 := hid (HR1.out.step (Kd.keeps kInt) (mask_step hbx)); have HR2 := hid (HR2.out.step (Kd.keeps kState) (mask_step hbx)); have HR3 := hid (HR3.out.step (Kd.keeps kAct) (mask_step hbx)); have HCUR := hid (bl_step HCUR.out hbx))
      | (go_at_call 31; (with_reducible refine (HC5.out _ HCUR.out).mono ?_); rintro e wx ⟨a5, c5, L5, rfl, hr, hn, he, hbx⟩; have HR5 := hid (hr.cov (Kd.covs kNode) (two_new (w := w) (HSZ.out _ HCUR.out))); have HN5 := hid hn; have HL5 := hid he; clear hr hn he; have HR0 := hid (HR0.out.step (Kd.keeps kHead) (mask_step hbx)); have HR1 := hid (HR1.out.step (Kd.keeps kInt) (mask_step hbx)); have HR2 := hid (HR2.out.step (Kd.keeps kState) (mask_step hbx)); have HR3 := hid (HR3.out.step (Kd.keeps kAct) (mask_step hbx)); have HR4 := hid (HR4.out.step (Kd.keeps kTab) (mask_step hbx)); have HCUR := hid (bl_step HCUR.out hbx))
      | (go_at_call 24; (with_reducible refine (HC6.out _ HCUR.out).mono ?_); rintro e wx ⟨a6, c6, rfl, ho, hbx⟩; have HR6 := hid ((fresh_row kInt ho HOW.out).cov (Kd.covs kInt) (two_new (w := w) (HSZ.out _ HCUR.out))); have HO6 := hid ho; clear ho; have HR0 := hid (HR0.out.step (Kd.keeps kHead) (mask_step hbx)); have HR1 := hid (HR1.out.step (Kd.keeps kInt) (mask_step hbx)); have HR2 := hid (HR2.out.step (Kd.keeps kState) (mask_step hbx)); have HR3 := hid (HR3.out.step (Kd.keeps kAct) (mask_step hbx)); have HR4 := hid (HR4.out.step (Kd.keeps kTab) (mask_step hbx)); have HR5 := hid (HR5.out.step (Kd.keeps kNode) (mask_step hbx)); have HCUR := hid (bl_step HCUR.out hbx); obtain ⟨⟨t0, t1, t2, t3, t4, t5, t6⟩, ⟨f0, f1, f2, f3, f4, f5, f6⟩, hb1⟩ := HT.out _ HCUR.out))
  all_goals
    have HE := hid (HB.out.trans (HCUR.out.mono HB.out.size))
    go_wp2
    refine bodyPost_ret (v := .agg #[.slice a0 d.heads.n c0, .slice a1 d.mta.n c1, .slice a2 d.states.n c2, .slice a3 d.acts.n c3, .slice a4 d.tabs.n c4, .slice a5 d.nodes.n c5, .slice a6 d.out.n c6]) (by simp [results, Tryz.results13, go_sem, *]) rfl ?_
    have HP : b1 < w.heap.size + 2 := by rw [E1.out]; omega
    obtain ⟨_, _, e6, hle6, _⟩ := own_is HO6.out
    simp only [Value.slice.injEq, true_and] at e6
    refine ⟨⟨⟨a0, d.heads.n, c0⟩, L0, ⟨a1, d.mta.n, c1⟩, L1, ⟨a2, d.states.n, c2⟩, L2, ⟨a3, d.acts.n, c3⟩, L3, ⟨a4, d.tabs.n, c4⟩, L4, ⟨a5, d.nodes.n, c5⟩, L5, ⟨a6, d.out.n, c6⟩, d.os⟩, rfl, ?_, ?_, ?_, ?_⟩
    · exact ⟨put7_st HP kHead HR0.out, row_hasI (put7_st HP kInt HR1.out), put7_st HP kState HR2.out, put7_st HP kAct HR3.out, put7_st HP kTab HR4.out, put7_st HP kNode HR5.out, row_hasI (put7_st HP kInt HR6.out), by rw [e6.2]; exact hle6⟩
    · exact ⟨HN0.out, HN1.out, HN2.out, HN3.out, HN4.out, HN5.out, Kd.own_nil0 HO6.out⟩
    · simp only [PlanD.p, HL0.out, map_id_eq HL1.out, HL2.out, HL3.out, HL4.out, HL5.out]
    · exact (((((((HE.out).setCell (by show w.heap.size ≤ b1; rw [E1.out]; omega) _).setCell (by show w.heap.size ≤ b1; rw [E1.out]; omega) _).setCell (by show w.heap.size ≤ b1; rw [E1.out]; omega) _).setCell (by show w.heap.size ≤ b1; rw [E1.out]; omega) _).setCell (by show w.heap.size ≤ b1; rw [E1.out]; omega) _).setCell (by show w.heap.size ≤ b1; rw [E1.out]; omega) _).setCell (by show w.heap.size ≤ b1; rw [E1.out]; omega) _
end Go.Proofs.YtajelgjbgehahaaGreat
