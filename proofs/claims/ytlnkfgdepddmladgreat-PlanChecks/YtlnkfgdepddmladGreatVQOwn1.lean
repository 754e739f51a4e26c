/- plan.Own: one thing of each kind in memory of its own. -/
import Derived.Test.YtlnkfgdepddmladGreatJ2
namespace Go.Proofs.YtlnkfgdepddmladGreat
open Go.RowKit

theorem sz0 (w : World) (o o' : Obj) : w.heap.size < ((w.alloc o).alloc o').heap.size := by simp; omega
theorem sz1 (w : World) (o o' : Obj) : w.heap.size + 1 < ((w.alloc o).alloc o').heap.size := by simp

theorem Kd.keeps {α : Type} (K : Kd α) : Keeps K.lie := fun h b => K.lay (fun j u hu => cell_keep (K.cell h j u hu) b) (K.step (K.out h) b)
theorem Kd.covs {α : Type} (K : Kd α) : Covs K.lie := fun h c => K.lay (fun j u hu => c.2 _ _ _ (K.cell h j u hu)) (K.cov (K.out h) c)

/-- from the block B on nothing is another one -/
structure Abv (B : Nat) (w w' : World) : Prop where
  os : w'.os = w.os
  tape : w'.tape = w.tape
  output : w'.output = w.output
  size : w'.heap.size = w.heap.size
  block : ∀ k, B ≤ k → w'.heap[k]? = w.heap[k]?

theorem Abv.refl (B : Nat) (w : World) : Abv B w w := ⟨rfl, rfl, rfl, rfl, fun _ _ => rfl⟩
theorem Abv.put {B : Nat} {a w : World} (h : Abv B a w) {p : Addr} (hp : p.block < B) (u : Value) : Abv B a (w.setCell p u) :=
  ⟨h.os, h.tape, h.output, by rw [World.size_setCell]; exact h.size, fun k hk => (Below.heap_setCell _ _ _ _ (by omega)).trans (h.block k hk)⟩

/-- what was there, and two blocks more -/
abbrev two (w : World) : Nat → Prop := fun b => b < w.heap.size + 2

theorem two_abv {w w1 w2 : World} (h : Abv (w.heap.size + 2) w1 w2) : Below (mask (two w) (fun _ => Classical.propDecidable _) w1).heap.size (mask (two w) (fun _ => Classical.propDecidable _) w1) (mask (two w) (fun _ => Classical.propDecidable _) w2) :=
  mask_below h.os h.tape h.output (Nat.le_of_eq h.size.symm) (fun _ h => h) fun k _ hF => ⟨hF, h.block k (Nat.le_of_not_lt hF)⟩
theorem two_new {w W w1 : World} (h : w.heap.size + 2 ≤ W.heap.size) : Cov (mask (old W) (fun _ => Classical.propDecidable _) w1) (mask (two w) (fun _ => Classical.propDecidable _) w1) := cov_less _ fun b (hb : b < w.heap.size + 2) => show b < W.heap.size by omega
theorem two_old (w w1 : World) : Cov (mask (two w) (fun _ => Classical.propDecidable _) w1) (mask (old w) (fun _ => Classical.propDecidable _) w1) := cov_less _ fun b (hb : b < w.heap.size) => show b < w.heap.size + 2 by omega

/-- what an 'own' tells of x: the like of it, in memory of its own -/
def OwnDone {α β : Type} (K : Kd α) (f : α → β) (x : α) (w : World) (e : Ending) (w' : World) : Prop :=
  ∃ x', e = .returned (.agg (K.cells x').toArray) ∧ f x' = f x ∧ K.inn x' (mask (old w) (fun _ => Classical.propDecidable _) w') ∧ Below w.heap.size w w'

/-- a row of such -/
def RowDone {α β : Type} (K : Kd α) (f : α → β) (S : List α) (n : Nat) (w : World) (e : Ending) (w' : World) : Prop :=
  ∃ a c L, e = .returned (.slice a n c) ∧ QRow K.k K.lie (mask (old w) (fun _ => Classical.propDecidable _) w') ⟨a, n, c⟩ L ∧ QSl.nil0 ⟨a, n, c⟩ ∧ L.map f = S.map f ∧ Below w.heap.size w w'

theorem CopyDone.rows {α : Type} {K : Kd α} {T : TypeId} {S : List α} {n : Nat} {w : World} {e : Ending} {w' : World} (h : CopyDone K T S n w e w') (hi : ∀ s ∈ S, K.inn s (mask (old w) (fun _ => Classical.propDecidable _) w')) : RowDone K id S n w e w' := by
  obtain ⟨a, c, e, h1, h2, h3⟩ := h.row hi
  exact ⟨a, c, S, e, h1, h2, rfl, h3⟩

theorem map_id_eq {α : Type} {L S : List α} (h : L.map id = S.map id) : L = S := by simpa using h

set_option maxHeartbeats 4000000 in
set_option maxRecDepth 20000 in
theorem ownHeader_any (x : HeadD) (w : World) (hi : kHead.inn x w) (hn : x.w.n ≤ 100000) : Calls Tryz.prog 69 #[.agg #[.slice x.w.a x.w.n x.w.c]] w (OwnDone kHead HeadD.ws x w) := by
  have HC0 : Hid (∀ w', Below w.heap.size w w' → Calls Tryz.prog 70 #[.slice x.w.a x.w.n x.w.c] w' (RowDone kInt id x.ws x.w.n w')) := fun w' hb => (copied_int x.w x.ws w' (hi.2.step hb) hi.1 hn).mono fun _ _ h => h.rows hi.2.2.1
  have HI := hid hi
  clear hi
  go_enter Tryz.func69, Tryz.ntmps69
  go_wp2_with fail
  refine (HC0.out _ (bl_alloc (bl_alloc (Below.refl _ _)))).mono ?_
  rintro e w1 ⟨a0, c0, L0, rfl, hr, hn0, he, hb⟩
  have p0_1 : w1.cell? ⟨w.heap.size, 0, none⟩ = some (.slice x.w.a x.w.n x.w.c) := (hb.cell (p := ⟨w.heap.size, 0, none⟩) (sz0 _ _ _)).trans (by simp)
  have q0_1 : w1.cell? ⟨w.heap.size + 1, 0, none⟩ = some (.slice none 0 0) := (hb.cell (p := ⟨w.heap.size + 1, 0, none⟩) (sz1 _ _ _)).trans (by simp)
  have r0_1 : w1.frozen? ⟨w.heap.size, 0, none⟩ = false := (hb.frozen (p := ⟨w.heap.size, 0, none⟩) (sz0 _ _ _)).trans (by simp)
  have s0_1 : w1.frozen? ⟨w.heap.size + 1, 0, none⟩ = false := (hb.frozen (p := ⟨w.heap.size + 1, 0, none⟩) (sz1 _ _ _)).trans (by simp)
  have HZ : Hid (w.heap.size + 2 ≤ w1.heap.size) := by have := hb.size; first | exact Nat.le_trans (sz1 _ _ _) this | (rw [World.size_setCell] at this; exact Nat.le_trans HZp.out this)
  have hz : w.heap.size + 1 < w1.heap.size := HZ.out
  have HR0 := hid (hr.cov (Kd.covs kInt) (two_new (w := w) (sz1 _ _ _)))
  have HN0 := hid hn0
  have HE0 := hid he
  have HB1 : Hid (Below w.heap.size w (w1.setCell ⟨w.heap.size, 0, none⟩ (.slice a0 x.w.n c0))) := ((bl_alloc (bl_alloc (Below.refl w.heap.size w))).trans (hb.mono (Nat.le_of_lt (sz0 _ _ _)))).setCell (Nat.le_refl _) _
  have HZp := HZ
  clear hr hn0 he hb HC0
  go_wp2
  refine bodyPost_ret (v := .agg #[.slice a0 x.w.n c0]) (by simp [results, Tryz.results69, go_sem, *]) rfl ?_
  refine ⟨⟨⟨a0, x.w.n, c0⟩, L0⟩, rfl, map_id_eq HE0.out, kHead.cov (kHead.step ⟨HN0.out, row_hasI HR0.out⟩ (two_abv (((Abv.refl _ _).put (by simp) _).put (by simp) _))) (two_old _ _), ?_⟩
  exact (HB1.out).setCell (Nat.le_succ _) _

set_option maxHeartbeats 4000000 in
set_option maxRecDepth 20000 in
theorem ownState_any (x : StateD) (w : World) (hi : kState.inn x w) (hn : x.cases.n ≤ 100000) : Calls Tryz.prog 72 #[.agg #[.int .i64 x.head, .int .i64 x.r.h, .int .i64 x.r.f, .slice x.cases.a x.cases.n x.cases.c, .int .i64 x.els]] w (OwnDone kState StateD.p x w) := by
  have HC0 : Hid (∀ w', Below w.heap.size w w' → Calls Tryz.prog 126 #[.slice x.cases.a x.cases.n x.cases.c] w' (RowDone kCase id x.cs x.cases.n w')) := fun w' hb => (copied_case x.cases x.cs w' (hi.2.step CaseD.keeps hb) hi.1.2.2.2.1 hn).mono fun _ _ h => h.rows (kCase.inns (w := w) hi.2)
  have HI := hid hi
  clear hi
  go_enter Tryz.func72, Tryz.ntmps72
  go_wp2_with fail
  refine (HC0.out _ (bl_alloc (bl_alloc (Below.refl _ _)))).mono ?_
  rintro e w1 ⟨a0, c0, L0, rfl, hr, hn0, he, hb⟩
  have p0_1 : w1.cell? ⟨w.heap.size, 0, none⟩ = some (.int .i64 x.head) := (hb.cell (p := ⟨w.heap.size, 0, none⟩) (sz0 _ _ _)).trans (by simp)
  have q0_1 : w1.cell? ⟨w.heap.size + 1, 0, none⟩ = some (.int .i64 0) := (hb.cell (p := ⟨w.heap.size + 1, 0, none⟩) (sz1 _ _ _)).trans (by simp)
  have r0_1 : w1.frozen? ⟨w.heap.size, 0, none⟩ = false := (hb.frozen (p := ⟨w.heap.size, 0, none⟩) (sz0 _ _ _)).trans (by simp)
  have s0_1 : w1.frozen? ⟨w.heap.size + 1, 0, none⟩ = false := (hb.frozen (p := ⟨w.heap.size + 1, 0, none⟩) (sz1 _ _ _)).trans (by simp)
  have p1_1 : w1.cell? ⟨w.heap.size, 1, none⟩ = some (.int .i64 x.r.h) := (hb.cell (p := ⟨w.heap.size, 1, none⟩) (sz0 _ _ _)).trans (by simp)
  have q1_1 : w1.cell? ⟨w.heap.size + 1, 1, none⟩ = some (.int .i64 0) := (hb.cell (p := ⟨w.heap.size + 1, 1, none⟩) (sz1 _ _ _)).trans (by simp)
  have r1_1 : w1.frozen? ⟨w.heap.size, 1, none⟩ = false := (hb.frozen (p := ⟨w.heap.size, 1, none⟩) (sz0 _ _ _)).trans (by simp)
  have s1_1 : w1.frozen? ⟨w.heap.size + 1, 1, none⟩ = false := (hb.frozen (p := ⟨w.heap.size + 1, 1, none⟩) (sz1 _ _ _)).trans (by simp)
  have p2_1 : w1.cell? ⟨w.heap.size, 2, none⟩ = some (.int .i64 x.r.f) := (hb.cell (p := ⟨w.heap.size, 2, none⟩) (sz0 _ _ _)).trans (by simp)
  have q2_1 : w1.cell? ⟨w.heap.size + 1, 2, none⟩ = some (.int .i64 0) := (hb.cell (p := ⟨w.heap.size + 1, 2, none⟩) (sz1 _ _ _)).trans (by simp)
  have r2_1 : w1.frozen? ⟨w.heap.size, 2, none⟩ = false := (hb.frozen (p := ⟨w.heap.size, 2, none⟩) (sz0 _ _ _)).trans (by simp)
  have s2_1 : w1.frozen? ⟨w.heap.size + 1, 2, none⟩ = false := (hb.frozen (p := ⟨w.heap.size + 1, 2, none⟩) (sz1 _ _ _)).trans (by simp)
  have p3_1 : w1.cell? ⟨w.heap.size, 3, none⟩ = some (.slice x.cases.a x.cases.n x.cases.c) := (hb.cell (p := ⟨w.heap.size, 3, none⟩) (sz0 _ _ _)).trans (by simp)
  have q3_1 : w1.cell? ⟨w.heap.size + 1, 3, none⟩ = some (.slice none 0 0) := (hb.cell (p := ⟨w.heap.size + 1, 3, none⟩) (sz1 _ _ _)).trans (by simp)
  have r3_1 : w1.frozen? ⟨w.heap.size, 3, none⟩ = false := (hb.frozen (p := ⟨w.heap.size, 3, none⟩) (sz0 _ _ _)).trans (by simp)
  have s3_1 : w1.frozen? ⟨w.heap.size + 1, 3, none⟩ = false := (hb.frozen (p := ⟨w.heap.size + 1, 3, none⟩) (sz1 _ _ _)).trans (by simp)
  have p4_1 : w1.cell? ⟨w.heap.size, 4, none⟩ = some (.int .i64 x.els) := (hb.cell (p := ⟨w.heap.size, 4, none⟩) (sz0 _ _ _)).trans (by simp)
  have q4_1 : w1.cell? ⟨w.heap.size + 1, 4, none⟩ = some (.int .i64 0) := (hb.cell (p := ⟨w.heap.size + 1, 4, none⟩) (sz1 _ _ _)).trans (by simp)
  have r4_1 : w1.frozen? ⟨w.heap.size, 4, none⟩ = false := (hb.frozen (p := ⟨w.heap.size, 4, none⟩) (sz0 _ _ _)).trans (by simp)
  have s4_1 : w1.frozen? ⟨w.heap.size + 1, 4, none⟩ = false := (hb.frozen (p := ⟨w.heap.size + 1, 4, none⟩) (sz1 _ _ _)).trans (by simp)
  have HZ : Hid (w.heap.size + 2 ≤ w1.heap.size) := by have := hb.size; first | exact Nat.le_trans (sz1 _ _ _) this | (rw [World.size_setCell] at this; exact Nat.le_trans HZp.out this)
  have hz : w.heap.size + 1 < w1.heap.size := HZ.out
  have HR0 := hid (hr.cov (Kd.covs kCase) (two_new (w := w) (sz1 _ _ _)))
  have HN0 := hid hn0
  have HE0 := hid he
  have HB1 : Hid (Below w.heap.size w (w1.setCell ⟨w.heap.size, 3, none⟩ (.slice a0 x.cases.n c0))) := ((bl_alloc (bl_alloc (Below.refl w.heap.size w))).trans (hb.mono (Nat.le_of_lt (sz0 _ _ _)))).setCell (Nat.le_refl _) _
  have HZp := HZ
  clear hr hn0 he hb HC0
  go_wp2
  refine bodyPost_ret (v := .agg #[.int .i64 x.head, .int .i64 x.r.h, .int .i64 x.r.f, .slice a0 x.cases.n c0, .int .i64 x.els]) (by simp [results, Tryz.results72, go_sem, *]) rfl ?_
  refine ⟨⟨x.head, x.r, ⟨a0, x.cases.n, c0⟩, L0, x.els⟩, rfl, by rw [map_id_eq HE0.out]; rfl, kState.cov (kState.step ⟨⟨HI.out.1.1, HI.out.1.2.1, HI.out.1.2.2.1, HN0.out, HI.out.1.2.2.2.2⟩, HR0.out⟩ (two_abv (((((((Abv.refl _ _).put (by simp) _).put (by simp) _).put (by simp) _).put (by simp) _).put (by simp) _).put (by simp) _))) (two_old _ _), ?_⟩
  exact (((((HB1.out).setCell (Nat.le_succ _) _).setCell (Nat.le_succ _) _).setCell (Nat.le_succ _) _).setCell (Nat.le_succ _) _).setCell (Nat.le_succ _) _

set_option maxHeartbeats 4000000 in
set_option maxRecDepth 20000 in
theorem ownOp_any (x : OpD) (w : World) (hi : kOp.inn x w) (hn : x.e.n ≤ 100000) : Calls Tryz.prog 129 #[.agg #[.int .i64 x.kind, .int .i64 x.r.h, .int .i64 x.r.f, .int .i64 x.head, .slice x.e.a x.e.n x.e.c]] w (OwnDone kOp OpD.p x w) := by
  have HC0 : Hid (∀ w', Below w.heap.size w w' → Calls Tryz.prog 134 #[.slice x.e.a x.e.n x.e.c] w' (RowDone kPush id x.es x.e.n w')) := fun w' hb => (copied_push x.e x.es w' (hi.2.step PushD.keeps hb) hi.1.2.2.2.2 hn).mono fun _ _ h => h.rows (kPush.inns (w := w) hi.2)
  have HI := hid hi
  clear hi
  go_enter Tryz.func129, Tryz.ntmps129
  go_wp2_with fail
  refine (HC0.out _ (bl_alloc (bl_alloc (Below.refl _ _)))).mono ?_
  rintro e w1 ⟨a0, c0, L0, rfl, hr, hn0, he, hb⟩
  have p0_1 : w1.cell? ⟨w.heap.size, 0, none⟩ = some (.int .i64 x.kind) := (hb.cell (p := ⟨w.heap.size, 0, none⟩) (sz0 _ _ _)).trans (by simp)
  have q0_1 : w1.cell? ⟨w.heap.size + 1, 0, none⟩ = some (.int .i64 0) := (hb.cell (p := ⟨w.heap.size + 1, 0, none⟩) (sz1 _ _ _)).trans (by simp)
  have r0_1 : w1.frozen? ⟨w.heap.size, 0, none⟩ = false := (hb.frozen (p := ⟨w.heap.size, 0, none⟩) (sz0 _ _ _)).trans (by simp)
  have s0_1 : w1.frozen? ⟨w.heap.size + 1, 0, none⟩ = false := (hb.frozen (p := ⟨w.heap.size + 1, 0, none⟩) (sz1 _ _ _)).trans (by simp)
  have p1_1 : w1.cell? ⟨w.heap.size, 1, none⟩ = some (.int .i64 x.r.h) := (hb.cell (p := ⟨w.heap.size, 1, none⟩) (sz0 _ _ _)).trans (by simp)
  have q1_1 : w1.cell? ⟨w.heap.size + 1, 1, none⟩ = some (.int .i64 0) := (hb.cell (p := ⟨w.heap.size + 1, 1, none⟩) (sz1 _ _ _)).trans (by simp)
  have r1_1 : w1.frozen? ⟨w.heap.size, 1, none⟩ = false := (hb.frozen (p := ⟨w.heap.size, 1, none⟩) (sz0 _ _ _)).trans (by simp)
  have s1_1 : w1.frozen? ⟨w.heap.size + 1, 1, none⟩ = false := (hb.frozen (p := ⟨w.heap.size + 1, 1, none⟩) (sz1 _ _ _)).trans (by simp)
  have p2_1 : w1.cell? ⟨w.heap.size, 2, none⟩ = some (.int .i64 x.r.f) := (hb.cell (p := ⟨w.heap.size, 2, none⟩) (sz0 _ _ _)).trans (by simp)
  have q2_1 : w1.cell? ⟨w.heap.size + 1, 2, none⟩ = some (.int .i64 0) := (hb.cell (p := ⟨w.heap.size + 1, 2, none⟩) (sz1 _ _ _)).trans (by simp)
  have r2_1 : w1.frozen? ⟨w.heap.size, 2, none⟩ = false := (hb.frozen (p := ⟨w.heap.size, 2, none⟩) (sz0 _ _ _)).trans (by simp)
  have s2_1 : w1.frozen? ⟨w.heap.size + 1, 2, none⟩ = false := (hb.frozen (p := ⟨w.heap.size + 1, 2, none⟩) (sz1 _ _ _)).trans (by simp)
  have p3_1 : w1.cell? ⟨w.heap.size, 3, none⟩ = some (.int .i64 x.head) := (hb.cell (p := ⟨w.heap.size, 3, none⟩) (sz0 _ _ _)).trans (by simp)
  have q3_1 : w1.cell? ⟨w.heap.size + 1, 3, none⟩ = some (.int .i64 0) := (hb.cell (p := ⟨w.heap.size + 1, 3, none⟩) (sz1 _ _ _)).trans (by simp)
  have r3_1 : w1.frozen? ⟨w.heap.size, 3, none⟩ = false := (hb.frozen (p := ⟨w.heap.size, 3, none⟩) (sz0 _ _ _)).trans (by simp)
  have s3_1 : w1.frozen? ⟨w.heap.size + 1, 3, none⟩ = false := (hb.frozen (p := ⟨w.heap.size + 1, 3, none⟩) (sz1 _ _ _)).trans (by simp)
  have p4_1 : w1.cell? ⟨w.heap.size, 4, none⟩ = some (.slice x.e.a x.e.n x.e.c) := (hb.cell (p := ⟨w.heap.size, 4, none⟩) (sz0 _ _ _)).trans (by simp)
  have q4_1 : w1.cell? ⟨w.heap.size + 1, 4, none⟩ = some (.slice none 0 0) := (hb.cell (p := ⟨w.heap.size + 1, 4, none⟩) (sz1 _ _ _)).trans (by simp)
  have r4_1 : w1.frozen? ⟨w.heap.size, 4, none⟩ = false := (hb.frozen (p := ⟨w.heap.size, 4, none⟩) (sz0 _ _ _)).trans (by simp)
  have s4_1 : w1.frozen? ⟨w.heap.size + 1, 4, none⟩ = false := (hb.frozen (p := ⟨w.heap.size + 1, 4, none⟩) (sz1 _ _ _)).trans (by simp)
  have HZ : Hid (w.heap.size + 2 ≤ w1.heap.size) := by have := hb.size; first | exact Nat.le_trans (sz1 _ _ _) this | (rw [World.size_setCell] at this; exact Nat.le_trans HZp.out this)
  have hz : w.heap.size + 1 < w1.heap.size := HZ.out
  have HR0 := hid (hr.cov (Kd.covs kPush) (two_new (w := w) (sz1 _ _ _)))
  have HN0 := hid hn0
  have HE0 := hid he
  have HB1 : Hid (Below w.heap.size w (w1.setCell ⟨w.heap.size, 4, none⟩ (.slice a0 x.e.n c0))) := ((bl_alloc (bl_alloc (Below.refl w.heap.size w))).trans (hb.mono (Nat.le_of_lt (sz0 _ _ _)))).setCell (Nat.le_refl _) _
  have HZp := HZ
  clear hr hn0 he hb HC0
  go_wp2
  refine bodyPost_ret (v := .agg #[.int .i64 x.kind, .int .i64 x.r.h, .int .i64 x.r.f, .int .i64 x.head, .slice a0 x.e.n c0]) (by simp [results, Tryz.results129, go_sem, *]) rfl ?_
  refine ⟨⟨x.kind, x.r, x.head, ⟨a0, x.e.n, c0⟩, L0⟩, rfl, by rw [map_id_eq HE0.out]; rfl, kOp.cov (kOp.step ⟨⟨HI.out.1.1, HI.out.1.2.1, HI.out.1.2.2.1, HI.out.1.2.2.2.1, HN0.out⟩, HR0.out⟩ (two_abv (((((((Abv.refl _ _).put (by simp) _).put (by simp) _).put (by simp) _).put (by simp) _).put (by simp) _).put (by simp) _))) (two_old _ _), ?_⟩
  exact (((((HB1.out).setCell (Nat.le_succ _) _).setCell (Nat.le_succ _) _).setCell (Nat.le_succ _) _).setCell (Nat.le_succ _) _).setCell (Nat.le_succ _) _

set_option maxHeartbeats 4000000 in
set_option maxRecDepth 20000 in
theorem ownNode_any (x : NodeD) (w : World) (hi : kNode.inn x w) (hn : x.e.n ≤ 100000) : Calls Tryz.prog 78 #[.agg #[.int .i64 x.kind, .int .i64 x.n, .slice x.e.a x.e.n x.e.c, .int .i64 x.yes, .int .i64 x.no]] w (OwnDone kNode NodeD.p x w) := by
  have HC0 : Hid (∀ w', Below w.heap.size w w' → Calls Tryz.prog 134 #[.slice x.e.a x.e.n x.e.c] w' (RowDone kPush id x.es x.e.n w')) := fun w' hb => (copied_push x.e x.es w' (hi.2.step PushD.keeps hb) hi.1.2.2.1 hn).mono fun _ _ h => h.rows (kPush.inns (w := w) hi.2)
  have HI := hid hi
  clear hi
  go_enter Tryz.func78, Tryz.ntmps78
  go_wp2_with fail
  refine (HC0.out _ (bl_alloc (bl_alloc (Below.refl _ _)))).mono ?_
  rintro e w1 ⟨a0, c0, L0, rfl, hr, hn0, he, hb⟩
  have p0_1 : w1.cell? ⟨w.heap.size, 0, none⟩ = some (.int .i64 x.kind) := (hb.cell (p := ⟨w.heap.size, 0, none⟩) (sz0 _ _ _)).trans (by simp)
  have q0_1 : w1.cell? ⟨w.heap.size + 1, 0, none⟩ = some (.int .i64 0) := (hb.cell (p := ⟨w.heap.size + 1, 0, none⟩) (sz1 _ _ _)).trans (by simp)
  have r0_1 : w1.frozen? ⟨w.heap.size, 0, none⟩ = false := (hb.frozen (p := ⟨w.heap.size, 0, none⟩) (sz0 _ _ _)).trans (by simp)
  have s0_1 : w1.frozen? ⟨w.heap.size + 1, 0, none⟩ = false := (hb.frozen (p := ⟨w.heap.size + 1, 0, none⟩) (sz1 _ _ _)).trans (by simp)
  have p1_1 : w1.cell? ⟨w.heap.size, 1, none⟩ = some (.int .i64 x.n) := (hb.cell (p := ⟨w.heap.size, 1, none⟩) (sz0 _ _ _)).trans (by simp)
  have q1_1 : w1.cell? ⟨w.heap.size + 1, 1, none⟩ = some (.int .i64 0) := (hb.cell (p := ⟨w.heap.size + 1, 1, none⟩) (sz1 _ _ _)).trans (by simp)
  have r1_1 : w1.frozen? ⟨w.heap.size, 1, none⟩ = false := (hb.frozen (p := ⟨w.heap.size, 1, none⟩) (sz0 _ _ _)).trans (by simp)
  have s1_1 : w1.frozen? ⟨w.heap.size + 1, 1, none⟩ = false := (hb.frozen (p := ⟨w.heap.size + 1, 1, none⟩) (sz1 _ _ _)).trans (by simp)
  have p2_1 : w1.cell? ⟨w.heap.size, 2, none⟩ = some (.slice x.e.a x.e.n x.e.c) := (hb.cell (p := ⟨w.heap.size, 2, none⟩) (sz0 _ _ _)).trans (by simp)
  have q2_1 : w1.cell? ⟨w.heap.size + 1, 2, none⟩ = some (.slice none 0 0) := (hb.cell (p := ⟨w.heap.size + 1, 2, none⟩) (sz1 _ _ _)).trans (by simp)
  have r2_1 : w1.frozen? ⟨w.heap.size, 2, none⟩ = false := (hb.frozen (p := ⟨w.heap.size, 2, none⟩) (sz0 _ _ _)).trans (by simp)
  have s2_1 : w1.frozen? ⟨w.heap.size + 1, 2, none⟩ = false := (hb.frozen (p := ⟨w.heap.size + 1, 2, none⟩) (sz1 _ _ _)).trans (by simp)
  have p3_1 : w1.cell? ⟨w.heap.size, 3, none⟩ = some (.int .i64 x.yes) := (hb.cell (p := ⟨w.heap.size, 3, none⟩) (sz0 _ _ _)).trans (by simp)
  have q3_1 : w1.cell? ⟨w.heap.size + 1, 3, none⟩ = some (.int .i64 0) := (hb.cell (p := ⟨w.heap.size + 1, 3, none⟩) (sz1 _ _ _)).trans (by simp)
  have r3_1 : w1.frozen? ⟨w.heap.size, 3, none⟩ = false := (hb.frozen (p := ⟨w.heap.size, 3, none⟩) (sz0 _ _ _)).trans (by simp)
  have s3_1 : w1.frozen? ⟨w.heap.size + 1, 3, none⟩ = false := (hb.frozen (p := ⟨w.heap.size + 1, 3, none⟩) (sz1 _ _ _)).trans (by simp)
  have p4_1 : w1.cell? ⟨w.heap.size, 4, none⟩ = some (.int .i64 x.no) := (hb.cell (p := ⟨w.heap.size, 4, none⟩) (sz0 _ _ _)).trans (by simp)
  have q4_1 : w1.cell? ⟨w.heap.size + 1, 4, none⟩ = some (.int .i64 0) := (hb.cell (p := ⟨w.heap.size + 1, 4, none⟩) (sz1 _ _ _)).trans (by simp)
  have r4_1 : w1.frozen? ⟨w.heap.size, 4, none⟩ = false := (hb.frozen (p := ⟨w.heap.size, 4, none⟩) (sz0 _ _ _)).trans (by simp)
  have s4_1 : w1.frozen? ⟨w.heap.size + 1, 4, none⟩ = false := (hb.frozen (p := ⟨w.heap.size + 1, 4, none⟩) (sz1 _ _ _)).trans (by simp)
  have HZ : Hid (w.heap.size + 2 ≤ w1.heap.size) := by have := hb.size; first | exact Nat.le_trans (sz1 _ _ _) this | (rw [World.size_setCell] at this; exact Nat.le_trans HZp.out this)
  have hz : w.heap.size + 1 < w1.heap.size := HZ.out
  have HR0 := hid (hr.cov (Kd.covs kPush) (two_new (w := w) (sz1 _ _ _)))
  have HN0 := hid hn0
  have HE0 := hid he
  have HB1 : Hid (Below w.heap.size w (w1.setCell ⟨w.heap.size, 2, none⟩ (.slice a0 x.e.n c0))) := ((bl_alloc (bl_alloc (Below.refl w.heap.size w))).trans (hb.mono (Nat.le_of_lt (sz0 _ _ _)))).setCell (Nat.le_refl _) _
  have HZp := HZ
  clear hr hn0 he hb HC0
  go_wp2
  refine bodyPost_ret (v := .agg #[.int .i64 x.kind, .int .i64 x.n, .slice a0 x.e.n c0, .int .i64 x.yes, .int .i64 x.no]) (by simp [results, Tryz.results78, go_sem, *]) rfl ?_
  refine ⟨⟨x.kind, x.n, ⟨a0, x.e.n, c0⟩, L0, x.yes, x.no⟩, rfl, by rw [map_id_eq HE0.out]; rfl, kNode.cov (kNode.step ⟨⟨HI.out.1.1, HI.out.1.2.1, HN0.out, HI.out.1.2.2.2.1, HI.out.1.2.2.2.2⟩, HR0.out⟩ (two_abv (((((((Abv.refl _ _).put (by simp) _).put (by simp) _).put (by simp) _).put (by simp) _).put (by simp) _).put (by simp) _))) (two_old _ _), ?_⟩
  exact (((((HB1.out).setCell (Nat.le_succ _) _).setCell (Nat.le_succ _) _).setCell (Nat.le_succ _) _).setCell (Nat.le_succ _) _).setCell (Nat.le_succ _) _

set_option maxHeartbeats 4000000 in
set_option maxRecDepth 20000 in
theorem ownTable_any (x : TabD) (w : World) (hi : kTab.inn x w) (hn : x.keys.n ≤ 100000 ∧ x.acts.n ≤ 100000 ∧ x.args.n ≤ 100000) : Calls Tryz.prog 76 #[.agg #[.int .i64 x.kind, .slice x.keys.a x.keys.n x.keys.c, .slice x.acts.a x.acts.n x.acts.c, .int .i64 x.cap, .int .i64 x.dflt, .slice x.args.a x.args.n x.args.c]] w (OwnDone kTab TabD.p x w) := by
  have HC0 : Hid (∀ w', Below w.heap.size w w' → Calls Tryz.prog 131 #[.slice x.keys.a x.keys.n x.keys.c] w' (RowDone kRef id x.ks x.keys.n w')) := fun w' hb => (copied_ref x.keys x.ks w' (hi.2.1.step RefD.keeps hb) hi.1.2.1 hn.1).mono fun _ _ h => h.rows (kRef.inns (w := w) hi.2.1)
  have HC1 : Hid (∀ w', Below w.heap.size w w' → Calls Tryz.prog 70 #[.slice x.acts.a x.acts.n x.acts.c] w' (RowDone kInt id x.al x.acts.n w')) := fun w' hb => (copied_int x.acts x.al w' (hi.2.2.1.step hb) hi.1.2.2.1 hn.2.1).mono fun _ _ h => h.rows hi.2.2.1.2.1
  have HC2 : Hid (∀ w', Below w.heap.size w w' → Calls Tryz.prog 132 #[.slice x.args.a x.args.n x.args.c] w' (RowDone kNum id x.zs x.args.n w')) := fun w' hb => (copied_num x.args x.zs w' (hi.2.2.2.step hb) hi.1.2.2.2.2.2 hn.2.2).mono fun _ _ h => h.rows hi.2.2.2.2.1
  have HI := hid hi
  clear hi
  go_enter Tryz.func76, Tryz.ntmps76
  go_wp2_with fail
  refine (HC0.out _ (bl_alloc (bl_alloc (Below.refl _ _)))).mono ?_
  rintro e w1 ⟨a0, c0, L0, rfl, hr, hn0, he, hb⟩
  have p0_1 : w1.cell? ⟨w.heap.size, 0, none⟩ = some (.int .i64 x.kind) := (hb.cell (p := ⟨w.heap.size, 0, none⟩) (sz0 _ _ _)).trans (by simp)
  have q0_1 : w1.cell? ⟨w.heap.size + 1, 0, none⟩ = some (.int .i64 0) := (hb.cell (p := ⟨w.heap.size + 1, 0, none⟩) (sz1 _ _ _)).trans (by simp)
  have r0_1 : w1.frozen? ⟨w.heap.size, 0, none⟩ = false := (hb.frozen (p := ⟨w.heap.size, 0, none⟩) (sz0 _ _ _)).trans (by simp)
  have s0_1 : w1.frozen? ⟨w.heap.size + 1, 0, none⟩ = false := (hb.frozen (p := ⟨w.heap.size + 1, 0, none⟩) (sz1 _ _ _)).trans (by simp)
  have p1_1 : w1.cell? ⟨w.heap.size, 1, none⟩ = some (.slice x.keys.a x.keys.n x.keys.c) := (hb.cell (p := ⟨w.heap.size, 1, none⟩) (sz0 _ _ _)).trans (by simp)
  have q1_1 : w1.cell? ⟨w.heap.size + 1, 1, none⟩ = some (.slice none 0 0) := (hb.cell (p := ⟨w.heap.size + 1, 1, none⟩) (sz1 _ _ _)).trans (by simp)
  have r1_1 : w1.frozen? ⟨w.heap.size, 1, none⟩ = false := (hb.frozen (p := ⟨w.heap.size, 1, none⟩) (sz0 _ _ _)).trans (by simp)
  have s1_1 : w1.frozen? ⟨w.heap.size + 1, 1, none⟩ = false := (hb.frozen (p := ⟨w.heap.size + 1, 1, none⟩) (sz1 _ _ _)).trans (by simp)
  have p2_1 : w1.cell? ⟨w.heap.size, 2, none⟩ = some (.slice x.acts.a x.acts.n x.acts.c) := (hb.cell (p := ⟨w.heap.size, 2, none⟩) (sz0 _ _ _)).trans (by simp)
  have q2_1 : w1.cell? ⟨w.heap.size + 1, 2, none⟩ = some (.slice none 0 0) := (hb.cell (p := ⟨w.heap.size + 1, 2, none⟩) (sz1 _ _ _)).trans (by simp)
  have r2_1 : w1.frozen? ⟨w.heap.size, 2, none⟩ = false := (hb.frozen (p := ⟨w.heap.size, 2, none⟩) (sz0 _ _ _)).trans (by simp)
  have s2_1 : w1.frozen? ⟨w.heap.size + 1, 2, none⟩ = false := (hb.frozen (p := ⟨w.heap.size + 1, 2, none⟩) (sz1 _ _ _)).trans (by simp)
  have p3_1 : w1.cell? ⟨w.heap.size, 3, none⟩ = some (.int .i64 x.cap) := (hb.cell (p := ⟨w.heap.size, 3, none⟩) (sz0 _ _ _)).trans (by simp)
  have q3_1 : w1.cell? ⟨w.heap.size + 1, 3, none⟩ = some (.int .i64 0) := (hb.cell (p := ⟨w.heap.size + 1, 3, none⟩) (sz1 _ _ _)).trans (by simp)
  have r3_1 : w1.frozen? ⟨w.heap.size, 3, none⟩ = false := (hb.frozen (p := ⟨w.heap.size, 3, none⟩) (sz0 _ _ _)).trans (by simp)
  have s3_1 : w1.frozen? ⟨w.heap.size + 1, 3, none⟩ = false := (hb.frozen (p := ⟨w.heap.size + 1, 3, none⟩) (sz1 _ _ _)).trans (by simp)
  have p4_1 : w1.cell? ⟨w.heap.size, 4, none⟩ = some (.int .i64 x.dflt) := (hb.cell (p := ⟨w.heap.size, 4, none⟩) (sz0 _ _ _)).trans (by simp)
  have q4_1 : w1.cell? ⟨w.heap.size + 1, 4, none⟩ = some (.int .i64 0) := (hb.cell (p := ⟨w.heap.size + 1, 4, none⟩) (sz1 _ _ _)).trans (by simp)
  have r4_1 : w1.frozen? ⟨w.heap.size, 4, none⟩ = false := (hb.frozen (p := ⟨w.heap.size, 4, none⟩) (sz0 _ _ _)).trans (by simp)
  have s4_1 : w1.frozen? ⟨w.heap.size + 1, 4, none⟩ = false := (hb.frozen (p := ⟨w.heap.size + 1, 4, none⟩) (sz1 _ _ _)).trans (by simp)
  have p5_1 : w1.cell? ⟨w.heap.size, 5, none⟩ = some (.slice x.args.a x.args.n x.args.c) := (hb.cell (p := ⟨w.heap.size, 5, none⟩) (sz0 _ _ _)).trans (by simp)
  have q5_1 : w1.cell? ⟨w.heap.size + 1, 5, none⟩ = some (.slice none 0 0) := (hb.cell (p := ⟨w.heap.size + 1, 5, none⟩) (sz1 _ _ _)).trans (by simp)
  have r5_1 : w1.frozen? ⟨w.heap.size, 5, none⟩ = false := (hb.frozen (p := ⟨w.heap.size, 5, none⟩) (sz0 _ _ _)).trans (by simp)
  have s5_1 : w1.frozen? ⟨w.heap.size + 1, 5, none⟩ = false := (hb.frozen (p := ⟨w.heap.size + 1, 5, none⟩) (sz1 _ _ _)).trans (by simp)
  have HZ : Hid (w.heap.size + 2 ≤ w1.heap.size) := by have := hb.size; first | exact Nat.le_trans (sz1 _ _ _) this | (rw [World.size_setCell] at this; exact Nat.le_trans HZp.out this)
  have hz : w.heap.size + 1 < w1.heap.size := HZ.out
  have HR0 := hid (hr.cov (Kd.covs kRef) (two_new (w := w) (sz1 _ _ _)))
  have HN0 := hid hn0
  have HE0 := hid he
  have HB1 : Hid (Below w.heap.size w (w1.setCell ⟨w.heap.size, 1, none⟩ (.slice a0 x.keys.n c0))) := ((bl_alloc (bl_alloc (Below.refl w.heap.size w))).trans (hb.mono (Nat.le_of_lt (sz0 _ _ _)))).setCell (Nat.le_refl _) _
  have HZp := HZ
  clear hr hn0 he hb HC0
  have hzp := hz
  clear hz
  go_wp2_with fail
  refine (HC1.out _ HB1.out).mono ?_
  rintro e w2 ⟨a1, c1, L1, rfl, hr, hn0, he, hb⟩
  have p0_2 : w2.cell? ⟨w.heap.size, 0, none⟩ = some (.int .i64 x.kind) := (hb.cell (p := ⟨w.heap.size, 0, none⟩) (by rw [World.size_setCell]; show w.heap.size < _; omega)).trans (((World.cell?_setCell_other _ _ _ _ (by simp)).trans p0_1))
  have q0_2 : w2.cell? ⟨w.heap.size + 1, 0, none⟩ = some (.int .i64 0) := (hb.cell (p := ⟨w.heap.size + 1, 0, none⟩) (by rw [World.size_setCell]; show w.heap.size + 1 < _; omega)).trans ((World.cell?_setCell_other _ _ _ _ (by simp)).trans q0_1)
  have r0_2 : w2.frozen? ⟨w.heap.size, 0, none⟩ = false := (hb.frozen (p := ⟨w.heap.size, 0, none⟩) (by rw [World.size_setCell]; show w.heap.size < _; omega)).trans ((World.frozen?_setCell _ _ _ _).trans r0_1)
  have s0_2 : w2.frozen? ⟨w.heap.size + 1, 0, none⟩ = false := (hb.frozen (p := ⟨w.heap.size + 1, 0, none⟩) (by rw [World.size_setCell]; show w.heap.size + 1 < _; omega)).trans ((World.frozen?_setCell _ _ _ _).trans s0_1)
  have p1_2 : w2.cell? ⟨w.heap.size, 1, none⟩ = some (.slice a0 x.keys.n c0) := (hb.cell (p := ⟨w.heap.size, 1, none⟩) (by rw [World.size_setCell]; show w.heap.size < _; omega)).trans ((World.cell?_setCell_same _ _ _ p1_1))
  have q1_2 : w2.cell? ⟨w.heap.size + 1, 1, none⟩ = some (.slice none 0 0) := (hb.cell (p := ⟨w.heap.size + 1, 1, none⟩) (by rw [World.size_setCell]; show w.heap.size + 1 < _; omega)).trans ((World.cell?_setCell_other _ _ _ _ (by simp)).trans q1_1)
  have r1_2 : w2.frozen? ⟨w.heap.size, 1, none⟩ = false := (hb.frozen (p := ⟨w.heap.size, 1, none⟩) (by rw [World.size_setCell]; show w.heap.size < _; omega)).trans ((World.frozen?_setCell _ _ _ _).trans r1_1)
  have s1_2 : w2.frozen? ⟨w.heap.size + 1, 1, none⟩ = false := (hb.frozen (p := ⟨w.heap.size + 1, 1, none⟩) (by rw [World.size_setCell]; show w.heap.size + 1 < _; omega)).trans ((World.frozen?_setCell _ _ _ _).trans s1_1)
  have p2_2 : w2.cell? ⟨w.heap.size, 2, none⟩ = some (.slice x.acts.a x.acts.n x.acts.c) := (hb.cell (p := ⟨w.heap.size, 2, none⟩) (by rw [World.size_setCell]; show w.heap.size < _; omega)).trans (((World.cell?_setCell_other _ _ _ _ (by simp)).trans p2_1))
  have q2_2 : w2.cell? ⟨w.heap.size + 1, 2, none⟩ = some (.slice none 0 0) := (hb.cell (p := ⟨w.heap.size + 1, 2, none⟩) (by rw [World.size_setCell]; show w.heap.size + 1 < _; omega)).trans ((World.cell?_setCell_other _ _ _ _ (by simp)).trans q2_1)
  have r2_2 : w2.frozen? ⟨w.heap.size, 2, none⟩ = false := (hb.frozen (p := ⟨w.heap.size, 2, none⟩) (by rw [World.size_setCell]; show w.heap.size < _; omega)).trans ((World.frozen?_setCell _ _ _ _).trans r2_1)
  have s2_2 : w2.frozen? ⟨w.heap.size + 1, 2, none⟩ = false := (hb.frozen (p := ⟨w.heap.size + 1, 2, none⟩) (by rw [World.size_setCell]; show w.heap.size + 1 < _; omega)).trans ((World.frozen?_setCell _ _ _ _).trans s2_1)
  have p3_2 : w2.cell? ⟨w.heap.size, 3, none⟩ = some (.int .i64 x.cap) := (hb.cell (p := ⟨w.heap.size, 3, none⟩) (by rw [World.size_setCell]; show w.heap.size < _; omega)).trans (((World.cell?_setCell_other _ _ _ _ (by simp)).trans p3_1))
  have q3_2 : w2.cell? ⟨w.heap.size + 1, 3, none⟩ = some (.int .i64 0) := (hb.cell (p := ⟨w.heap.size + 1, 3, none⟩) (by rw [World.size_setCell]; show w.heap.size + 1 < _; omega)).trans ((World.cell?_setCell_other _ _ _ _ (by simp)).trans q3_1)
  have r3_2 : w2.frozen? ⟨w.heap.size, 3, none⟩ = false := (hb.frozen (p := ⟨w.heap.size, 3, none⟩) (by rw [World.size_setCell]; show w.heap.size < _; omega)).trans ((World.frozen?_setCell _ _ _ _).trans r3_1)
  have s3_2 : w2.frozen? ⟨w.heap.size + 1, 3, none⟩ = false := (hb.frozen (p := ⟨w.heap.size + 1, 3, none⟩) (by rw [World.size_setCell]; show w.heap.size + 1 < _; omega)).trans ((World.frozen?_setCell _ _ _ _).trans s3_1)
  have p4_2 : w2.cell? ⟨w.heap.size, 4, none⟩ = some (.int .i64 x.dflt) := (hb.cell (p := ⟨w.heap.size, 4, none⟩) (by rw [World.size_setCell]; show w.heap.size < _; omega)).trans (((World.cell?_setCell_other _ _ _ _ (by simp)).trans p4_1))
  have q4_2 : w2.cell? ⟨w.heap.size + 1, 4, none⟩ = some (.int .i64 0) := (hb.cell (p := ⟨w.heap.size + 1, 4, none⟩) (by rw [World.size_setCell]; show w.heap.size + 1 < _; omega)).trans ((World.cell?_setCell_other _ _ _ _ (by simp)).trans q4_1)
  have r4_2 : w2.frozen? ⟨w.heap.size, 4, none⟩ = false := (hb.frozen (p := ⟨w.heap.size, 4, none⟩) (by rw [World.size_setCell]; show w.heap.size < _; omega)).trans ((World.frozen?_setCell _ _ _ _).trans r4_1)
  have s4_2 : w2.frozen? ⟨w.heap.size + 1, 4, none⟩ = false := (hb.frozen (p := ⟨w.heap.size + 1, 4, none⟩) (by rw [World.size_setCell]; show w.heap.size + 1 < _; omega)).trans ((World.frozen?_setCell _ _ _ _).trans s4_1)
  have p5_2 : w2.cell? ⟨w.heap.size, 5, none⟩ = some (.slice x.args.a x.args.n x.args.c) := (hb.cell (p := ⟨w.heap.size, 5, none⟩) (by rw [World.size_setCell]; show w.heap.size < _; omega)).trans (((World.cell?_setCell_other _ _ _ _ (by simp)).trans p5_1))
  have q5_2 : w2.cell? ⟨w.heap.size + 1, 5, none⟩ = some (.slice none 0 0) := (hb.cell (p := ⟨w.heap.size + 1, 5, none⟩) (by rw [World.size_setCell]; show w.heap.size + 1 < _; omega)).trans ((World.cell?_setCell_other _ _ _ _ (by simp)).trans q5_1)
  have r5_2 : w2.frozen? ⟨w.heap.size, 5, none⟩ = false := (hb.frozen (p := ⟨w.heap.size, 5, none⟩) (by rw [World.size_setCell]; show w.heap.size < _; omega)).trans ((World.frozen?_setCell _ _ _ _).trans r5_1)
  have s5_2 : w2.frozen? ⟨w.heap.size + 1, 5, none⟩ = false := (hb.frozen (p := ⟨w.heap.size + 1, 5, none⟩) (by rw [World.size_setCell]; show w.heap.size + 1 < _; omega)).trans ((World.frozen?_setCell _ _ _ _).trans s5_1)
  have HZ : Hid (w.heap.size + 2 ≤ w2.heap.size) := by have := hb.size; first | exact Nat.le_trans (sz1 _ _ _) this | (rw [World.size_setCell] at this; exact Nat.le_trans HZp.out this)
  have hz : w.heap.size + 1 < w2.heap.size := HZ.out
  have HR0 := hid ((HR0.out.step (Kd.keeps kRef) (two_abv ((Abv.refl _ _).put (by simp) _))).step (Kd.keeps kRef) (mask_step hb))
  have HR1 := hid (hr.cov (Kd.covs kInt) (two_new (w := w) (by rw [World.size_setCell]; exact HZp.out)))
  have HN1 := hid hn0
  have HE1 := hid he
  have HB2 : Hid (Below w.heap.size w (w2.setCell ⟨w.heap.size, 2, none⟩ (.slice a1 x.acts.n c1))) := ((HB1.out).trans (hb.mono (by rw [World.size_setCell]; have := HZp.out; omega))).setCell (Nat.le_refl _) _
  have HZp := HZ
  clear hr hn0 he hb HC1 hzp p0_1 q0_1 r0_1 s0_1 p1_1 q1_1 r1_1 s1_1 p2_1 q2_1 r2_1 s2_1 p3_1 q3_1 r3_1 s3_1 p4_1 q4_1 r4_1 s4_1 p5_1 q5_1 r5_1 s5_1
  have hzp := hz
  clear hz
  go_wp2_with fail
  refine (HC2.out _ HB2.out).mono ?_
  rintro e w3 ⟨a2, c2, L2, rfl, hr, hn0, he, hb⟩
  have p0_3 : w3.cell? ⟨w.heap.size, 0, none⟩ = some (.int .i64 x.kind) := (hb.cell (p := ⟨w.heap.size, 0, none⟩) (by rw [World.size_setCell]; show w.heap.size < _; omega)).trans (((World.cell?_setCell_other _ _ _ _ (by simp)).trans p0_2))
  have q0_3 : w3.cell? ⟨w.heap.size + 1, 0, none⟩ = some (.int .i64 0) := (hb.cell (p := ⟨w.heap.size + 1, 0, none⟩) (by rw [World.size_setCell]; show w.heap.size + 1 < _; omega)).trans ((World.cell?_setCell_other _ _ _ _ (by simp)).trans q0_2)
  have r0_3 : w3.frozen? ⟨w.heap.size, 0, none⟩ = false := (hb.frozen (p := ⟨w.heap.size, 0, none⟩) (by rw [World.size_setCell]; show w.heap.size < _; omega)).trans ((World.frozen?_setCell _ _ _ _).trans r0_2)
  have s0_3 : w3.frozen? ⟨w.heap.size + 1, 0, none⟩ = false := (hb.frozen (p := ⟨w.heap.size + 1, 0, none⟩) (by rw [World.size_setCell]; show w.heap.size + 1 < _; omega)).trans ((World.frozen?_setCell _ _ _ _).trans s0_2)
  have p1_3 : w3.cell? ⟨w.heap.size, 1, none⟩ = some (.slice a0 x.keys.n c0) := (hb.cell (p := ⟨w.heap.size, 1, none⟩) (by rw [World.size_setCell]; show w.heap.size < _; omega)).trans (((World.cell?_setCell_other _ _ _ _ (by simp)).trans p1_2))
  have q1_3 : w3.cell? ⟨w.heap.size + 1, 1, none⟩ = some (.slice none 0 0) := (hb.cell (p := ⟨w.heap.size + 1, 1, none⟩) (by rw [World.size_setCell]; show w.heap.size + 1 < _; omega)).trans ((World.cell?_setCell_other _ _ _ _ (by simp)).trans q1_2)
  have r1_3 : w3.frozen? ⟨w.heap.size, 1, none⟩ = false := (hb.frozen (p := ⟨w.heap.size, 1, none⟩) (by rw [World.size_setCell]; show w.heap.size < _; omega)).trans ((World.frozen?_setCell _ _ _ _).trans r1_2)
  have s1_3 : w3.frozen? ⟨w.heap.size + 1, 1, none⟩ = false := (hb.frozen (p := ⟨w.heap.size + 1, 1, none⟩) (by rw [World.size_setCell]; show w.heap.size + 1 < _; omega)).trans ((World.frozen?_setCell _ _ _ _).trans s1_2)
  have p2_3 : w3.cell? ⟨w.heap.size, 2, none⟩ = some (.slice a1 x.acts.n c1) := (hb.cell (p := ⟨w.heap.size, 2, none⟩) (by rw [World.size_setCell]; show w.heap.size < _; omega)).trans ((World.cell?_setCell_same _ _ _ p2_2))
  have q2_3 : w3.cell? ⟨w.heap.size + 1, 2, none⟩ = some (.slice none 0 0) := (hb.cell (p := ⟨w.heap.size + 1, 2, none⟩) (by rw [World.size_setCell]; show w.heap.size + 1 < _; omega)).trans ((World.cell?_setCell_other _ _ _ _ (by simp)).trans q2_2)
  have r2_3 : w3.frozen? ⟨w.heap.size, 2, none⟩ = false := (hb.frozen (p := ⟨w.heap.size, 2, none⟩) (by rw [World.size_setCell]; show w.heap.size < _; omega)).trans ((World.frozen?_setCell _ _ _ _).trans r2_2)
  have s2_3 : w3.frozen? ⟨w.heap.size + 1, 2, none⟩ = false := (hb.frozen (p := ⟨w.heap.size + 1, 2, none⟩) (by rw [World.size_setCell]; show w.heap.size + 1 < _; omega)).trans ((World.frozen?_setCell _ _ _ _).trans s2_2)
  have p3_3 : w3.cell? ⟨w.heap.size, 3, none⟩ = some (.int .i64 x.cap) := (hb.cell (p := ⟨w.heap.size, 3, none⟩) (by rw [World.size_setCell]; show w.heap.size < _; omega)).trans (((World.cell?_setCell_other _ _ _ _ (by simp)).trans p3_2))
  have q3_3 : w3.cell? ⟨w.heap.size + 1, 3, none⟩ = some (.int .i64 0) := (hb.cell (p := ⟨w.heap.size + 1, 3, none⟩) (by rw [World.size_setCell]; show w.heap.size + 1 < _; omega)).trans ((World.cell?_setCell_other _ _ _ _ (by simp)).trans q3_2)
  have r3_3 : w3.frozen? ⟨w.heap.size, 3, none⟩ = false := (hb.frozen (p := ⟨w.heap.size, 3, none⟩) (by rw [World.size_setCell]; show w.heap.size < _; omega)).trans ((World.frozen?_setCell _ _ _ _).trans r3_2)
  have s3_3 : w3.frozen? ⟨w.heap.size + 1, 3, none⟩ = false := (hb.frozen (p := ⟨w.heap.size + 1, 3, none⟩) (by rw [World.size_setCell]; show w.heap.size + 1 < _; omega)).trans ((World.frozen?_setCell _ _ _ _).trans s3_2)
  have p4_3 : w3.cell? ⟨w.heap.size, 4, none⟩ = some (.int .i64 x.dflt) := (hb.cell (p := ⟨w.heap.size, 4, none⟩) (by rw [World.size_setCell]; show w.heap.size < _; omega)).trans (((World.cell?_setCell_other _ _ _ _ (by simp)).trans p4_2))
  have q4_3 : w3.cell? ⟨w.heap.size + 1, 4, none⟩ = some (.int .i64 0) := (hb.cell (p := ⟨w.heap.size + 1, 4, none⟩) (by rw [World.size_setCell]; show w.heap.size + 1 < _; omega)).trans ((World.cell?_setCell_other _ _ _ _ (by simp)).trans q4_2)
  have r4_3 : w3.frozen? ⟨w.heap.size, 4, none⟩ = false := (hb.frozen (p := ⟨w.heap.size, 4, none⟩) (by rw [World.size_setCell]; show w.heap.size < _; omega)).trans ((World.frozen?_setCell _ _ _ _).trans r4_2)
  have s4_3 : w3.frozen? ⟨w.heap.size + 1, 4, none⟩ = false := (hb.frozen (p := ⟨w.heap.size + 1, 4, none⟩) (by rw [World.size_setCell]; show w.heap.size + 1 < _; omega)).trans ((World.frozen?_setCell _ _ _ _).trans s4_2)
  have p5_3 : w3.cell? ⟨w.heap.size, 5, none⟩ = some (.slice x.args.a x.args.n x.args.c) := (hb.cell (p := ⟨w.heap.size, 5, none⟩) (by rw [World.size_setCell]; show w.heap.size < _; omega)).trans (((World.cell?_setCell_other _ _ _ _ (by simp)).trans p5_2))
  have q5_3 : w3.cell? ⟨w.heap.size + 1, 5, none⟩ = some (.slice none 0 0) := (hb.cell (p := ⟨w.heap.size + 1, 5, none⟩) (by rw [World.size_setCell]; show w.heap.size + 1 < _; omega)).trans ((World.cell?_setCell_other _ _ _ _ (by simp)).trans q5_2)
  have r5_3 : w3.frozen? ⟨w.heap.size, 5, none⟩ = false := (hb.frozen (p := ⟨w.heap.size, 5, none⟩) (by rw [World.size_setCell]; show w.heap.size < _; omega)).trans ((World.frozen?_setCell _ _ _ _).trans r5_2)
  have s5_3 : w3.frozen? ⟨w.heap.size + 1, 5, none⟩ = false := (hb.frozen (p := ⟨w.heap.size + 1, 5, none⟩) (by rw [World.size_setCell]; show w.heap.size + 1 < _; omega)).trans ((World.frozen?_setCell _ _ _ _).trans s5_2)
  have HZ : Hid (w.heap.size + 2 ≤ w3.heap.size) := by have := hb.size; first | exact Nat.le_trans (sz1 _ _ _) this | (rw [World.size_setCell] at this; exact Nat.le_trans HZp.out this)
  have hz : w.heap.size + 1 < w3.heap.size := HZ.out
  have HR0 := hid ((HR0.out.step (Kd.keeps kRef) (two_abv ((Abv.refl _ _).put (by simp) _))).step (Kd.keeps kRef) (mask_step hb))
  have HR1 := hid ((HR1.out.step (Kd.keeps kInt) (two_abv ((Abv.refl _ _).put (by simp) _))).step (Kd.keeps kInt) (mask_step hb))
  have HR2 := hid (hr.cov (Kd.covs kNum) (two_new (w := w) (by rw [World.size_setCell]; exact HZp.out)))
  have HN2 := hid hn0
  have HE2 := hid he
  have HB3 : Hid (Below w.heap.size w (w3.setCell ⟨w.heap.size, 5, none⟩ (.slice a2 x.args.n c2))) := ((HB2.out).trans (hb.mono (by rw [World.size_setCell]; have := HZp.out; omega))).setCell (Nat.le_refl _) _
  have HZp := HZ
  clear hr hn0 he hb HC2 hzp p0_2 q0_2 r0_2 s0_2 p1_2 q1_2 r1_2 s1_2 p2_2 q2_2 r2_2 s2_2 p3_2 q3_2 r3_2 s3_2 p4_2 q4_2 r4_2 s4_2 p5_2 q5_2 r5_2 s5_2
  go_wp2
  refine bodyPost_ret (v := .agg #[.int .i64 x.kind, .slice a0 x.keys.n c0, .slice a1 x.acts.n c1, .int .i64 x.cap, .int .i64 x.dflt, .slice a2 x.args.n c2]) (by simp [results, Tryz.results76, go_sem, *]) rfl ?_
  refine ⟨⟨x.kind, ⟨a0, x.keys.n, c0⟩, L0, ⟨a1, x.acts.n, c1⟩, L1, x.cap, x.dflt, ⟨a2, x.args.n, c2⟩, L2⟩, rfl, by rw [map_id_eq HE0.out, map_id_eq HE1.out, map_id_eq HE2.out]; rfl, kTab.cov (kTab.step ⟨⟨HI.out.1.1, HN0.out, HN1.out, HI.out.1.2.2.2.1, HI.out.1.2.2.2.2.1, HN2.out⟩, HR0.out, row_hasI HR1.out, row_hasU HR2.out⟩ (two_abv ((((((((Abv.refl _ _).put (by simp) _).put (by simp) _).put (by simp) _).put (by simp) _).put (by simp) _).put (by simp) _).put (by simp) _))) (two_old _ _), ?_⟩
  exact ((((((HB3.out).setCell (Nat.le_succ _) _).setCell (Nat.le_succ _) _).setCell (Nat.le_succ _) _).setCell (Nat.le_succ _) _).setCell (Nat.le_succ _) _).setCell (Nat.le_succ _) _
end Go.Proofs.YtlnkfgdepddmladGreat
