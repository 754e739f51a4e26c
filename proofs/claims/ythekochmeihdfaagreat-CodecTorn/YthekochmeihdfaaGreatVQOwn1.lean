/- plan.Own: one thing of each kind in memory of its own. -/
import Derived.Test.YthekochmeihdfaaGreatJ2
namespace Go.Proofs.YthekochmeihdfaaGreat
open Go.RowKit

theorem sz0 (w : World) (o o' : Obj) : w.heap.size < ((w.alloc o).alloc o').heap.size := by simp; omega
theorem sz1 (w : World) (o o' : Obj) : w.heap.size + 1 < ((w.alloc o).alloc o').heap.size := by simp

theorem Kd.keeps {α : Type} (K : Kd α) : Keeps K.lie := fun h b => K.lay (fun j u hu => cell_keep (K.cell h j u hu) b) (K.step (K.out h) b)
theorem Kd.covs {α : Type} (K : Kd α) : Covs K.lie := fun h c => K.lay (fun j u hu => c.2 _ _ _ (K.cell h j u hu)) (K.cov (K.out h) c)

/-- from the block B on nothing is another one -/
structure Abv (B : Nat) (w w' : World) : Prop where
  os : w'.os = w.os
  tape : w'.tape = w.tape
  output : w'.output = w.output
  size : w'.heap.size = w.heap.size
  block : ∀ k, B ≤ k → w'.heap[k]? = w.heap[k]?

theorem Abv.refl (B : Nat) (w : World) : Abv B w w := ⟨rfl, rfl, rfl, rfl, fun _ _ => rfl⟩
theorem Abv.put {B : Nat} {a w : World} (h : Abv B a w) {p : Addr} (hp : p.block < B) (u : Value) : Abv B a (w.setCell p u) :=
  ⟨h.os, h.tape, h.output, by rw [World.size_setCell]; exact h.size, fun k hk => (Below.heap_setCell _ _ _ _ (by omega)).trans (h.block k hk)⟩

/-- what was there, and two blocks more -/
abbrev two (w : World) : Nat → Prop := fun b => b < w.heap.size + 2

theorem two_abv {w w1 w2 : World} (h : Abv (w.heap.size + 2) w1 w2) : Below (mask (two w) (fun _ => Classical.propDecidable _) w1).heap.size (mask (two w) (fun _ => Classical.propDecidable _) w1) (mask (two w) (fun _ => Classical.propDecidable _) w2) :=
  mask_below h.os h.tape h.output (Nat.le_of_eq h.size.symm) (fun _ h => h) fun k _ hF => ⟨hF, h.block k (Nat.le_of_not_lt hF)⟩
theorem two_new {w W w1 : World} (h : w.heap.size + 2 ≤ W.heap.size) : Cov (mask (old W) (fun _ => Classical.propDecidable _) w1) (mask (two w) (fun _ => Classical.propDecidable _) w1) := cov_less _ fun b (hb : b < w.heap.size + 2) => show b < W.heap.size by omega
theorem two_old (w w1 : World) : Cov (mask (two w) (fun _ => Classical.propDecidable _) w1) (mask (old w) (fun _ => Classical.propDecidable _) w1) := cov_less _ fun b (hb : b < w.heap.size) => show b < w.heap.size + 2 by omega

/-- what an 'own' tells of x: the like of it, in memory of its own -/
def OwnDone {α β : Type} (K : Kd α) (f : α → β) (x : α) (w : World) (e : Ending) (w' : World) : Prop :=
  ∃ x', e = .returned (.agg (K.cells x').toArray) ∧ f x' = f x ∧ K.inn x' (mask (old w) (fun _ => Classical.propDecidable _) w') ∧ Below w.heap.size w w'

/-- a row of such -/
def RowDone {α β : Type} (K : Kd α) (f : α → β) (S : List α) (n : Nat) (w : World) (e : Ending) (w' : World) : Prop :=
  ∃ a c L, e = .returned (.slice a n c) ∧ QRow K.k K.lie (mask (old w) (fun _ => Classical.propDecidable _) w') ⟨a, n, c⟩ L ∧ QSl.nil0 ⟨a, n, c⟩ ∧ L.map f = S.map f ∧ Below w.heap.size w w'

theorem CopyDone.rows {α : Type} {K : Kd α} {T : TypeId} {S : List α} {n : Nat} {w : World} {e : Ending} {w' : World} (h : CopyDone K T S n w e w') (hi : ∀ s ∈ S, K.inn s (mask (old w) (fun _ => Classical.propDecidable _) w')) : RowDone K id S n w e w' := by
  obtain ⟨a, c, e, h1, h2, h3⟩ := h.row hi
  exact ⟨a, c, S, e, h1, h2, rfl, h3⟩

theorem map_id_eq {α : Type} {L S : List α} (h : L.map id = S.map id) : L = S := by simpa using h

end Go.Proofs.YthekochmeihdfaaGreat
