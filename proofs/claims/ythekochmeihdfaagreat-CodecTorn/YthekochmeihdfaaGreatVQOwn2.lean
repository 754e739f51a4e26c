/- plan.Own: actions, and the whole plan. -/
import Derived.Test.YthekochmeihdfaaGreatVQEach
import Derived.Test.YthekochmeihdfaaGreatVQGreat
import Derived.Deep.RegionHeld3
namespace Go.Proofs.YthekochmeihdfaaGreat
open Go.RowKit

/-- no list of a plan is beyond what a copy takes -/
structure PlanD.fits (d : PlanD) : Prop where
  hs : d.heads.n ≤ 100000 ∧ ∀ x ∈ d.hs, x.w.n ≤ 100000
  ms : d.mta.n ≤ 100000
  ss : d.states.n ≤ 100000 ∧ ∀ x ∈ d.ss, x.cases.n ≤ 100000
  al : d.acts.n ≤ 100000 ∧ ∀ x ∈ d.al, x.w.n ≤ 100000 ∧ x.ops.n ≤ 100000 ∧ ∀ o ∈ x.os, o.e.n ≤ 100000
  ts : d.tabs.n ≤ 100000 ∧ ∀ x ∈ d.ts, x.keys.n ≤ 100000 ∧ x.acts.n ≤ 100000 ∧ x.args.n ≤ 100000
  ns : d.nodes.n ≤ 100000 ∧ ∀ x ∈ d.ns, x.e.n ≤ 100000
  os : d.out.n ≤ 100000

/-- a plan like d -/
def PlanDone (d : PlanD) (w : World) (e : Ending) (w' : World) : Prop := ∃ d' : PlanD, e = .returned d'.v ∧ d'.lie w' ∧ d'.nil0 ∧ d'.p = d.p ∧ Below w.heap.size w w'

theorem keep7 {w w' : World} {s : Nat} {v0 v1 v2 v3 v4 v5 v6 : Value} (h : w.cell? ⟨s, 0, none⟩ = some v0 ∧ w.cell? ⟨s, 1, none⟩ = some v1 ∧ w.cell? ⟨s, 2, none⟩ = some v2 ∧ w.cell? ⟨s, 3, none⟩ = some v3 ∧ w.cell? ⟨s, 4, none⟩ = some v4 ∧ w.cell? ⟨s, 5, none⟩ = some v5 ∧ w.cell? ⟨s, 6, none⟩ = some v6) (b : Below w.heap.size w w') : w'.cell? ⟨s, 0, none⟩ = some v0 ∧ w'.cell? ⟨s, 1, none⟩ = some v1 ∧ w'.cell? ⟨s, 2, none⟩ = some v2 ∧ w'.cell? ⟨s, 3, none⟩ = some v3 ∧ w'.cell? ⟨s, 4, none⟩ = some v4 ∧ w'.cell? ⟨s, 5, none⟩ = some v5 ∧ w'.cell? ⟨s, 6, none⟩ = some v6 :=
  ⟨cell_keep h.1 b, cell_keep h.2.1 b, cell_keep h.2.2.1 b, cell_keep h.2.2.2.1 b, cell_keep h.2.2.2.2.1 b, cell_keep h.2.2.2.2.2.1 b, cell_keep h.2.2.2.2.2.2 b⟩

theorem own_boxes (d : PlanD) (w : World) : ∃ W2 b0 b1, W2 = (w.alloc d.box).alloc (.cells #[.slice none 0 0, .slice none 0 0, .slice none 0 0, .slice none 0 0, .slice none 0 0, .slice none 0 0, .slice none 0 0] 29) ∧ b0 = w.heap.size ∧ b1 = w.heap.size + 1 ∧ W2.heap.size = w.heap.size + 2 ∧ (W2.cell? ⟨b0, 0, none⟩ = some (.slice d.heads.a d.heads.n d.heads.c) ∧ W2.cell? ⟨b0, 1, none⟩ = some (.slice d.mta.a d.mta.n d.mta.c) ∧ W2.cell? ⟨b0, 2, none⟩ = some (.slice d.states.a d.states.n d.states.c) ∧ W2.cell? ⟨b0, 3, none⟩ = some (.slice d.acts.a d.acts.n d.acts.c) ∧ W2.cell? ⟨b0, 4, none⟩ = some (.slice d.tabs.a d.tabs.n d.tabs.c) ∧ W2.cell? ⟨b0, 5, none⟩ = some (.slice d.nodes.a d.nodes.n d.nodes.c) ∧ W2.cell? ⟨b0, 6, none⟩ = some (.slice d.out.a d.out.n d.out.c)) ∧ (W2.cell? ⟨b1, 0, none⟩ = some (.slice none 0 0) ∧ W2.cell? ⟨b1, 1, none⟩ = some (.slice none 0 0) ∧ W2.cell? ⟨b1, 2, none⟩ = some (.slice none 0 0) ∧ W2.cell? ⟨b1, 3, none⟩ = some (.slice none 0 0) ∧ W2.cell? ⟨b1, 4, none⟩ = some (.slice none 0 0) ∧ W2.cell? ⟨b1, 5, none⟩ = some (.slice none 0 0) ∧ W2.cell? ⟨b1, 6, none⟩ = some (.slice none 0 0)) ∧ ∀ i, W2.frozen? ⟨b1, i, none⟩ = false := by
  refine ⟨_, _, _, rfl, rfl, rfl, by simp, ?_, ?_, ?_⟩
  · refine ⟨?_, ?_, ?_, ?_, ?_, ?_, ?_⟩ <;> exact (World.cell?_alloc_past _ _ _ (by simp)).trans ((World.cell?_alloc_at _ _ _ _ rfl).trans rfl)
  · refine ⟨?_, ?_, ?_, ?_, ?_, ?_, ?_⟩ <;> exact (World.cell?_alloc_at _ _ _ _ (by simp)).trans rfl
  · intro i
    exact World.frozen?_alloc_at _ _ _ _ (by simp)

theorem put7_st {w wx : World} {b1 : Nat} (hb : b1 < w.heap.size + 2) {v0 v1 v2 v3 v4 v5 v6 : Value} {α : Type} (K : Kd α) {s : QSl} {S : List α} (h : QRow K.k K.lie (mask (two w) (fun _ => Classical.propDecidable _) wx) s S) :
    QRow K.k K.lie ((((((((wx).setCell ⟨b1, 0, none⟩ v0).setCell ⟨b1, 1, none⟩ v1).setCell ⟨b1, 2, none⟩ v2).setCell ⟨b1, 3, none⟩ v3).setCell ⟨b1, 4, none⟩ v4).setCell ⟨b1, 5, none⟩ v5).setCell ⟨b1, 6, none⟩ v6) s S :=
  (h.step (Kd.keeps K) (two_abv ((((((((Abv.refl _ _).put hb _).put hb _).put hb _).put hb _).put hb _).put hb _).put hb _))).cov (Kd.covs K) (cov_mask _ _)

end Go.Proofs.YthekochmeihdfaaGreat
