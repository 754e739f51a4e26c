/- The document's OwnPlan. -/
import Derived.Test.YtkggocdannkdmaaGreatVQDup1
import Derived.Deep.DeepCutAuto
import Derived.Deep.CutBlock
namespace Go.Proofs.YtkggocdannkdmaaGreat
open Go.RowKit

theorem po_cells {X wy : World} (h : Below (X.alloc (.cells #[.slice none 0 0, .slice none 0 0, .slice none 0 0, .slice none 0 0, .slice none 0 0, .slice none 0 0, .slice none 0 0] 29)).heap.size (X.alloc (.cells #[.slice none 0 0, .slice none 0 0, .slice none 0 0, .slice none 0 0, .slice none 0 0, .slice none 0 0, .slice none 0 0] 29)) wy) : (wy.cell? ⟨X.heap.size, 0, none⟩ = some (.slice none 0 0) ∧ wy.cell? ⟨X.heap.size, 1, none⟩ = some (.slice none 0 0) ∧ wy.cell? ⟨X.heap.size, 2, none⟩ = some (.slice none 0 0) ∧ wy.cell? ⟨X.heap.size, 3, none⟩ = some (.slice none 0 0) ∧ wy.cell? ⟨X.heap.size, 4, none⟩ = some (.slice none 0 0) ∧ wy.cell? ⟨X.heap.size, 5, none⟩ = some (.slice none 0 0) ∧ wy.cell? ⟨X.heap.size, 6, none⟩ = some (.slice none 0 0)) ∧ (wy.frozen? ⟨X.heap.size, 0, none⟩ = false ∧ wy.frozen? ⟨X.heap.size, 1, none⟩ = false ∧ wy.frozen? ⟨X.heap.size, 2, none⟩ = false ∧ wy.frozen? ⟨X.heap.size, 3, none⟩ = false ∧ wy.frozen? ⟨X.heap.size, 4, none⟩ = false ∧ wy.frozen? ⟨X.heap.size, 5, none⟩ = false ∧ wy.frozen? ⟨X.heap.size, 6, none⟩ = false) ∧ X.heap.size < wy.heap.size := by
  have hs := h.size
  rw [World.size_alloc] at hs
  have hc : ∀ i v, (#[.slice none 0 0, .slice none 0 0, .slice none 0 0, .slice none 0 0, .slice none 0 0, .slice none 0 0, .slice none 0 0] : Array Value)[i]? = some v → wy.cell? ⟨X.heap.size, i, none⟩ = some v := fun i v hv => (h.cell (p := ⟨X.heap.size, i, none⟩) (by simp)).trans ((World.cell?_alloc_at _ _ _ _ rfl).trans hv)
  have hf : ∀ i, wy.frozen? ⟨X.heap.size, i, none⟩ = false := fun i => (h.frozen (p := ⟨X.heap.size, i, none⟩) (by simp)).trans (World.frozen?_alloc_at _ _ _ _ rfl)
  exact ⟨⟨hc 0 _ rfl, hc 1 _ rfl, hc 2 _ rfl, hc 3 _ rfl, hc 4 _ rfl, hc 5 _ rfl, hc 6 _ rfl⟩, ⟨hf 0, hf 1, hf 2, hf 3, hf 4, hf 5, hf 6⟩, by omega⟩

theorem po_cellsD {X wy : World} (h : Below (X.alloc (.cells #[.slice none 0 0, .slice none 0 0, .slice none 0 0, .slice none 0 0, .slice none 0 0, .slice none 0 0, .slice none 0 0] 29)).drew.heap.size (X.alloc (.cells #[.slice none 0 0, .slice none 0 0, .slice none 0 0, .slice none 0 0, .slice none 0 0, .slice none 0 0, .slice none 0 0] 29)).drew wy) : (wy.cell? ⟨X.heap.size, 0, none⟩ = some (.slice none 0 0) ∧ wy.cell? ⟨X.heap.size, 1, none⟩ = some (.slice none 0 0) ∧ wy.cell? ⟨X.heap.size, 2, none⟩ = some (.slice none 0 0) ∧ wy.cell? ⟨X.heap.size, 3, none⟩ = some (.slice none 0 0) ∧ wy.cell? ⟨X.heap.size, 4, none⟩ = some (.slice none 0 0) ∧ wy.cell? ⟨X.heap.size, 5, none⟩ = some (.slice none 0 0) ∧ wy.cell? ⟨X.heap.size, 6, none⟩ = some (.slice none 0 0)) ∧ (wy.frozen? ⟨X.heap.size, 0, none⟩ = false ∧ wy.frozen? ⟨X.heap.size, 1, none⟩ = false ∧ wy.frozen? ⟨X.heap.size, 2, none⟩ = false ∧ wy.frozen? ⟨X.heap.size, 3, none⟩ = false ∧ wy.frozen? ⟨X.heap.size, 4, none⟩ = false ∧ wy.frozen? ⟨X.heap.size, 5, none⟩ = false ∧ wy.frozen? ⟨X.heap.size, 6, none⟩ = false) ∧ X.heap.size < wy.heap.size := po_cells (X := X) ⟨h.os, h.tape, h.output, h.size, h.block⟩

/-- the plan that is begun with -/
@[reducible] def X0 (d : PlanD) (am : Option Addr) (cm : Nat) (ao : Option Addr) (co : Nat) : PlanD := ⟨⟨none, 0, 0⟩, [], ⟨am, d.mta.n, cm⟩, d.ms, ⟨none, 0, 0⟩, [], ⟨none, 0, 0⟩, [], ⟨none, 0, 0⟩, [], ⟨none, 0, 0⟩, [], ⟨ao, d.out.n, co⟩, d.os⟩

abbrev FPo (w : World) (po : Nat) : Nat → Prop := fun b => b < w.heap.size + 2 ∨ b = po

/-- one block alone is another one -/
structure Lands (po : Nat) (wy we : World) : Prop where
  os : we.os = wy.os
  tape : we.tape = wy.tape
  output : we.output = wy.output
  size : wy.heap.size ≤ we.heap.size
  blk : ∀ k, k < wy.heap.size → k ≠ po → we.heap[k]? = wy.heap[k]?

theorem lands_alloc (wy : World) (o : Obj) : Lands wy.heap.size wy (wy.alloc o) := ⟨rfl, rfl, rfl, by simp, fun k hk _ => Below.heap_alloc _ _ _ hk⟩
theorem lands_refl (po : Nat) (wy : World) : Lands po wy wy := ⟨rfl, rfl, rfl, Nat.le_refl _, fun _ _ _ => rfl⟩
theorem Lands.put {po : Nat} {wy we : World} (h : Lands po wy we) (i : Nat) (v : Value) : Lands po wy (we.setCell ⟨po, i, none⟩ v) :=
  ⟨h.os, h.tape, h.output, by rw [World.size_setCell]; exact h.size, fun k hk hne => (Below.heap_setCell _ _ _ _ hne).trans (h.blk k hk hne)⟩

theorem row_to {w W wa wy we : World} {po : Nat} {s : QSl} {S : List Int} (h : QRow kInt.k kInt.lie (mask (old W) (fun _ => Classical.propDecidable _) wa) s S) (hW : w.heap.size + 2 ≤ W.heap.size) (hb : Below wa.heap.size wa wy) (hpo : po < W.heap.size ∨ wa.heap.size ≤ po) (hl : Lands po wy we) : QRow kInt.k kInt.lie (mask (FPo w po) (fun _ => Classical.propDecidable _) we) s S := by
  refine (h.step (Kd.keeps kInt) (w' := mask (fmore (old W) po) (fun _ => Classical.propDecidable _) we) ?_).cov (Kd.covs kInt) (cov_less _ fun b hb => ?_)
  · refine mask_below (hl.os.trans hb.os) (hl.tape.trans hb.tape) (hl.output.trans hb.output) (Nat.le_trans hb.size hl.size) (fun _ h => .inl h) fun k hk hF => ?_
    have hk' : ¬ k < W.heap.size := hF
    have hne : k ≠ po := by omega
    exact ⟨fun h => h.elim hF hne, (hl.blk k (Nat.lt_of_lt_of_le hk hb.size) hne).trans (hb.block k hk)⟩
  · rcases hb with hb | hb
    · exact .inl (show b < W.heap.size by omega)
    · exact .inr hb

theorem out_start {d : PlanD} {w W2 we : World} {po cm co : Nat} {am ao : Option Addr} (hc : we.cell? ⟨po, 0, none⟩ = some (.slice none 0 0) ∧ we.cell? ⟨po, 1, none⟩ = some (.slice am d.mta.n cm) ∧ we.cell? ⟨po, 2, none⟩ = some (.slice none 0 0) ∧ we.cell? ⟨po, 3, none⟩ = some (.slice none 0 0) ∧ we.cell? ⟨po, 4, none⟩ = some (.slice none 0 0) ∧ we.cell? ⟨po, 5, none⟩ = some (.slice none 0 0) ∧ we.cell? ⟨po, 6, none⟩ = some (.slice ao d.out.n co)) (hz : ∀ i, we.frozen? ⟨po, i, none⟩ = false) (ph : w.heap.size + 2 ≤ po) (pl : po < we.heap.size)
    (hm : QRow kInt.k kInt.lie (mask (FPo w po) (fun _ => Classical.propDecidable _) we) ⟨am, d.mta.n, cm⟩ d.ms) (hm0 : QSl.nil0 ⟨am, d.mta.n, cm⟩) (ho : QRow kInt.k kInt.lie (mask (FPo w po) (fun _ => Classical.propDecidable _) we) ⟨ao, d.out.n, co⟩ d.os) (ho0 : QSl.nil0 ⟨ao, d.out.n, co⟩) (hoc : d.out.n ≤ co) (hb : Below (w.heap.size + 2) W2 we) : OutAt w W2 po (FPo w po) (X0 d am cm ao co) we :=
  { c0 := hc.1, c1 := hc.2.1, c2 := hc.2.2.1, c3 := hc.2.2.2.1, c4 := hc.2.2.2.2.1, c5 := hc.2.2.2.2.2.1, c6 := hc.2.2.2.2.2.2, fz := hz, ph := ph, pl := pl,
    own0 := World.ownsRow_nil _ _ _ _, inn0 := fun _ h => (by cases h), blk0 := fun _ h => (by cases h),
    own2 := World.ownsRow_nil _ _ _ _, inn2 := fun _ h => (by cases h), blk2 := fun _ h => (by cases h),
    own3 := World.ownsRow_nil _ _ _ _, inn3 := fun _ h => (by cases h), blk3 := fun _ h => (by cases h),
    own4 := World.ownsRow_nil _ _ _ _, inn4 := fun _ h => (by cases h), blk4 := fun _ h => (by cases h),
    own5 := World.ownsRow_nil _ _ _ _, inn5 := fun _ h => (by cases h), blk5 := fun _ h => (by cases h),
    ms := hm, ms0 := hm0, os := ho, os0 := ho0, oc := hoc, fpo := .inr rfl, fold := fun b hb => .inl hb, flt := fun k hk => by rcases hk with hk | rfl <;> omega, bel := hb }

/-- how far the plan is like d -/
structure Like (d X : PlanD) (k0 k2 k3 k4 k5 : Nat) : Prop where
  hs : X.hs.map HeadD.ws = (d.hs.take k0).map HeadD.ws
  ss : X.ss.map StateD.p = (d.ss.take k2).map StateD.p
  al : X.al.map ActD.p = (d.al.take k3).map ActD.p
  ts : X.ts.map TabD.p = (d.ts.take k4).map TabD.p
  ns : X.ns.map NodeD.p = (d.ns.take k5).map NodeD.p
  ms : X.ms = d.ms
  os : X.os = d.os

theorem like_start (d : PlanD) (am : Option Addr) (cm : Nat) (ao : Option Addr) (co : Nat) : Like d (X0 d am cm ao co) 0 0 0 0 0 := ⟨by simp, by simp, by simp, by simp, by simp, rfl, rfl⟩

theorem like_more {α β : Type} {f : α → β} {S L : List α} {k : Nat} {x x' : α} (h : L.map f = (S.take k).map f) (hx : S[k]? = some x) (hf : f x' = f x) : (L ++ [x']).map f = (S.take (k + 1)).map f := by
  rw [List.map_append, h, List.take_add_one, hx, List.map_append]
  simp [hf]

theorem like_len {α β : Type} {f : α → β} {S L : List α} {k : Nat} (h : L.map f = (S.take k).map f) (hk : k ≤ S.length) : L.length = k := by
  have := congrArg List.length h
  simpa [Nat.min_eq_left hk] using this

theorem own_len {α : Type} (K : Kd α) {w : World} {B n : Nat} {T : TypeId} {v : Value} {S : List α} (h : w.ownsRow B T K.k v n (S.flatMap K.cells)) : S.length = n := by
  have := h.1
  rw [K.flat_len] at this
  exact Nat.eq_of_mul_eq_mul_right K.pos this

theorem src_at {w : World} {cs : List Value} {T : TypeId} {b : Nat} (hb : b = w.heap.size) : ∀ j u, cs[j]? = some u → (w.alloc (.cells cs.toArray T)).cell? ((⟨b, 0, none⟩ : Addr).add j) = some u := by
  subst hb
  exact src_of

theorem lt_alloc {w : World} {o : Obj} {b : Nat} (h : b < w.heap.size) : b < (w.alloc o).heap.size := by rw [World.size_alloc]; omega

theorem keep_box {w W2 wr : World} {b0 i : Nat} {v : Value} (hb : Below (w.heap.size + 2) W2 wr) (e : b0 = w.heap.size) (h : W2.cell? ⟨b0, i, none⟩ = some v) : wr.cell? ⟨b0, i, none⟩ = some v :=
  (hb.cell (p := ⟨b0, i, none⟩) (by rw [e]; show w.heap.size < _; omega)).trans h

theorem po_after {wr w5 w6 : World} {po i n k : Nat} {T : TypeId} {row v : Value} {xs : List Value} (ho : wr.ownsRow (po + 1) T k row n xs) (hg : w5.grownBy w6 row.ownBlock) (hp : po < w5.heap.size) (hc : w5.cell? ⟨po, i, none⟩ = some v) (hf : w5.frozen? ⟨po, i, none⟩ = false) : w6.cell? ⟨po, i, none⟩ = some v ∧ w6.frozen? ⟨po, i, none⟩ = false ∧ po < w6.heap.size := by
  have hne : some po ≠ row.ownBlock := fun e => by have := (ho.lt po e.symm).1; omega
  exact ⟨hg.cell hc hne, (hg.frozen_far ⟨po, i, none⟩ hp hne).trans hf, Nat.lt_of_lt_of_le hp hg.size⟩

theorem fresh_head {w w5 : World} {o : Obj} {n c : Nat} {a : Option Addr} {zs : List Int} (h : w5.ownsRow w.heap.size 3 kInt.k (.slice a n c) n (zs.flatMap kInt.cells)) (hi : ∀ z ∈ zs, wfI z) : kHead.inn ⟨⟨a, n, c⟩, zs⟩ (mask (old w) (fun _ => Classical.propDecidable _) (w5.alloc o)) :=
  ⟨Kd.own_nil0 h, (row_hasI (fresh_row kInt h hi)).step (mask_step (bl_alloc (Below.refl _ _)))⟩

theorem fresh_state {w w5 w6 : World} {x : StateD} {c : Nat} {a : Option Addr} (h : w5.ownsRow w.heap.size 134 kCase.k (.slice a x.cases.n c) x.cases.n (x.cs.flatMap kCase.cells)) (hi : kState.inn x w) (hl : Below (mask (old w) (fun _ => Classical.propDecidable _) w5).heap.size (mask (old w) (fun _ => Classical.propDecidable _) w5) (mask (old w) (fun _ => Classical.propDecidable _) w6)) : kState.inn ⟨x.head, x.r, ⟨a, x.cases.n, c⟩, x.cs, x.els⟩ (mask (old w) (fun _ => Classical.propDecidable _) w6) :=
  ⟨⟨hi.1.1, hi.1.2.1, hi.1.2.2.1, Kd.own_nil0 h, hi.1.2.2.2.2⟩, (fresh_row kCase h (kCase.inns (w := w) hi.2)).step (Kd.keeps kCase) hl⟩

theorem fresh_node {w w5 w6 : World} {x : NodeD} {c : Nat} {a : Option Addr} (h : w5.ownsRow w.heap.size 71 kPush.k (.slice a x.e.n c) x.e.n (x.es.flatMap kPush.cells)) (hi : kNode.inn x w) (hl : Below (mask (old w) (fun _ => Classical.propDecidable _) w5).heap.size (mask (old w) (fun _ => Classical.propDecidable _) w5) (mask (old w) (fun _ => Classical.propDecidable _) w6)) : kNode.inn ⟨x.kind, x.n, ⟨a, x.e.n, c⟩, x.es, x.yes, x.no⟩ (mask (old w) (fun _ => Classical.propDecidable _) w6) :=
  ⟨⟨hi.1.1, hi.1.2.1, Kd.own_nil0 h, hi.1.2.2.2.1, hi.1.2.2.2.2⟩, (fresh_row kPush h (kPush.inns (w := w) hi.2)).step (Kd.keeps kPush) hl⟩

/-- a box that is older is written, then something is laid -/
theorem put_alloc {W w5 : World} {b i : Nat} {v : Value} {o : Obj} (hb : b < W.heap.size) : Below (mask (old W) (fun _ => Classical.propDecidable _) w5).heap.size (mask (old W) (fun _ => Classical.propDecidable _) w5) (mask (old W) (fun _ => Classical.propDecidable _) ((w5.setCell ⟨b, i, none⟩ v).alloc o)) := by
  refine mask_below rfl rfl rfl (by rw [World.size_alloc, World.size_setCell]; omega) (fun _ h => h) fun k hk hF => ⟨hF, ?_⟩
  have hk' : ¬ k < W.heap.size := hF
  rw [Below.heap_alloc _ _ _ (by rw [World.size_setCell]; exact hk), Below.heap_setCell _ _ _ _ (by show k ≠ b; omega)]

/-- an action under way: the box at pa -/
structure ActAt (w0 : World) (pa : Nat) (x : ActD) (aw : Option Addr) (cw : Nat) (F : Nat → Prop) (oa : Option Addr) (oc : Nat) (S : List OpD) (wr : World) : Prop where
  c0 : wr.cell? ⟨pa, 0, none⟩ = some (.slice aw x.w.n cw)
  c1 : wr.cell? ⟨pa, 1, none⟩ = some (.slice oa S.length oc)
  fz : ∀ i, wr.frozen? ⟨pa, i, none⟩ = false
  ph : w0.heap.size ≤ pa
  pl : pa < wr.heap.size
  own : wr.ownsRow (pa + 1) 81 kOp.k (.slice oa S.length oc) S.length (S.flatMap kOp.cells)
  inn : ∀ o ∈ S, kOp.inn o (mask F (fun _ => Classical.propDecidable _) wr)
  blk : ∀ b, (Value.slice oa S.length oc).ownBlock = some b → F b
  ws : QRow kInt.k kInt.lie (mask F (fun _ => Classical.propDecidable _) wr) ⟨aw, x.w.n, cw⟩ x.ws
  ws0 : QSl.nil0 ⟨aw, x.w.n, cw⟩
  fpa : F pa
  fold : ∀ b, b < w0.heap.size → F b
  flt : ∀ k, F k → k < wr.heap.size
  bel : Below w0.heap.size w0 wr

theorem ActAt.push {w0 wr w5 w6 W : World} {pa g cap' : Nat} {x : ActD} {aw oa : Option Addr} {cw oc : Nat} {F : Nat → Prop} {S : List OpD} {x' : OpD} (h : ActAt w0 pa x aw cw F oa oc S wr) (hb : Below wr.heap.size wr w5) (hW : wr.heap.size ≤ W.heap.size) (hin : kOp.inn x' (mask (old W) (fun _ => Classical.propDecidable _) w5))
    (ho : w6.ownsRow (pa + 1) 81 kOp.k (.slice (some ⟨g, 0, none⟩) (S.length + 1) cap') (S.length + 1) (S.flatMap kOp.cells ++ kOp.cells x')) (hg : w5.grownBy w6 (Value.slice oa S.length oc).ownBlock) (hnew : oa = some ⟨g, 0, none⟩ ∨ w5.heap.size ≤ g) :
    ActAt w0 pa x aw cw (fmore F g) (some ⟨g, 0, none⟩) cap' (S ++ [x']) (w6.setCell ⟨pa, 1, none⟩ (.slice (some ⟨g, 0, none⟩) (S.length + 1) cap')) := by
  have hT : Turn wr w5 (w6.setCell ⟨pa, 1, none⟩ (.slice (some ⟨g, 0, none⟩) (S.length + 1) cap')) pa g (Value.slice oa S.length oc).ownBlock F :=
    ⟨hb, hg.os, hg.tape, hg.output, by rw [World.size_setCell]; exact hg.size, fun k hk h1 h2 => (Below.heap_setCell _ _ _ _ h1).trans (hg.block k hk h2), h.fpa, h.blk, h.flt, hnew.elim (fun e => .inl (by rw [e]; rfl)) .inr⟩
  have hM := hT.mask
  have hpr : some pa ≠ (Value.slice oa S.length oc).ownBlock := fun e => by have := (h.own.lt pa e.symm).1; omega
  have hpl := h.pl
  have hs5 := hb.size
  have hs6 := hg.size
  have hgl := (ho.lt g rfl)
  have hl : (S ++ [x']).length = S.length + 1 := by simp
  exact {
    c0 := (World.cell?_setCell_other _ _ _ _ (by simp)).trans (hg.cell (cell_keep h.c0 hb) hpr)
    c1 := by rw [hl]; exact World.cell?_setCell_same _ _ _ (hg.cell (cell_keep h.c1 hb) hpr)
    fz := fun o => by rw [World.frozen?_setCell, hg.frozen_far ⟨pa, o, none⟩ (by show pa < _; omega) hpr, hb.frozen (p := ⟨pa, o, none⟩) (by show pa < _; omega)]; exact h.fz o
    ph := h.ph
    pl := by rw [World.size_setCell]; omega
    own := by
      have := ownsRow_setCell_below ho (a := ⟨pa, 1, none⟩) (Nat.lt_succ_self _) (.slice (some ⟨g, 0, none⟩) (S.length + 1) cap')
      rw [hl, show (S ++ [x']).flatMap kOp.cells = S.flatMap kOp.cells ++ kOp.cells x' by simp]
      exact this
    inn := fun y hy => by
      rcases List.mem_append.1 hy with hy | hy
      · exact kOp.step (h.inn y hy) hM
      · simp only [List.mem_cons, List.not_mem_nil, or_false] at hy
        rw [hy]
        exact hT.fresh hW kOp hin
    blk := fun b hb => .inr (Option.some.inj hb).symm
    ws := h.ws.step (Kd.keeps kInt) hM
    ws0 := h.ws0
    fpa := .inl h.fpa
    fold := fun b hb => .inl (h.fold b hb)
    flt := fun k hk => by
      rw [World.size_setCell]
      rcases hk with hk | rfl
      · have := h.flt k hk; omega
      · exact hgl.2
    bel := by
      have hb0 := h.bel.size
      have := h.ph
      refine Below.setCell ?_ (by show w0.heap.size ≤ pa; omega) _
      refine (h.bel.trans (hb.mono hb0)).grown hg (by omega) fun k hk => ?_
      have := (h.own.lt k hk).1
      omega }

theorem ActAt.start {w0 w5 : World} {x : ActD} {aw : Option Addr} {cw : Nat} (ho : w5.ownsRow w0.heap.size 3 kInt.k (.slice aw x.w.n cw) x.w.n (x.ws.flatMap kInt.cells)) (hi : ∀ z ∈ x.ws, wfI z) (hb : Below w0.heap.size w0 w5) : ActAt w0 w5.heap.size x aw cw (fmore (old w0) w5.heap.size) none 0 [] (w5.alloc (.cells #[.slice aw x.w.n cw, .slice none 0 0] 79)) :=
  { c0 := (World.cell?_alloc_at _ _ _ _ rfl).trans rfl, c1 := (World.cell?_alloc_at _ _ _ _ rfl).trans rfl, fz := fun i => World.frozen?_alloc_at _ _ _ _ rfl, ph := hb.size, pl := by simp
    own := World.ownsRow_nil _ _ _ _, inn := fun _ h => (by cases h), blk := fun _ h => (by cases h)
    ws := (fresh_row kInt ho hi).step (Kd.keeps kInt) (mask_below rfl rfl rfl (by simp) (fun _ h => .inl h) fun k hk hF => ⟨fun h => h.elim hF (by omega), Below.heap_alloc _ _ _ hk⟩)
    ws0 := Kd.own_nil0 ho, fpa := .inr rfl, fold := fun b hb => .inl hb
    flt := fun k hk => by
      rw [World.size_alloc]
      have := hb.size
      rcases hk with hk | hk
      · have hk' : k < w0.heap.size := hk
        omega
      · omega
    bel := bl_alloc hb }

/-- the action, as it stands then -/
theorem ActAt.done {w0 wr : World} {pa : Nat} {x : ActD} {aw oa : Option Addr} {cw oc : Nat} {F : Nat → Prop} {S : List OpD} {o : Obj} (h : ActAt w0 pa x aw cw F oa oc S wr) : kAct.inn ⟨⟨aw, x.w.n, cw⟩, x.ws, ⟨oa, S.length, oc⟩, S⟩ (mask (old w0) (fun _ => Classical.propDecidable _) (wr.alloc o)) := by
  have hc : Cov (mask F (fun _ => Classical.propDecidable _) wr) (mask (old w0) (fun _ => Classical.propDecidable _) wr) := cov_less _ fun b hb => h.fold b hb
  have hst : Below (mask (old w0) (fun _ => Classical.propDecidable _) wr).heap.size (mask (old w0) (fun _ => Classical.propDecidable _) wr) (mask (old w0) (fun _ => Classical.propDecidable _) (wr.alloc o)) := mask_step (bl_alloc (Below.refl _ _))
  refine kAct.step (w := mask (old w0) (fun _ => Classical.propDecidable _) wr) ⟨⟨h.ws0, Kd.own_nil0 h.own⟩, row_hasI (h.ws.cov (Kd.covs kInt) hc), ?_⟩ hst
  refine kOp.row (base := w0.heap.size) (T := 81) ⟨h.own.1, ?_⟩ fun s hs => kOp.cov (h.inn s hs) hc
  rcases h.own.2 with h2 | ⟨g, cap, cur, e, hb, hh, r⟩
  · exact .inl h2
  · have := h.ph
    exact .inr ⟨g, cap, cur, e, by omega, (mask_off (F := old w0) (k := g) (show ¬ g < w0.heap.size by omega)).trans hh, r⟩

theorem fresh_op {w w5 w6 : World} {x : OpD} {c : Nat} {a : Option Addr} (h : w5.ownsRow w.heap.size 71 kPush.k (.slice a x.e.n c) x.e.n (x.es.flatMap kPush.cells)) (hi : kOp.inn x w) (hl : Below (mask (old w) (fun _ => Classical.propDecidable _) w5).heap.size (mask (old w) (fun _ => Classical.propDecidable _) w5) (mask (old w) (fun _ => Classical.propDecidable _) w6)) : kOp.inn ⟨x.kind, x.r, x.head, ⟨a, x.e.n, c⟩, x.es⟩ (mask (old w) (fun _ => Classical.propDecidable _) w6) :=
  ⟨⟨hi.1.1, hi.1.2.1, hi.1.2.2.1, hi.1.2.2.2.1, Kd.own_nil0 h⟩, (fresh_row kPush h (kPush.inns (w := w) hi.2)).step (Kd.keeps kPush) hl⟩

/-- a copy in a region that draws -/
theorem copyR {α : Type} (K : Kd α) {ops : Array Oper} {o : Oper} {a : Act} {w : World} {Kc : Act → World → Prop} {Q : Exit → Act → World → Prop} {E : Prop} {T TS : TypeId} {z : Value} {bs : Nat}
    (hT : Tryz.prog.underlying TS = some (.slice T)) (hinfo : (Tryz.prog.info? T).map (fun i => (i.zero, i.size, i.bytes)) = some (some z, K.k, bs)) (hzs : z.cells.size = K.k) (hbs : bs ≤ 1000) (hgd : o.guard = none) (s x : Operand)
    (ho : o.op = .call { callee := .builtin .append, args := #[s, x], argTypes := #[TS, TS] }) (q : QSl) (S : List α) (hs : a.eval s = .slice none 0 0) (hx : a.eval x = .slice q.a q.n q.c) (hr : QRow K.k K.lie w q S) (h0 : q.nil0) (hsm : q.n ≤ 100000)
    (h : ∀ av cv w', w'.ownsRow w.heap.size T K.k (.slice av q.n cv) q.n (S.flatMap K.cells) → Below w.heap.size w w' → Kc (a.put o.dst (.slice av q.n cv)) w') :
    if Region.wanted o (yielded ops a.tmps) = true then Oper.wp Tryz.prog o a w Kc Q else E := by
  obtain ⟨av, cv, w', hrun, r1, r2⟩ := run_copyK K o.type hT hinfo hzs hbs hr h0 hsm
  exact append_runR hgd s x ho hs hx hrun (h av cv w' r1 r2)

theorem put3_alloc {W w9 : World} {b i j k : Nat} {v u t : Value} {o : Obj} (hb : b < W.heap.size) : Below (mask (old W) (fun _ => Classical.propDecidable _) w9).heap.size (mask (old W) (fun _ => Classical.propDecidable _) w9) (mask (old W) (fun _ => Classical.propDecidable _) ((((w9.setCell ⟨b, i, none⟩ v).setCell ⟨b, j, none⟩ u).setCell ⟨b, k, none⟩ t).alloc o)) := by
  refine mask_below rfl rfl rfl (by simp only [World.size_alloc, World.size_setCell]; omega) (fun _ h => h) fun n hn hF => ⟨hF, ?_⟩
  have hn' : ¬ n < W.heap.size := hF
  rw [Below.heap_alloc _ _ _ (by simp only [World.size_setCell]; exact hn), Below.heap_setCell _ _ _ _ (by show n ≠ b; omega), Below.heap_setCell _ _ _ _ (by show n ≠ b; omega), Below.heap_setCell _ _ _ _ (by show n ≠ b; omega)]

theorem fresh_tab {W w7 w8 w9 w6 : World} {x : TabD} {ck ca cz : Nat} {ak aa az : Option Addr} (h1 : w7.ownsRow W.heap.size 69 kRef.k (.slice ak x.keys.n ck) x.keys.n (x.ks.flatMap kRef.cells)) (b1 : Below W.heap.size W w7) (h2 : w8.ownsRow w7.heap.size 3 kInt.k (.slice aa x.acts.n ca) x.acts.n (x.al.flatMap kInt.cells)) (b2 : Below w7.heap.size w7 w8) (h3 : w9.ownsRow w8.heap.size 62 kNum.k (.slice az x.args.n cz) x.args.n (x.zs.flatMap kNum.cells)) (b3 : Below w8.heap.size w8 w9)
    (hi : kTab.inn x W) (hl : Below (mask (old W) (fun _ => Classical.propDecidable _) w9).heap.size (mask (old W) (fun _ => Classical.propDecidable _) w9) (mask (old W) (fun _ => Classical.propDecidable _) w6)) : kTab.inn ⟨x.kind, ⟨ak, x.keys.n, ck⟩, x.ks, ⟨aa, x.acts.n, ca⟩, x.al, x.cap, x.dflt, ⟨az, x.args.n, cz⟩, x.zs⟩ (mask (old W) (fun _ => Classical.propDecidable _) w6) := by
  have s1 := b1.size
  have s2 := b2.size
  have r1 := ((fresh_row kRef h1 (kRef.inns (w := W) hi.2.1)).step (Kd.keeps kRef) (mask_step b2)).step (Kd.keeps kRef) (mask_step b3)
  have r2 := ((fresh_row kInt h2 hi.2.2.1.2.1).cov (Kd.covs kInt) (cov_less w8 (F' := old W) fun b (hb : b < W.heap.size) => show b < w7.heap.size by omega)).step (Kd.keeps kInt) (mask_step b3)
  have r3 := (fresh_row kNum h3 hi.2.2.2.2.1).cov (Kd.covs kNum) (cov_less w9 (F' := old W) fun b (hb : b < W.heap.size) => show b < w8.heap.size by omega)
  exact ⟨⟨hi.1.1, Kd.own_nil0 h1, Kd.own_nil0 h2, hi.1.2.2.2.1, hi.1.2.2.2.2.1, Kd.own_nil0 h3⟩, r1.step (Kd.keeps kRef) hl, row_hasI (r2.step (Kd.keeps kInt) hl), row_hasU (r3.step (Kd.keeps kNum) hl)⟩

theorem b1_row {w W2 wr : World} {po b1 : Nat} {F : Nat → Prop} {X : PlanD} (h : OutAt w W2 po F X wr) (hb : b1 < w.heap.size + 2) {v0 v1 v2 v3 v4 v5 v6 : Value} : Below (mask F (fun _ => Classical.propDecidable _) wr).heap.size (mask F (fun _ => Classical.propDecidable _) wr) (mask F (fun _ => Classical.propDecidable _) ((((((((wr).setCell ⟨b1, 0, none⟩ v0).setCell ⟨b1, 1, none⟩ v1).setCell ⟨b1, 2, none⟩ v2).setCell ⟨b1, 3, none⟩ v3).setCell ⟨b1, 4, none⟩ v4).setCell ⟨b1, 5, none⟩ v5).setCell ⟨b1, 6, none⟩ v6)) := by
  have hL : Lands b1 wr ((((((((wr).setCell ⟨b1, 0, none⟩ v0).setCell ⟨b1, 1, none⟩ v1).setCell ⟨b1, 2, none⟩ v2).setCell ⟨b1, 3, none⟩ v3).setCell ⟨b1, 4, none⟩ v4).setCell ⟨b1, 5, none⟩ v5).setCell ⟨b1, 6, none⟩ v6) := (((((((lands_refl _ _).put _ _).put _ _).put _ _).put _ _).put _ _).put _ _).put _ _
  exact mask_below hL.os hL.tape hL.output hL.size (fun _ h => h) fun k hk hF => ⟨hF, hL.blk k hk fun e => hF (e ▸ h.fold b1 hb)⟩

set_option maxHeartbeats 4000000 in
set_option maxRecDepth 20000 in
theorem OutAt.end {d : PlanD} {w W2 wr : World} {po b1 : Nat} {F : Nat → Prop} {X : PlanD} (h : OutAt w W2 po F X wr) (hl : d.lie w) (lk : Like d X d.heads.n d.states.n d.acts.n d.tabs.n d.nodes.n) (hb : Below w.heap.size w wr) (e1 : b1 = w.heap.size + 1) {v0 v1 v2 v3 v4 v5 v6 : Value} : PlanDone d w (.returned X.v) ((((((((wr).setCell ⟨b1, 0, none⟩ v0).setCell ⟨b1, 1, none⟩ v1).setCell ⟨b1, 2, none⟩ v2).setCell ⟨b1, 3, none⟩ v3).setCell ⟨b1, 4, none⟩ v4).setCell ⟨b1, 5, none⟩ v5).setCell ⟨b1, 6, none⟩ v6) := by
  have hb1 : b1 < w.heap.size + 2 := by omega
  have hM := b1_row h hb1 (v0 := v0) (v1 := v1) (v2 := v2) (v3 := v3) (v4 := v4) (v5 := v5) (v6 := v6)
  have hC := cov_mask F ((((((((wr).setCell ⟨b1, 0, none⟩ v0).setCell ⟨b1, 1, none⟩ v1).setCell ⟨b1, 2, none⟩ v2).setCell ⟨b1, 3, none⟩ v3).setCell ⟨b1, 4, none⟩ v4).setCell ⟨b1, 5, none⟩ v5).setCell ⟨b1, 6, none⟩ v6)
  have hph := h.ph
  have row : ∀ {α : Type} (K : Kd α) {T : TypeId} {v : Value} {n : Nat} {xs : List Value}, wr.ownsRow (po + 1) T K.k v n xs → ((((((((wr).setCell ⟨b1, 0, none⟩ v0).setCell ⟨b1, 1, none⟩ v1).setCell ⟨b1, 2, none⟩ v2).setCell ⟨b1, 3, none⟩ v3).setCell ⟨b1, 4, none⟩ v4).setCell ⟨b1, 5, none⟩ v5).setCell ⟨b1, 6, none⟩ v6).ownsRow (po + 1) T K.k v n xs := fun K T v n xs ho => by
    have hb' : b1 < po + 1 := by omega
    exact ownsRow_setCell_below (ownsRow_setCell_below (ownsRow_setCell_below (ownsRow_setCell_below (ownsRow_setCell_below (ownsRow_setCell_below (ownsRow_setCell_below (ho) (a := ⟨b1, 0, none⟩) hb' v0) (a := ⟨b1, 1, none⟩) hb' v1) (a := ⟨b1, 2, none⟩) hb' v2) (a := ⟨b1, 3, none⟩) hb' v3) (a := ⟨b1, 4, none⟩) hb' v4) (a := ⟨b1, 5, none⟩) hb' v5) (a := ⟨b1, 6, none⟩) hb' v6
  have ini : ∀ {α : Type} (K : Kd α) {x : α}, K.inn x (mask F (fun _ => Classical.propDecidable _) wr) → K.inn x ((((((((wr).setCell ⟨b1, 0, none⟩ v0).setCell ⟨b1, 1, none⟩ v1).setCell ⟨b1, 2, none⟩ v2).setCell ⟨b1, 3, none⟩ v3).setCell ⟨b1, 4, none⟩ v4).setCell ⟨b1, 5, none⟩ v5).setCell ⟨b1, 6, none⟩ v6) := fun K x hx => K.cov (K.step hx hM) hC
  have full : ∀ {α β : Type} {f : α → β} {L S : List α} {n : Nat}, L.map f = (S.take n).map f → S.length = n → L.map f = S.map f := fun h1 h2 => by rw [h1, List.take_of_length_le (Nat.le_of_eq h2)]
  refine ⟨X, rfl, ⟨kHead.row (row kHead h.own0) fun x hx => ini kHead (h.inn0 x hx), row_hasI ((h.ms.step (Kd.keeps kInt) hM).cov (Kd.covs kInt) hC), kState.row (row kState h.own2) fun x hx => ini kState (h.inn2 x hx), kAct.row (row kAct h.own3) fun x hx => ini kAct (h.inn3 x hx), kTab.row (row kTab h.own4) fun x hx => ini kTab (h.inn4 x hx), kNode.row (row kNode h.own5) fun x hx => ini kNode (h.inn5 x hx), row_hasI ((h.os.step (Kd.keeps kInt) hM).cov (Kd.covs kInt) hC), h.oc⟩, ⟨Kd.own_nil0 h.own0, h.ms0, Kd.own_nil0 h.own2, Kd.own_nil0 h.own3, Kd.own_nil0 h.own4, Kd.own_nil0 h.own5, h.os0⟩, ?_, ?_⟩
  · simp only [PlanD.p, full lk.hs hl.hs.1, full lk.ss hl.ss.1, full lk.al hl.al.1, full lk.ts hl.ts.1, full lk.ns hl.ns.1, lk.ms, lk.os]
  · exact (((((((hb).setCell (by show w.heap.size ≤ b1; omega) _).setCell (by show w.heap.size ≤ b1; omega) _).setCell (by show w.heap.size ≤ b1; omega) _).setCell (by show w.heap.size ≤ b1; omega) _).setCell (by show w.heap.size ≤ b1; omega) _).setCell (by show w.heap.size ≤ b1; omega) _).setCell (by show w.heap.size ≤ b1; omega) _

theorem set7 {w : World} {p b i : Nat} {v v0 v1 v2 v3 v4 v5 v6 : Value} (h : w.cell? ⟨b, i, none⟩ = some v) (hne : ¬ (p = b)) : ((((((((w).setCell ⟨p, 0, none⟩ v0).setCell ⟨p, 1, none⟩ v1).setCell ⟨p, 2, none⟩ v2).setCell ⟨p, 3, none⟩ v3).setCell ⟨p, 4, none⟩ v4).setCell ⟨p, 5, none⟩ v5).setCell ⟨p, 6, none⟩ v6).cell? ⟨b, i, none⟩ = some v := by
  simp only [World.cell?_setCell_other _ _ _ _ (show (⟨p, _, none⟩ : Addr) ≠ ⟨b, i, none⟩ from fun e => hne (congrArg Addr.block e))]
  exact h

theorem put7 {w : World} {p : Nat} {u0 u1 u2 u3 u4 u5 u6 v0 v1 v2 v3 v4 v5 v6 : Value} (h : w.cell? ⟨p, 0, none⟩ = some u0 ∧ w.cell? ⟨p, 1, none⟩ = some u1 ∧ w.cell? ⟨p, 2, none⟩ = some u2 ∧ w.cell? ⟨p, 3, none⟩ = some u3 ∧ w.cell? ⟨p, 4, none⟩ = some u4 ∧ w.cell? ⟨p, 5, none⟩ = some u5 ∧ w.cell? ⟨p, 6, none⟩ = some u6) : ((((((((w).setCell ⟨p, 0, none⟩ v0).setCell ⟨p, 1, none⟩ v1).setCell ⟨p, 2, none⟩ v2).setCell ⟨p, 3, none⟩ v3).setCell ⟨p, 4, none⟩ v4).setCell ⟨p, 5, none⟩ v5).setCell ⟨p, 6, none⟩ v6).cell? ⟨p, 0, none⟩ = some v0 ∧ ((((((((w).setCell ⟨p, 0, none⟩ v0).setCell ⟨p, 1, none⟩ v1).setCell ⟨p, 2, none⟩ v2).setCell ⟨p, 3, none⟩ v3).setCell ⟨p, 4, none⟩ v4).setCell ⟨p, 5, none⟩ v5).setCell ⟨p, 6, none⟩ v6).cell? ⟨p, 1, none⟩ = some v1 ∧ ((((((((w).setCell ⟨p, 0, none⟩ v0).setCell ⟨p, 1, none⟩ v1).setCell ⟨p, 2, none⟩ v2).setCell ⟨p, 3, none⟩ v3).setCell ⟨p, 4, none⟩ v4).setCell ⟨p, 5, none⟩ v5).setCell ⟨p, 6, none⟩ v6).cell? ⟨p, 2, none⟩ = some v2 ∧ ((((((((w).setCell ⟨p, 0, none⟩ v0).setCell ⟨p, 1, none⟩ v1).setCell ⟨p, 2, none⟩ v2).setCell ⟨p, 3, none⟩ v3).setCell ⟨p, 4, none⟩ v4).setCell ⟨p, 5, none⟩ v5).setCell ⟨p, 6, none⟩ v6).cell? ⟨p, 3, none⟩ = some v3 ∧ ((((((((w).setCell ⟨p, 0, none⟩ v0).setCell ⟨p, 1, none⟩ v1).setCell ⟨p, 2, none⟩ v2).setCell ⟨p, 3, none⟩ v3).setCell ⟨p, 4, none⟩ v4).setCell ⟨p, 5, none⟩ v5).setCell ⟨p, 6, none⟩ v6).cell? ⟨p, 4, none⟩ = some v4 ∧ ((((((((w).setCell ⟨p, 0, none⟩ v0).setCell ⟨p, 1, none⟩ v1).setCell ⟨p, 2, none⟩ v2).setCell ⟨p, 3, none⟩ v3).setCell ⟨p, 4, none⟩ v4).setCell ⟨p, 5, none⟩ v5).setCell ⟨p, 6, none⟩ v6).cell? ⟨p, 5, none⟩ = some v5 ∧ ((((((((w).setCell ⟨p, 0, none⟩ v0).setCell ⟨p, 1, none⟩ v1).setCell ⟨p, 2, none⟩ v2).setCell ⟨p, 3, none⟩ v3).setCell ⟨p, 4, none⟩ v4).setCell ⟨p, 5, none⟩ v5).setCell ⟨p, 6, none⟩ v6).cell? ⟨p, 6, none⟩ = some v6 := by
  obtain ⟨h0, h1, h2, h3, h4, h5, h6⟩ := h
  have oth : ∀ {W : World} {i j : Nat} {v x : Value}, i ≠ j → W.cell? ⟨p, j, none⟩ = some x → (W.setCell ⟨p, i, none⟩ v).cell? ⟨p, j, none⟩ = some x := fun hne hx => (World.cell?_setCell_other _ _ _ _ (fun e => hne (congrArg Addr.off e))).trans hx
  have sam : ∀ {W : World} {j : Nat} {v x : Value}, W.cell? ⟨p, j, none⟩ = some x → (W.setCell ⟨p, j, none⟩ v).cell? ⟨p, j, none⟩ = some v := fun hx => World.cell?_setCell_same _ _ _ hx
  exact ⟨(oth (by decide) (oth (by decide) (oth (by decide) (oth (by decide) (oth (by decide) (oth (by decide) (sam h0))))))), (oth (by decide) (oth (by decide) (oth (by decide) (oth (by decide) (oth (by decide) (sam (oth (by decide) h1))))))), (oth (by decide) (oth (by decide) (oth (by decide) (oth (by decide) (sam (oth (by decide) (oth (by decide) h2))))))), (oth (by decide) (oth (by decide) (oth (by decide) (sam (oth (by decide) (oth (by decide) (oth (by decide) h3))))))), (oth (by decide) (oth (by decide) (sam (oth (by decide) (oth (by decide) (oth (by decide) (oth (by decide) h4))))))), (oth (by decide) (sam (oth (by decide) (oth (by decide) (oth (by decide) (oth (by decide) (oth (by decide) h5))))))), (sam (oth (by decide) (oth (by decide) (oth (by decide) (oth (by decide) (oth (by decide) (oth (by decide) h6)))))))⟩

set_option maxHeartbeats 32000000 in
set_option maxRecDepth 20000 in
theorem dup_plan (d : PlanD) (w : World) (hl : d.lie w) (h0 : d.nil0) (hf : d.fits) : Calls Tryz.prog 7 #[d.v] w (PlanDone d w) := by
  obtain ⟨W2, b0, b1, eW, e0, e1, hsz, hc, hz, hfz⟩ := own_boxes d w
  have HB : Hid (Below w.heap.size w W2) := by rw [eW]; exact bl_alloc (bl_alloc (Below.refl _ _))
  have HS := hid hsz
  have EW := hid eW
  have E0 := hid e0
  have E1 := hid e1
  have HZC := hid hz
  have HFZ := hid hfz
  have ZC := hid hc
  obtain ⟨z0, z1, z2, z3, z4, z5, z6⟩ := hc
  have HC1 : Hid (∀ w', Below W2.heap.size W2 w' → Calls Tryz.prog 19 #[.slice d.mta.a d.mta.n d.mta.c] w' (CopyDone kInt 3 d.ms d.mta.n w')) := fun w' h => ownInts_any d.mta d.ms w' (hl.ms.step (bl_step HB.out h)) h0.ms hf.ms
  have HC6 : Hid (∀ w', Below W2.heap.size W2 w' → Calls Tryz.prog 19 #[.slice d.out.a d.out.n d.out.c] w' (CopyDone kInt 3 d.os d.out.n w')) := fun w' h => ownInts_any d.out d.os w' (hl.os.step (bl_step HB.out h)) h0.os hf.os
  have HWM := hid hl.ms.2.1
  have HWO := hid hl.os.2.1
  have HCUR := hid (Below.refl W2.heap.size W2).drew
  have HB00 := hid (Below.refl W2.heap.size W2)
  clear eW e0 e1 hz hfz hsz
  go_enter Tryz.func7, Tryz.ntmps7
  have HNE : Hid (∀ w', Below W2.heap.size W2 w' → ¬ (w'.heap.size = b0) ∧ ¬ (b0 = w'.heap.size) ∧ b0 < w'.heap.size) := fun w' h => by
    have := h.size
    rw [HS.out] at this
    rw [E0.out]
    omega
  obtain ⟨hn2, hn2', hl2⟩ := HNE.out W2 (Below.refl _ _)
  go_upto_region 1 with fail
  rw [← EW.out, ← E1.out, ← E0.out]
  go_cut [3] (fun v3 wx => ∃ (po : Nat) (am ao : Option Addr) (cm co : Nat), v3 = .pointer (some ⟨po, 0, none⟩) ∧ Hid (OutAt w W2 po (FPo w po) (X0 d am cm ao co) wx))
  case first =>
    go_region_held3 (fun w' => w'.cell? ⟨b0, 1, none⟩ = some (.slice d.mta.a d.mta.n d.mta.c) ∧ w'.cell? ⟨b0, 6, none⟩ = some (.slice d.out.a d.out.n d.out.c))
      (first
        | (with_reducible exact ⟨cell_keep z1 HCUR.out, cell_keep z6 HCUR.out⟩)
        | (with_reducible exact ⟨cell_keep z1 (bl_alloc HB00.out).drew, cell_keep z6 (bl_alloc HB00.out).drew⟩)
        | (with_reducible exact ⟨cell_keep z1 (bl_alloc HCUR.out), cell_keep z6 (bl_alloc HCUR.out)⟩)
        | (with_reducible exact ⟨set7 (cell_keep z1 HCUR.out) (by first | exact hn2 | exact hnx), set7 (cell_keep z6 HCUR.out) (by first | exact hn2 | exact hnx)⟩)
        | go_keep)
      (first
        | (go_at_call 19; (with_reducible refine (HC1.out _ (by with_reducible first | exact HCUR.out | exact bl_alloc HCUR.out | exact (bl_alloc HB00.out).drew)).mono ?_); rintro e wx ⟨am, cm, rfl, hom, hbx⟩; have HM0 := HCUR; have hbx0 := hbx; have HCUR := hid (bl_step (by with_reducible first | exact HCUR.out | exact bl_alloc HCUR.out | exact (bl_alloc HB00.out).drew) hbx); obtain ⟨hnx, hnx', hlx⟩ := HNE.out _ HCUR.out; (first | ((first | (with_reducible have PC := po_cellsD hbx) | (with_reducible have PC := po_cells hbx)); have t0 := PC.1.1; have f0 := PC.2.1.1; have t1 := PC.1.2.1; have f1 := PC.2.1.2.1; have t2 := PC.1.2.2.1; have f2 := PC.2.1.2.2.1; have t3 := PC.1.2.2.2.1; have f3 := PC.2.1.2.2.2.1; have t4 := PC.1.2.2.2.2.1; have f4 := PC.2.1.2.2.2.2.1; have t5 := PC.1.2.2.2.2.2.1; have f5 := PC.2.1.2.2.2.2.2.1; have t6 := PC.1.2.2.2.2.2.2; have f6 := PC.2.1.2.2.2.2.2.2; have hpw := PC.2.2) | skip))
        | (go_at_call 19; (with_reducible refine (HC6.out _ (by with_reducible first | exact HCUR.out | exact bl_alloc HCUR.out | exact (bl_alloc HB00.out).drew)).mono ?_); rintro e wy ⟨ao, co, rfl, hoo, hbx⟩; have HO0 := HCUR; have HCUR := hid (bl_step (by with_reducible first | exact HCUR.out | exact bl_alloc HCUR.out | exact (bl_alloc HB00.out).drew) hbx); obtain ⟨hny, hny', hly⟩ := HNE.out _ HCUR.out; (first | ((first | (with_reducible have PC := po_cellsD hbx) | (with_reducible have PC := po_cells hbx)); have t0 := PC.1.1; have f0 := PC.2.1.1; have t1 := PC.1.2.1; have f1 := PC.2.1.2.1; have t2 := PC.1.2.2.1; have f2 := PC.2.1.2.2.1; have t3 := PC.1.2.2.2.1; have f3 := PC.2.1.2.2.2.1; have t4 := PC.1.2.2.2.2.1; have f4 := PC.2.1.2.2.2.2.1; have t5 := PC.1.2.2.2.2.2.1; have f5 := PC.2.1.2.2.2.2.2.1; have t6 := PC.1.2.2.2.2.2.2; have f6 := PC.2.1.2.2.2.2.2.2; have hpw := PC.2.2) | (have t0 := cell_keep t0 hbx; have f0 := (hbx.frozen (p := ⟨W2.heap.size, 0, none⟩) hpw).trans f0; have t1 := cell_keep t1 hbx; have f1 := (hbx.frozen (p := ⟨W2.heap.size, 1, none⟩) hpw).trans f1; have t2 := cell_keep t2 hbx; have f2 := (hbx.frozen (p := ⟨W2.heap.size, 2, none⟩) hpw).trans f2; have t3 := cell_keep t3 hbx; have f3 := (hbx.frozen (p := ⟨W2.heap.size, 3, none⟩) hpw).trans f3; have t4 := cell_keep t4 hbx; have f4 := (hbx.frozen (p := ⟨W2.heap.size, 4, none⟩) hpw).trans f4; have t5 := cell_keep t5 hbx; have f5 := (hbx.frozen (p := ⟨W2.heap.size, 5, none⟩) hpw).trans f5; have t6 := cell_keep t6 hbx; have f6 := (hbx.frozen (p := ⟨W2.heap.size, 6, none⟩) hpw).trans f6; have hpw0 := hpw; have hpw := Nat.lt_of_lt_of_le hpw hbx.size) | skip)))
    · have HST : Hid (OutAt w W2 wy.heap.size (FPo w wy.heap.size) (X0 d am cm ao co) (wy.alloc (.cells #[.slice none 0 0, .slice am d.mta.n cm, .slice none 0 0, .slice none 0 0, .slice none 0 0, .slice none 0 0, .slice ao d.out.n co] 29))) := by
        have hs2 := HS.out
        have h1 := HO0.out.size
        have h2 := HCUR.out.size
        obtain ⟨_, _, e6, hle6, _⟩ := own_is hoo
        simp only [Value.slice.injEq, true_and] at e6
        refine out_start ⟨(World.cell?_alloc_at _ _ _ _ rfl).trans rfl, (World.cell?_alloc_at _ _ _ _ rfl).trans rfl, (World.cell?_alloc_at _ _ _ _ rfl).trans rfl, (World.cell?_alloc_at _ _ _ _ rfl).trans rfl, (World.cell?_alloc_at _ _ _ _ rfl).trans rfl, (World.cell?_alloc_at _ _ _ _ rfl).trans rfl, (World.cell?_alloc_at _ _ _ _ rfl).trans rfl⟩ (fun i => World.frozen?_alloc_at _ _ _ _ rfl) (by omega) (by simp) (row_to (W := W2.drew) (fresh_row kInt hom HWM.out) (by show _ ≤ W2.heap.size; omega) hbx (.inr (by have := hbx.size; omega)) (lands_alloc wy _)) (Kd.own_nil0 hom) (row_to (W := wx) (fresh_row kInt hoo HWO.out) (by omega) (Below.refl _ _) (.inr (Nat.le_refl _)) (lands_alloc wy _)) (Kd.own_nil0 hoo) (by rw [e6.2]; exact hle6) ?_
        rw [← hs2]
        exact bl_alloc HCUR.out
      go_wp2_with fail
      go_meet
      exact ⟨_, am, ao, cm, co, rfl, HST⟩
    · have HST : Hid (OutAt w W2 wx.heap.size (FPo w wx.heap.size) (X0 d am cm ao co) ((((((((wy).setCell ⟨wx.heap.size, 0, none⟩ (.slice none 0 0)).setCell ⟨wx.heap.size, 1, none⟩ (.slice am d.mta.n cm)).setCell ⟨wx.heap.size, 2, none⟩ (.slice none 0 0)).setCell ⟨wx.heap.size, 3, none⟩ (.slice none 0 0)).setCell ⟨wx.heap.size, 4, none⟩ (.slice none 0 0)).setCell ⟨wx.heap.size, 5, none⟩ (.slice none 0 0)).setCell ⟨wx.heap.size, 6, none⟩ (.slice ao d.out.n co))) := by
        have hs2 := HS.out
        have h1 := HO0.out.size
        have h2 := HCUR.out.size
        have h3 := hbx.size
        obtain ⟨_, _, e6, hle6, _⟩ := own_is hoo
        simp only [Value.slice.injEq, true_and] at e6
        refine out_start (put7 ⟨t0, t1, t2, t3, t4, t5, t6⟩) (fun i => ?_) (by omega) (by simp only [World.size_setCell]; omega) (row_to (W := W2.drew) (wy := wy) (fresh_row kInt hom HWM.out) (by show _ ≤ W2.heap.size; omega) (bl_step (bl_alloc (Below.refl _ _)) hbx) (.inr (Nat.le_refl _)) ((((((((lands_refl _ _).put _ _).put _ _).put _ _).put _ _).put _ _).put _ _).put _ _)) (Kd.own_nil0 hom) (row_to (W := wx.alloc _) (fresh_row kInt hoo HWO.out) (by rw [World.size_alloc]; omega) (Below.refl _ _) (.inl (by rw [World.size_alloc]; omega)) ((((((((lands_refl _ _).put _ _).put _ _).put _ _).put _ _).put _ _).put _ _).put _ _)) (Kd.own_nil0 hoo) (by rw [e6.2]; exact hle6) ?_
        · simp only [World.frozen?_setCell]
          exact (hbx.frozen (p := ⟨wx.heap.size, i, none⟩) (by simp)).trans (World.frozen?_alloc_at _ _ _ _ rfl)
        · exact Below.setCell (Below.setCell (Below.setCell (Below.setCell (Below.setCell (Below.setCell (Below.setCell ((by rw [← hs2]; exact HCUR.out : Below (w.heap.size + 2) W2 wy)) (by show w.heap.size + 2 ≤ wx.heap.size; omega) _) (by show w.heap.size + 2 ≤ wx.heap.size; omega) _) (by show w.heap.size + 2 ≤ wx.heap.size; omega) _) (by show w.heap.size + 2 ≤ wx.heap.size; omega) _) (by show w.heap.size + 2 ≤ wx.heap.size; omega) _) (by show w.heap.size + 2 ≤ wx.heap.size; omega) _) (by show w.heap.size + 2 ≤ wx.heap.size; omega) _
      go_wp2_with fail
      go_meet
      exact ⟨_, am, ao, cm, co, rfl, HST⟩
    · have HST : Hid (OutAt w W2 W2.heap.size (FPo w W2.heap.size) (X0 d am cm ao co) ((((((((wy).setCell ⟨W2.heap.size, 0, none⟩ (.slice none 0 0)).setCell ⟨W2.heap.size, 1, none⟩ (.slice am d.mta.n cm)).setCell ⟨W2.heap.size, 2, none⟩ (.slice none 0 0)).setCell ⟨W2.heap.size, 3, none⟩ (.slice none 0 0)).setCell ⟨W2.heap.size, 4, none⟩ (.slice none 0 0)).setCell ⟨W2.heap.size, 5, none⟩ (.slice none 0 0)).setCell ⟨W2.heap.size, 6, none⟩ (.slice ao d.out.n co))) := by
        have hs2 := HS.out
        have h1 := HO0.out.size
        have h2 := HCUR.out.size
        have h3 := hbx.size
        obtain ⟨_, _, e6, hle6, _⟩ := own_is hoo
        simp only [Value.slice.injEq, true_and] at e6
        refine out_start (put7 ⟨t0, t1, t2, t3, t4, t5, t6⟩) (fun i => ?_) (by omega) (by simp only [World.size_setCell]; omega) (row_to (W := (W2.alloc _).drew) (wy := wy) (fresh_row kInt hom HWM.out) (by show _ ≤ (W2.alloc _).heap.size; rw [World.size_alloc]; omega) hbx (.inl (by show _ < (W2.alloc _).heap.size; rw [World.size_alloc]; omega)) ((((((((lands_refl _ _).put _ _).put _ _).put _ _).put _ _).put _ _).put _ _).put _ _)) (Kd.own_nil0 hom) (row_to (W := wx) (fresh_row kInt hoo HWO.out) (by omega) (Below.refl _ _) (.inl (by have := hpw0; omega)) ((((((((lands_refl _ _).put _ _).put _ _).put _ _).put _ _).put _ _).put _ _).put _ _)) (Kd.own_nil0 hoo) (by rw [e6.2]; exact hle6) ?_
        · simp only [World.frozen?_setCell]
          exact (hbx.frozen (p := ⟨W2.heap.size, i, none⟩) (by have := hpw0; show _ < wx.heap.size; omega)).trans ((hbx0.frozen (p := ⟨W2.heap.size, i, none⟩) (by show _ < (W2.alloc _).heap.size; simp)).trans (World.frozen?_alloc_at _ _ _ _ rfl))
        · exact Below.setCell (Below.setCell (Below.setCell (Below.setCell (Below.setCell (Below.setCell (Below.setCell ((by rw [← hs2]; exact HCUR.out : Below (w.heap.size + 2) W2 wy)) (by show w.heap.size + 2 ≤ W2.heap.size; omega) _) (by show w.heap.size + 2 ≤ W2.heap.size; omega) _) (by show w.heap.size + 2 ≤ W2.heap.size; omega) _) (by show w.heap.size + 2 ≤ W2.heap.size; omega) _) (by show w.heap.size + 2 ≤ W2.heap.size; omega) _) (by show w.heap.size + 2 ≤ W2.heap.size; omega) _) (by show w.heap.size + 2 ≤ W2.heap.size; omega) _
      go_wp2_with fail
      go_meet
      exact ⟨_, am, ao, cm, co, rfl, HST⟩
  case rest =>
    obtain ⟨po, am, ao, cm, co, rfl, OA⟩ := hcut
    have HLK := hid (like_start d am cm ao co)
    clear HC1 HC6 HCUR HB00 HNE HWM HWO hn2 hn2' hl2 EW z0 z1 z2 z3 z4 z5 z6
    generalize X0 d am cm ao co = X at *
    generalize FPo w po = FF at *
    have HL := hid hl
    have H0 := hid h0
    have HF := hid hf
    clear hl h0 hf
    have hbn0 := HF.out.hs.1
    have hbn2 := HF.out.ss.1
    have hbn3 := HF.out.al.1
    have hbn4 := HF.out.ts.1
    have hbn5 := HF.out.ns.1
    go_wp2
    go_loopw [4] (fun q  wr => ∃ (k : Nat) (F : Nat → Prop) (X : PlanD), k ≤ d.heads.n ∧ q = .int .i64 k ∧ Hid (OutAt w W2 po F X wr) ∧ Hid (Like d X k 0 0 0 0)) (fun q  _ => d.heads.n - (intOf q).toNat)
    case atStart => exact ⟨0, _, _, Nat.zero_le _, rfl, OA, HLK⟩
    case round =>
      obtain ⟨k, F1, Y, hk, rfl, OA1, LK1⟩ := hrel
      clear OA HLK
      have z0 := keep_box OA1.out.bel E0.out ZC.out.1
      have BW : Hid (Below w.heap.size w wr) := HB.out.trans (OA1.out.bel.mono (by omega))
      obtain ⟨a0, ea0⟩ : ∃ a, d.heads.a = a := ⟨_, rfl⟩
      rw [ea0] at z0
      have EA0 := hid ea0
      clear ea0
      by_cases hlt : k < d.heads.n
      · have hki : (k : Int) < (d.heads.n : Int) := by omega
        obtain ⟨g, off, x, ea, hx, hp⟩ := row_at (HL.out.hs.step HeadD.keeps BW.out) hlt
        obtain rfl : a0 = some ⟨g, off, none⟩ := by rw [← EA0.out]; exact ea
        have c0 := Eq.mp (by rw [Nat.mul_one]) hp.1.1
        have HXN := hid (HF.out.hs.2 x (List.mem_of_getElem? hx))
        have HCI : Hid (∀ w', Below wr.heap.size wr w' → Calls Tryz.prog 19 #[.slice x.w.a x.w.n x.w.c] w' (CopyDone kInt 3 x.ws x.w.n w')) := fun w' h => ownInts_any x.w x.ws w' (hp.2.step h) hp.1.2 HXN.out
        have HXW := hid hp.2.2.1
        have HXX := hid hx
        have y0 := OA1.out.c0
        have yf := OA1.out.fz 0
        have hpl := OA1.out.pl
        have HNN : Hid (Y.heads.n ≤ 100000) := by show Y.heads.n ≤ 100000; rw [← own_len kHead OA1.out.own0, like_len LK1.out.hs (by rw [HL.out.hs.1]; exact hk)]; have := HF.out.hs.1; omega
        clear ea hx hp
        go_wp2_with fail
        go_region_law (first
          | (go_simp; go_at_call 19; refine (HCI.out _ ((Below.refl _ _).drew)).mono ?_; rintro e w5 ⟨a5, c5, rfl, ho5, hb5⟩; have y5 := cell_keep (w := wr.drew) y0 hb5; have yf5 := (hb5.frozen (p := ⟨po, 0, none⟩) hpl).trans yf; have hp5 : po < w5.heap.size := Nat.lt_of_lt_of_le hpl hb5.size)
          | (refine pushK Tryz.underlying22 Tryz.infoHeader rfl (by decide) (by decide) rfl _ _ rfl (po + 1) Y.heads.n Y.heads.c 1 Y.heads.a (Y.hs.flatMap kHead.cells) [.slice a5 x.w.n c5] ⟨w5.heap.size, 0, none⟩ (by simp [Act.eval]) (by simp [Act.eval]) ((owns_belowK (owns_belowK OA1.out.own0 ((Below.refl wr.heap.size wr).drew)) hb5).alloc _) rfl src_of (by intro u hu; simp only [List.mem_cons, List.not_mem_nil, or_false] at hu; subst hu; rfl) HNN.out (lt_alloc hp5) ?_; intro g6 cap6 w6 ho6 hg6 hn6; obtain ⟨y6, yf6, hp6⟩ := po_after OA1.out.own0 hg6 (lt_alloc hp5) (cell_keep y5 (bl_alloc (Below.refl _ _))) ((World.frozen?_alloc_past _ _ _ hp5).trans yf5)))
        all_goals
          have RN : Hid (OutAt w W2 po _ _ _) := OutAt.push0 (W := wr.drew) (x' := ⟨⟨a5, x.w.n, c5⟩, x.ws⟩) OA1.out (bl_step (Below.refl wr.heap.size wr).drew (bl_alloc hb5)) (Nat.le_refl _) (fresh_head ho5 HXW.out) ho6 hg6 hn6
          have LN : Hid (Like d { Y with heads := ⟨some ⟨g6, 0, none⟩, Y.heads.n + 1, cap6⟩, hs := Y.hs ++ [⟨⟨a5, x.w.n, c5⟩, x.ws⟩] } (k + 1) 0 0 0 0) := ⟨like_more LK1.out.hs HXX.out rfl, LK1.out.ss, LK1.out.al, LK1.out.ts, LK1.out.ns, LK1.out.ms, LK1.out.os⟩
          clear ho5 hb5 ho6 hg6 hn6 OA1 LK1 y0 yf y5 yf5 c0 HCI
          go_wp2
          go_roundw
          case rel => exact ⟨k + 1, _, _, by omega, by go_num, RN, LN⟩
          case measure => simp [intOf]; omega
      · have hki : ¬ (k : Int) < (d.heads.n : Int) := by omega
        go_wp2
        obtain rfl : k = d.heads.n := by omega
        go_loopw [5, 6, 7] (fun q _ _ wr => ∃ (k : Nat) (F : Nat → Prop) (X : PlanD), k ≤ d.states.n ∧ q = .int .i64 k ∧ Hid (OutAt w W2 po F X wr) ∧ Hid (Like d X d.heads.n k 0 0 0)) (fun q _ _ _ => d.states.n - (intOf q).toNat)
        case atStart => exact ⟨0, _, _, Nat.zero_le _, rfl, OA1, LK1⟩
        case round =>
          obtain ⟨k, F2, Y, hk, rfl, OA2, LK2⟩ := hrel
          clear OA1 LK1
          have z0 := keep_box OA2.out.bel E0.out ZC.out.2.2.1
          have BW : Hid (Below w.heap.size w wr) := HB.out.trans (OA2.out.bel.mono (by omega))
          obtain ⟨a0, ea0⟩ : ∃ a, d.states.a = a := ⟨_, rfl⟩
          rw [ea0] at z0
          have EA0 := hid ea0
          clear ea0
          by_cases hlt : k < d.states.n
          · have hki : (k : Int) < (d.states.n : Int) := by omega
            obtain ⟨g, off, x, ea, hx, hp⟩ := row_at (HL.out.ss.step StateD.keeps BW.out) hlt
            obtain rfl : a0 = some ⟨g, off, none⟩ := by rw [← EA0.out]; exact ea
            have HXN := hid (HF.out.ss.2 x (List.mem_of_getElem? hx))
            have HIN := hid (kState.out hp)
            have c0 : wr.cell? ⟨g, off + k * 5, none⟩ = some (.int .i64 x.head) := kState.cell hp 0 _ rfl
            have c1 : wr.cell? ⟨g, off + k * 5 + 1, none⟩ = some (.int .i64 x.r.h) := kState.cell hp 1 _ rfl
            have c2 : wr.cell? ⟨g, off + k * 5 + 2, none⟩ = some (.int .i64 x.r.f) := kState.cell hp 2 _ rfl
            have c3 : wr.cell? ⟨g, off + k * 5 + 3, none⟩ = some (.slice x.cases.a x.cases.n x.cases.c) := kState.cell hp 3 _ rfl
            have c4 : wr.cell? ⟨g, off + k * 5 + 4, none⟩ = some (.int .i64 x.els) := kState.cell hp 4 _ rfl
            have HXX := hid hx
            obtain ⟨W5, hW5⟩ : ∃ W5, W5 = wr.alloc (.cells #[.int .i64 x.head, .int .i64 x.r.h, .int .i64 x.r.f, .slice x.cases.a x.cases.n x.cases.c, .int .i64 x.els] 76) := ⟨_, rfl⟩
            obtain ⟨p6, hp6⟩ : ∃ p, p = wr.heap.size := ⟨_, rfl⟩
            have hWs : W5.heap.size = wr.heap.size + 1 := by rw [hW5]; simp
            have B5 : Hid (Below wr.heap.size wr W5) := by rw [hW5]; exact bl_alloc (Below.refl _ _)
            have hcb : ∀ i v, (#[.int .i64 x.head, .int .i64 x.r.h, .int .i64 x.r.f, .slice x.cases.a x.cases.n x.cases.c, .int .i64 x.els] : Array Value)[i]? = some v → W5.cell? ⟨p6, i, none⟩ = some v := fun i v hv => by rw [hW5, hp6]; exact (World.cell?_alloc_at _ _ _ _ rfl).trans hv
            have hfb : ∀ i, W5.frozen? ⟨p6, i, none⟩ = false := fun i => by rw [hW5, hp6]; exact World.frozen?_alloc_at _ _ _ _ rfl
            have y0 := OA2.out.c2
            have yf := OA2.out.fz 2
            have hpl := OA2.out.pl
            have hnp : ¬ (p6 = po) := by rw [hp6]; omega
            have HNN : Hid (Y.states.n ≤ 100000) := by show Y.states.n ≤ 100000; rw [← own_len kState OA2.out.own2, like_len LK2.out.ss (by rw [HL.out.ss.1]; exact hk)]; have := HF.out.ss.1; omega
            obtain ⟨a5, c5, w5, hrun5, ho5, hb5⟩ := run_copyK kCase 74 Tryz.underlying74 Tryz.infoCase rfl (by decide) (s := x.cases) (HIN.out.2.step CaseD.keeps (B5.out)) HIN.out.1.2.2.2.1 HXN.out
            have b5c : ∀ i v, W5.cell? ⟨p6, i, none⟩ = some v → w5.cell? ⟨p6, i, none⟩ = some v := fun i v hv => cell_keep hv hb5
            have v0 := b5c 0 _ (hcb 0 _ rfl)
            have f0 : w5.frozen? ⟨p6, 0, none⟩ = false := (hb5.frozen (p := ⟨p6, 0, none⟩) (by rw [hWs, hp6]; show wr.heap.size < _; omega)).trans (hfb 0)
            have v1 := b5c 1 _ (hcb 1 _ rfl)
            have f1 : w5.frozen? ⟨p6, 1, none⟩ = false := (hb5.frozen (p := ⟨p6, 1, none⟩) (by rw [hWs, hp6]; show wr.heap.size < _; omega)).trans (hfb 1)
            have v2 := b5c 2 _ (hcb 2 _ rfl)
            have f2 : w5.frozen? ⟨p6, 2, none⟩ = false := (hb5.frozen (p := ⟨p6, 2, none⟩) (by rw [hWs, hp6]; show wr.heap.size < _; omega)).trans (hfb 2)
            have v3 := b5c 3 _ (hcb 3 _ rfl)
            have f3 : w5.frozen? ⟨p6, 3, none⟩ = false := (hb5.frozen (p := ⟨p6, 3, none⟩) (by rw [hWs, hp6]; show wr.heap.size < _; omega)).trans (hfb 3)
            have v4 := b5c 4 _ (hcb 4 _ rfl)
            have f4 : w5.frozen? ⟨p6, 4, none⟩ = false := (hb5.frozen (p := ⟨p6, 4, none⟩) (by rw [hWs, hp6]; show wr.heap.size < _; omega)).trans (hfb 4)
            have hp65 : p6 < w5.heap.size := by have := hb5.size; rw [hWs] at this; rw [hp6]; omega
            have hpl5 : po < w5.heap.size := by have := hb5.size; rw [hWs] at this; omega
            have y5 : w5.cell? ⟨po, 2, none⟩ = some (.slice Y.states.a Y.states.n Y.states.c) := cell_keep (cell_keep y0 B5.out) hb5
            have yf5 : w5.frozen? ⟨po, 2, none⟩ = false := ((bl_step B5.out hb5).frozen (p := ⟨po, 2, none⟩) hpl).trans yf
            have BB : Hid (Below wr.heap.size wr ((w5.setCell ⟨p6, 3, none⟩ (.slice a5 x.cases.n c5)).alloc (.cells #[.int .i64 x.head, .int .i64 x.r.h, .int .i64 x.r.f, .slice a5 x.cases.n c5, .int .i64 x.els] 76))) := bl_alloc ((bl_step B5.out hb5).setCell (by show wr.heap.size ≤ p6; rw [hp6]; exact Nat.le_refl _) _)
            obtain ⟨g6, cap6, w6, hrun6, ho6, hg6, hn6⟩ := run_appK (w := (w5.setCell ⟨p6, 3, none⟩ (.slice a5 x.cases.n c5)).alloc (.cells #[.int .i64 x.head, .int .i64 x.r.h, .int .i64 x.r.f, .slice a5 x.cases.n c5, .int .i64 x.els] 76)) (ad := ⟨w5.heap.size, 0, none⟩) (m := 1) (c := 1) (news := [.int .i64 x.head, .int .i64 x.r.h, .int .i64 x.r.f, .slice a5 x.cases.n c5, .int .i64 x.els]) 24 Tryz.underlying24 Tryz.infoState rfl (by decide) (owns_belowK OA2.out.own2 BB.out) rfl (src_at (World.size_setCell _ _ _).symm) (by intro u hu; simp only [List.mem_cons, List.not_mem_nil, or_false] at hu; rcases hu with rfl | rfl | rfl | rfl | rfl <;> rfl) (by decide) (by have := HNN.out; unfold maxLen; omega) (by have := HNN.out; omega) (by have := BB.out.size; omega)
            obtain ⟨y6, yf6, hp66⟩ := po_after OA2.out.own2 hg6 (Nat.lt_of_lt_of_le hpl BB.out.size) (cell_keep y0 BB.out) ((BB.out.frozen (p := ⟨po, 2, none⟩) hpl).trans yf)
            have RN : Hid (OutAt w W2 po _ _ _) := OutAt.push2 (W := W5) (x' := ⟨x.head, x.r, ⟨a5, x.cases.n, c5⟩, x.cs, x.els⟩) OA2.out BB.out (by rw [hWs]; omega) (fresh_state ho5 (kState.step HIN.out B5.out) (put_alloc (by rw [hWs, hp6]; omega))) ho6 hg6 hn6
            have LN : Hid (Like d { Y with states := ⟨some ⟨g6, 0, none⟩, Y.states.n + 1, cap6⟩, ss := Y.ss ++ [⟨x.head, x.r, ⟨a5, x.cases.n, c5⟩, x.cs, x.els⟩] } d.heads.n (k + 1) 0 0 0) := ⟨LK2.out.hs, like_more LK2.out.ss HXX.out rfl, LK2.out.al, LK2.out.ts, LK2.out.ns, LK2.out.ms, LK2.out.os⟩
            have W5E := hid hW5
            have P6E := hid hp6
            have w5c := hcb 3 _ rfl
            clear ea hx hp hcb hfb b5c ho5 hb5 ho6 hg6 hn6 hW5 hp6 hWs OA2 LK2 BW BB B5
            go_upto_region 11 with fail
            rw [← W5E.out, ← P6E.out]
            clear W5E P6E
            go_upto_region 12 with (at_builtin; refine append_run rfl _ _ rfl rfl rfl hrun5 ?_)
            go_wp2_with (at_builtin; refine append_run rfl _ _ rfl rfl rfl hrun6 ?_)
            go_roundw
            case rel => exact ⟨k + 1, _, _, by omega, by go_num, RN, LN⟩
            case measure => simp [intOf]; omega
          · have hki : ¬ (k : Int) < (d.states.n : Int) := by omega
            go_wp2
            obtain rfl : k = d.states.n := by omega
            go_loopw [8, 9, 10, 11] (fun q _ _ _ wr => ∃ (k : Nat) (F : Nat → Prop) (X : PlanD), k ≤ d.acts.n ∧ q = .int .i64 k ∧ Hid (OutAt w W2 po F X wr) ∧ Hid (Like d X d.heads.n d.states.n k 0 0)) (fun q _ _ _ _ => d.acts.n - (intOf q).toNat)
            case atStart => exact ⟨0, _, _, Nat.zero_le _, rfl, OA2, LK2⟩
            case round =>
              obtain ⟨w0, rfl⟩ : ∃ w0, w0 = wr := ⟨_, rfl⟩
              obtain ⟨k, F3, Y, hk, rfl, OA3, LK3⟩ := hrel
              clear OA2 LK2
              have z0 := keep_box OA3.out.bel E0.out ZC.out.2.2.2.1
              have BW : Hid (Below w.heap.size w w0) := HB.out.trans (OA3.out.bel.mono (by omega))
              obtain ⟨a0, ea0⟩ : ∃ a, d.acts.a = a := ⟨_, rfl⟩
              rw [ea0] at z0
              have EA0 := hid ea0
              clear ea0
              by_cases hlt : k < d.acts.n
              · have hki : (k : Int) < (d.acts.n : Int) := by omega
                obtain ⟨g, off, x, ea, hx, hp⟩ := row_at (HL.out.al.step ActD.keeps BW.out) hlt
                obtain rfl : a0 = some ⟨g, off, none⟩ := by rw [← EA0.out]; exact ea
                have HXN := hid (HF.out.al.2 x (List.mem_of_getElem? hx))
                have hxn := HXN.out.2.1
                have c0 := hp.1.1
                have c1 := hp.2.1.1
                obtain ⟨xa, exa⟩ : ∃ a, x.ops.a = a := ⟨_, rfl⟩
                rw [exa] at c1
                have EXA := hid exa
                have HOPS := hid hp.2.2.2
                have HXW := hid hp.2.2.1.2.1
                have HXX := hid hx
                have HCI := hid (ownInts_any x.w x.ws w0 hp.2.2.1 hp.1.2 HXN.out.1)
                have HNN : Hid (Y.acts.n ≤ 100000) := by show Y.acts.n ≤ 100000; rw [← own_len kAct OA3.out.own3, like_len LK3.out.al (by rw [HL.out.al.1]; exact hk)]; have := HF.out.al.1; omega
                have HZ0 := hid z0
                have HC1' := hid c1
                clear ea hx hp exa
                go_wp2_with fail
                refine HCI.out.mono ?_
                rintro e w5 ⟨a5, c5, rfl, ho5, hb5⟩
                have AS := hid (ActAt.start ho5 HXW.out hb5)
                obtain ⟨W6, hW6⟩ : ∃ W6, W6 = w5.alloc (.cells #[.slice a5 x.w.n c5, .slice none 0 0] 79) := ⟨_, rfl⟩
                obtain ⟨pa, hpa⟩ : ∃ pa, pa = w5.heap.size := ⟨_, rfl⟩
                rw [← hW6, ← hpa] at AS
                have z6 := cell_keep z0 AS.out.bel
                have c6 := cell_keep c1 AS.out.bel
                have EW6 := hid hW6
                have EPA := hid hpa
                clear ho5 hb5 hW6 hpa HCI c0 z0 c1
                go_wp2
                rw [← EW6.out, ← EPA.out]
                clear EW6 EPA
                go_loopw [10, 11] (fun q _ wi => ∃ (j : Nat) (G : Nat → Prop) (oa : Option Addr) (oc : Nat) (S : List OpD), j ≤ x.ops.n ∧ q = .int .i64 j ∧ Hid (ActAt w0 pa x a5 c5 G oa oc S wi) ∧ Hid (S.map OpD.p = (x.os.take j).map OpD.p)) (fun q _ _ => x.ops.n - (intOf q).toNat)
                case atStart => exact ⟨0, _, _, _, [], Nat.zero_le _, rfl, AS, rfl⟩
                case round =>
                  obtain ⟨j, G, oa, oc, S, hj, rfl, AA, LS⟩ := hrel
                  clear AS z6 c6
                  have z7 := cell_keep HZ0.out AA.out.bel
                  have c7' := cell_keep HC1'.out AA.out.bel
                  by_cases hlj : j < x.ops.n
                  · have hji : (j : Int) < (x.ops.n : Int) := by omega
                    obtain ⟨g2, o2, t, et, ht, hpt⟩ := row_at (HOPS.out.step OpD.keeps AA.out.bel) hlj
                    obtain rfl : xa = some ⟨g2, o2, none⟩ := by rw [← EXA.out]; exact et
                    have HTN := hid (HXN.out.2.2 t (List.mem_of_getElem? ht))
                    have HIN := hid (kOp.out hpt)
                    have HTT := hid ht
                    have d0 : wr.cell? ⟨g2, o2 + j * 5, none⟩ = some (.int .i64 t.kind) := kOp.cell hpt 0 _ rfl
                    have d1 : wr.cell? ⟨g2, o2 + j * 5 + 1, none⟩ = some (.int .i64 t.r.h) := kOp.cell hpt 1 _ rfl
                    have d2 : wr.cell? ⟨g2, o2 + j * 5 + 2, none⟩ = some (.int .i64 t.r.f) := kOp.cell hpt 2 _ rfl
                    have d3 : wr.cell? ⟨g2, o2 + j * 5 + 3, none⟩ = some (.int .i64 t.head) := kOp.cell hpt 3 _ rfl
                    have d4 : wr.cell? ⟨g2, o2 + j * 5 + 4, none⟩ = some (.slice t.e.a t.e.n t.e.c) := kOp.cell hpt 4 _ rfl
                    obtain ⟨W5, hW5⟩ : ∃ W5, W5 = wr.alloc (.cells #[.int .i64 t.kind, .int .i64 t.r.h, .int .i64 t.r.f, .int .i64 t.head, .slice t.e.a t.e.n t.e.c] 81) := ⟨_, rfl⟩
                    obtain ⟨p6, hp6⟩ : ∃ p, p = wr.heap.size := ⟨_, rfl⟩
                    have hWs : W5.heap.size = wr.heap.size + 1 := by rw [hW5]; simp
                    have B5 : Hid (Below wr.heap.size wr W5) := by rw [hW5]; exact bl_alloc (Below.refl _ _)
                    have hcb : ∀ i v, (#[.int .i64 t.kind, .int .i64 t.r.h, .int .i64 t.r.f, .int .i64 t.head, .slice t.e.a t.e.n t.e.c] : Array Value)[i]? = some v → W5.cell? ⟨p6, i, none⟩ = some v := fun i v hv => by rw [hW5, hp6]; exact (World.cell?_alloc_at _ _ _ _ rfl).trans hv
                    have hfb : ∀ i, W5.frozen? ⟨p6, i, none⟩ = false := fun i => by rw [hW5, hp6]; exact World.frozen?_alloc_at _ _ _ _ rfl
                    have y0 := AA.out.c1
                    have yf := AA.out.fz 1
                    have hpl := AA.out.pl
                    have hnp : ¬ (p6 = pa) := by rw [hp6]; omega
                    have HSN : Hid (S.length ≤ 100000) := by show S.length ≤ 100000; rw [like_len LS.out (by rw [HOPS.out.1]; exact hj)]; omega
                    have HCT := hid (ownTree_any t.e t.es W5 (HIN.out.2.step PushD.keeps B5.out) HIN.out.1.2.2.2.2 HTN.out)
                    have W5E0 := hid hW5
                    have P6E0 := hid hp6
                    go_wp2_with fail
                    rw [← W5E0.out, ← P6E0.out]
                    refine HCT.out.mono ?_
                    rintro e w7 ⟨a7, c7, rfl, ho7, hb7⟩
                    have b5c : ∀ i v, W5.cell? ⟨p6, i, none⟩ = some v → w7.cell? ⟨p6, i, none⟩ = some v := fun i v hv => cell_keep hv hb7
                    have v0 := b5c 0 _ (hcb 0 _ rfl)
                    have f0 : w7.frozen? ⟨p6, 0, none⟩ = false := (hb7.frozen (p := ⟨p6, 0, none⟩) (by rw [hWs, hp6]; show wr.heap.size < _; omega)).trans (hfb 0)
                    have v1 := b5c 1 _ (hcb 1 _ rfl)
                    have f1 : w7.frozen? ⟨p6, 1, none⟩ = false := (hb7.frozen (p := ⟨p6, 1, none⟩) (by rw [hWs, hp6]; show wr.heap.size < _; omega)).trans (hfb 1)
                    have v2 := b5c 2 _ (hcb 2 _ rfl)
                    have f2 : w7.frozen? ⟨p6, 2, none⟩ = false := (hb7.frozen (p := ⟨p6, 2, none⟩) (by rw [hWs, hp6]; show wr.heap.size < _; omega)).trans (hfb 2)
                    have v3 := b5c 3 _ (hcb 3 _ rfl)
                    have f3 : w7.frozen? ⟨p6, 3, none⟩ = false := (hb7.frozen (p := ⟨p6, 3, none⟩) (by rw [hWs, hp6]; show wr.heap.size < _; omega)).trans (hfb 3)
                    have v4 := b5c 4 _ (hcb 4 _ rfl)
                    have f4 : w7.frozen? ⟨p6, 4, none⟩ = false := (hb7.frozen (p := ⟨p6, 4, none⟩) (by rw [hWs, hp6]; show wr.heap.size < _; omega)).trans (hfb 4)
                    have hp65 : p6 < w7.heap.size := by have := hb7.size; rw [hWs] at this; rw [hp6]; omega
                    have hpl5 : pa < w7.heap.size := by have := hb7.size; rw [hWs] at this; omega
                    have y5 : w7.cell? ⟨pa, 1, none⟩ = some (.slice oa S.length oc) := cell_keep (cell_keep y0 B5.out) hb7
                    have yf5 : w7.frozen? ⟨pa, 1, none⟩ = false := ((bl_step B5.out hb7).frozen (p := ⟨pa, 1, none⟩) hpl).trans yf
                    have BB : Hid (Below wr.heap.size wr ((w7.setCell ⟨p6, 4, none⟩ (.slice a7 t.e.n c7)).alloc (.cells #[.int .i64 t.kind, .int .i64 t.r.h, .int .i64 t.r.f, .int .i64 t.head, .slice a7 t.e.n c7] 81))) := bl_alloc ((bl_step B5.out hb7).setCell (by show wr.heap.size ≤ p6; rw [hp6]; exact Nat.le_refl _) _)
                    obtain ⟨g6, cap6, w6, hrun6, ho6, hg6, hn6⟩ := run_appK (w := (w7.setCell ⟨p6, 4, none⟩ (.slice a7 t.e.n c7)).alloc (.cells #[.int .i64 t.kind, .int .i64 t.r.h, .int .i64 t.r.f, .int .i64 t.head, .slice a7 t.e.n c7] 81)) (ad := ⟨w7.heap.size, 0, none⟩) (m := 1) (c := 1) (news := [.int .i64 t.kind, .int .i64 t.r.h, .int .i64 t.r.f, .int .i64 t.head, .slice a7 t.e.n c7]) 77 Tryz.underlying77 Tryz.infoOp rfl (by decide) (owns_belowK AA.out.own BB.out) rfl (src_at (World.size_setCell _ _ _).symm) (by intro u hu; simp only [List.mem_cons, List.not_mem_nil, or_false] at hu; rcases hu with rfl | rfl | rfl | rfl | rfl <;> rfl) (by decide) (by have := HSN.out; unfold maxLen; omega) (by have := HSN.out; omega) (by have := BB.out.size; omega)
                    obtain ⟨y6, yf6, hp66⟩ := po_after AA.out.own hg6 (Nat.lt_of_lt_of_le hpl BB.out.size) (cell_keep y0 BB.out) ((BB.out.frozen (p := ⟨pa, 1, none⟩) hpl).trans yf)
                    have RN : Hid (ActAt w0 pa x a5 c5 _ _ _ _ _) := ActAt.push (W := W5) (x' := ⟨t.kind, t.r, t.head, ⟨a7, t.e.n, c7⟩, t.es⟩) AA.out BB.out (by rw [hWs]; omega) (fresh_op ho7 (kOp.step HIN.out B5.out) (put_alloc (by rw [hWs, hp6]; omega))) ho6 hg6 hn6
                    have LN : Hid ((S ++ [(⟨t.kind, t.r, t.head, ⟨a7, t.e.n, c7⟩, t.es⟩ : OpD)]).map OpD.p = (x.os.take (j + 1)).map OpD.p) := like_more LS.out HTT.out rfl
                    clear et ht hpt hcb hfb b5c ho7 hb7 ho6 hg6 hn6 hW5 hp6 hWs AA LS BB B5 W5E0 P6E0 HCT d0 d1 d2 d3 d4
                    go_wp2_with (at_builtin; refine append_run rfl _ _ rfl rfl rfl hrun6 ?_)
                    go_roundw
                    case rel => exact ⟨j + 1, _, _, _, _, by omega, by go_num, RN, LN⟩
                    case measure => simp [intOf]; omega
                  · have hji : ¬ (j : Int) < (x.ops.n : Int) := by omega
                    have y0 := cell_keep OA3.out.c3 AA.out.bel
                    have yf := (AA.out.bel.frozen (p := ⟨po, 3, none⟩) OA3.out.pl).trans (OA3.out.fz 3)
                    have hpl : po < wr.heap.size := Nat.lt_of_lt_of_le OA3.out.pl AA.out.bel.size
                    have e0 := AA.out.c0
                    have e1 := AA.out.c1
                    have hpa := AA.out.pl
                    have BB : Hid (Below w0.heap.size w0 (wr.alloc (.cells #[.slice a5 x.w.n c5, .slice oa S.length oc] 79))) := bl_alloc AA.out.bel
                    obtain ⟨g6, cap6, w6, hrun6, ho6, hg6, hn6⟩ := run_appK (w := wr.alloc (.cells #[.slice a5 x.w.n c5, .slice oa S.length oc] 79)) (ad := ⟨wr.heap.size, 0, none⟩) (m := 1) (c := 1) (news := [.slice a5 x.w.n c5, .slice oa S.length oc]) 25 Tryz.underlying25 Tryz.infoAction rfl (by decide) (owns_belowK OA3.out.own3 BB.out) rfl src_of (by intro u hu; simp only [List.mem_cons, List.not_mem_nil, or_false] at hu; rcases hu with rfl | rfl <;> rfl) (by decide) (by have := HNN.out; unfold maxLen; omega) (by have := HNN.out; omega) (by have := BB.out.size; have := OA3.out.pl; omega)
                    obtain ⟨y6, yf6, hp66⟩ := po_after OA3.out.own3 hg6 (lt_alloc hpl) (cell_keep y0 (bl_alloc (Below.refl _ _))) ((World.frozen?_alloc_past _ _ _ hpl).trans yf)
                    have RN : Hid (OutAt w W2 po _ _ _) := OutAt.push3 (W := w0) (x' := ⟨⟨a5, x.w.n, c5⟩, x.ws, ⟨oa, S.length, oc⟩, S⟩) OA3.out BB.out (Nat.le_refl _) AA.out.done ho6 hg6 hn6
                    have LN : Hid (Like d { Y with acts := ⟨some ⟨g6, 0, none⟩, Y.acts.n + 1, cap6⟩, al := Y.al ++ [⟨⟨a5, x.w.n, c5⟩, x.ws, ⟨oa, S.length, oc⟩, S⟩] } d.heads.n d.states.n (k + 1) 0 0) := ⟨LK3.out.hs, LK3.out.ss, like_more LK3.out.al HXX.out (by
                      have h1 := LS.out
                      rw [List.take_of_length_le (by rw [HOPS.out.1]; omega)] at h1
                      show PAct.mk x.ws (S.map OpD.p) = PAct.mk x.ws (x.os.map OpD.p)
                      rw [h1]), LK3.out.ts, LK3.out.ns, LK3.out.ms, LK3.out.os⟩
                    clear ho6 hg6 hn6 AA LS BB OA3 LK3
                    go_wp2_with (at_builtin; refine append_run rfl _ _ rfl rfl rfl hrun6 ?_)
                    go_roundw
                    case rel => exact ⟨k + 1, _, _, by omega, by go_num, RN, LN⟩
                    case measure => simp [intOf]; omega
              · have hki : ¬ (k : Int) < (d.acts.n : Int) := by omega
                go_wp2
                obtain rfl : k = d.acts.n := by omega
                go_loopw [12, 13, 14, 15] (fun q _ _ _ wr => ∃ (k : Nat) (F : Nat → Prop) (X : PlanD), k ≤ d.tabs.n ∧ q = .int .i64 k ∧ Hid (OutAt w W2 po F X wr) ∧ Hid (Like d X d.heads.n d.states.n d.acts.n k 0)) (fun q _ _ _ _ => d.tabs.n - (intOf q).toNat)
                case atStart => exact ⟨0, _, _, Nat.zero_le _, rfl, OA3, LK3⟩
                case round =>
                  obtain ⟨k, F4, Y, hk, rfl, OA4, LK4⟩ := hrel
                  clear OA3 LK3
                  have z0 := keep_box OA4.out.bel E0.out ZC.out.2.2.2.2.1
                  have BW : Hid (Below w.heap.size w wr) := HB.out.trans (OA4.out.bel.mono (by omega))
                  obtain ⟨a0, ea0⟩ : ∃ a, d.tabs.a = a := ⟨_, rfl⟩
                  rw [ea0] at z0
                  have EA0 := hid ea0
                  clear ea0
                  by_cases hlt : k < d.tabs.n
                  · have hki : (k : Int) < (d.tabs.n : Int) := by omega
                    obtain ⟨g, off, x, ea, hx, hp⟩ := row_at (HL.out.ts.step TabD.keeps BW.out) hlt
                    obtain rfl : a0 = some ⟨g, off, none⟩ := by rw [← EA0.out]; exact ea
                    have HXN := hid (HF.out.ts.2 x (List.mem_of_getElem? hx))
                    have HIN := hid (kTab.out hp)
                    have c0 : wr.cell? ⟨g, off + k * 6, none⟩ = some (.int .i64 x.kind) := kTab.cell hp 0 _ rfl
                    have c1 : wr.cell? ⟨g, off + k * 6 + 1, none⟩ = some (.slice x.keys.a x.keys.n x.keys.c) := kTab.cell hp 1 _ rfl
                    have c2 : wr.cell? ⟨g, off + k * 6 + 2, none⟩ = some (.slice x.acts.a x.acts.n x.acts.c) := kTab.cell hp 2 _ rfl
                    have c3 : wr.cell? ⟨g, off + k * 6 + 3, none⟩ = some (.int .i64 x.cap) := kTab.cell hp 3 _ rfl
                    have c4 : wr.cell? ⟨g, off + k * 6 + 4, none⟩ = some (.int .i64 x.dflt) := kTab.cell hp 4 _ rfl
                    have c5 : wr.cell? ⟨g, off + k * 6 + 5, none⟩ = some (.slice x.args.a x.args.n x.args.c) := kTab.cell hp 5 _ rfl
                    have HXX := hid hx
                    obtain ⟨W5, hW5⟩ : ∃ W5, W5 = wr.alloc (.cells #[.int .i64 x.kind, .slice x.keys.a x.keys.n x.keys.c, .slice x.acts.a x.acts.n x.acts.c, .int .i64 x.cap, .int .i64 x.dflt, .slice x.args.a x.args.n x.args.c] 84) := ⟨_, rfl⟩
                    obtain ⟨p6, hp6⟩ : ∃ p, p = wr.heap.size := ⟨_, rfl⟩
                    have hWs : W5.heap.size = wr.heap.size + 1 := by rw [hW5]; simp
                    have B5 : Hid (Below wr.heap.size wr W5) := by rw [hW5]; exact bl_alloc (Below.refl _ _)
                    have hcb : ∀ i v, (#[.int .i64 x.kind, .slice x.keys.a x.keys.n x.keys.c, .slice x.acts.a x.acts.n x.acts.c, .int .i64 x.cap, .int .i64 x.dflt, .slice x.args.a x.args.n x.args.c] : Array Value)[i]? = some v → W5.cell? ⟨p6, i, none⟩ = some v := fun i v hv => by rw [hW5, hp6]; exact (World.cell?_alloc_at _ _ _ _ rfl).trans hv
                    have hfb : ∀ i, W5.frozen? ⟨p6, i, none⟩ = false := fun i => by rw [hW5, hp6]; exact World.frozen?_alloc_at _ _ _ _ rfl
                    have HPL : Hid (po < wr.heap.size) := OA4.out.pl
                    have hnp : ¬ (p6 = po) := by rw [hp6]; have := HPL.out; omega
                    have HNN : Hid (Y.tabs.n ≤ 100000) := by show Y.tabs.n ≤ 100000; rw [← own_len kTab OA4.out.own4, like_len LK4.out.ts (by rw [HL.out.ts.1]; exact hk)]; have := HF.out.ts.1; omega
                    have HI5 := hid (kTab.step HIN.out B5.out)
                    have HCI : Hid (∀ w', Below W5.heap.size W5 w' → Calls Tryz.prog 19 #[.slice x.acts.a x.acts.n x.acts.c] w' (CopyDone kInt 3 x.al x.acts.n w')) := fun w' h => ownInts_any x.acts x.al w' (HI5.out.2.2.1.step h) HIN.out.1.2.2.1 HXN.out.2.1
                    have HCB : Hid (∀ w', Below W5.heap.size W5 w' → (w'.cell? ⟨p6, 0, none⟩ = some (.int .i64 x.kind) ∧ w'.cell? ⟨p6, 1, none⟩ = some (.slice x.keys.a x.keys.n x.keys.c) ∧ w'.cell? ⟨p6, 2, none⟩ = some (.slice x.acts.a x.acts.n x.acts.c) ∧ w'.cell? ⟨p6, 3, none⟩ = some (.int .i64 x.cap) ∧ w'.cell? ⟨p6, 4, none⟩ = some (.int .i64 x.dflt) ∧ w'.cell? ⟨p6, 5, none⟩ = some (.slice x.args.a x.args.n x.args.c)) ∧ (w'.frozen? ⟨p6, 1, none⟩ = false ∧ w'.frozen? ⟨p6, 2, none⟩ = false ∧ w'.frozen? ⟨p6, 5, none⟩ = false) ∧ p6 < w'.heap.size ∧ po < w'.heap.size) := fun w' h => by
                      have hb : p6 < W5.heap.size := by rw [hWs, hp6]; omega
                      have hk' : ∀ i v, (#[.int .i64 x.kind, .slice x.keys.a x.keys.n x.keys.c, .slice x.acts.a x.acts.n x.acts.c, .int .i64 x.cap, .int .i64 x.dflt, .slice x.args.a x.args.n x.args.c] : Array Value)[i]? = some v → w'.cell? ⟨p6, i, none⟩ = some v := fun i v hv => cell_keep (hcb i v hv) h
                      have hf' : ∀ i, w'.frozen? ⟨p6, i, none⟩ = false := fun i => (h.frozen (p := ⟨p6, i, none⟩) hb).trans (hfb i)
                      have hs := h.size
                      have := HPL.out
                      exact ⟨⟨hk' 0 _ rfl, hk' 1 _ rfl, hk' 2 _ rfl, hk' 3 _ rfl, hk' 4 _ rfl, hk' 5 _ rfl⟩, ⟨hf' 1, hf' 2, hf' 5⟩, by omega, by omega⟩
                    obtain ⟨⟨q0, q1, q2, q3, q4, q5⟩, _, hq6, hq7⟩ := HCB.out W5 (Below.refl _ _)
                    have W5E0 := hid hW5
                    have P6E0 := hid hp6
                    have HWS := hid hWs
                    clear ea hx hp hcb hfb hW5 hp6 hWs
                    go_upto_region 30 with fail
                    rw [← W5E0.out, ← P6E0.out]
                    clear c0 c1 c2 c3 c4 c5 z0 q0 q3 q4 hq6 hq7 BW EA0 hbn0 hbn2 hbn3 hbn4 hbn5
                    go_region_law (first
                      | (refine copyR kRef Tryz.underlying82 Tryz.infoRef rfl (by decide) rfl _ _ rfl x.keys x.ks (by simp [Act.eval]) (by simp [Act.eval]) (HI5.out.2.1.step RefD.keeps (Below.refl W5.heap.size W5).drew) HIN.out.1.2.1 HXN.out.1 ?_; intro ak ck w7 hok hb7; have B7 := hid (bl_step (Below.refl W5.heap.size W5).drew hb7); have PC := HCB.out _ B7.out; clear q1 q2 q5; have q2 := PC.1.2.2.1; have q5 := PC.1.2.2.2.2.2; clear PC)
                      | (go_simp; go_at_call 19; refine (HCI.out _ B7.out).mono ?_; rintro e w8 ⟨aa, ca, rfl, hoa, hb8⟩; have B8 := hid (bl_step B7.out hb8); have PC := HCB.out _ B8.out; clear q2 q5; have q5 := PC.1.2.2.2.2.2; clear PC)
                      | (refine copyR kNum Tryz.underlying33 Tryz.infoNum rfl (by decide) rfl _ _ rfl x.args x.zs (by simp [Act.eval, Act.put]) (by simp [Act.eval, Act.put]) (has_rowU (HI5.out.2.2.2.step B8.out)) HIN.out.1.2.2.2.2.2 HXN.out.2.2 ?_; intro az cz w9 hoz hb9; have B9 := hid (bl_step B8.out hb9); have PC := HCB.out _ B9.out; clear q5; have q0 := PC.1.1; have q1 := PC.1.2.1; have q2 := PC.1.2.2.1; have q3 := PC.1.2.2.2.1; have q4 := PC.1.2.2.2.2.1; have q5 := PC.1.2.2.2.2.2; have r1 := PC.2.1.1; have r2 := PC.2.1.2.1; have r5 := PC.2.1.2.2; have hp65 := PC.2.2.1; have hpl9 := PC.2.2.2; clear PC))
                    all_goals
                      have hbn4 := HF.out.ts.1
                      have y0 := OA4.out.c4
                      have yf := OA4.out.fz 4
                      have BB : Hid (Below wr.heap.size wr ((((w9.setCell ⟨p6, 1, none⟩ (.slice ak x.keys.n ck)).setCell ⟨p6, 2, none⟩ (.slice aa x.acts.n ca)).setCell ⟨p6, 5, none⟩ (.slice az x.args.n cz)).alloc (.cells #[.int .i64 x.kind, .slice ak x.keys.n ck, .slice aa x.acts.n ca, .int .i64 x.cap, .int .i64 x.dflt, .slice az x.args.n cz] 84))) := bl_alloc ((((bl_step B5.out B9.out).setCell (by show wr.heap.size ≤ p6; rw [P6E0.out]; exact Nat.le_refl _) _).setCell (by show wr.heap.size ≤ p6; rw [P6E0.out]; exact Nat.le_refl _) _).setCell (by show wr.heap.size ≤ p6; rw [P6E0.out]; exact Nat.le_refl _) _)
                      have y9 : w9.cell? ⟨po, 4, none⟩ = some (.slice Y.tabs.a Y.tabs.n Y.tabs.c) := cell_keep y0 (bl_step B5.out B9.out)
                      have yf9 : w9.frozen? ⟨po, 4, none⟩ = false := ((bl_step B5.out B9.out).frozen (p := ⟨po, 4, none⟩) HPL.out).trans yf
                      obtain ⟨g6, cap6, w6, hrun6, ho6, hg6, hn6⟩ := run_appK (w := (((w9.setCell ⟨p6, 1, none⟩ (.slice ak x.keys.n ck)).setCell ⟨p6, 2, none⟩ (.slice aa x.acts.n ca)).setCell ⟨p6, 5, none⟩ (.slice az x.args.n cz)).alloc (.cells #[.int .i64 x.kind, .slice ak x.keys.n ck, .slice aa x.acts.n ca, .int .i64 x.cap, .int .i64 x.dflt, .slice az x.args.n cz] 84)) (ad := ⟨w9.heap.size, 0, none⟩) (m := 1) (c := 1) (news := [.int .i64 x.kind, .slice ak x.keys.n ck, .slice aa x.acts.n ca, .int .i64 x.cap, .int .i64 x.dflt, .slice az x.args.n cz]) 26 Tryz.underlying26 Tryz.infoTable rfl (by decide) (owns_belowK OA4.out.own4 BB.out) rfl (src_at (by simp only [World.size_setCell])) (by intro u hu; simp only [List.mem_cons, List.not_mem_nil, or_false] at hu; rcases hu with rfl | rfl | rfl | rfl | rfl | rfl <;> rfl) (by decide) (by have := HNN.out; unfold maxLen; omega) (by have := HNN.out; omega) (by have := BB.out.size; have := HPL.out; omega)
                      obtain ⟨y6, yf6, hp66⟩ := po_after OA4.out.own4 hg6 (Nat.lt_of_lt_of_le HPL.out BB.out.size) (cell_keep y0 BB.out) ((BB.out.frozen (p := ⟨po, 4, none⟩) HPL.out).trans yf)
                      have RN : Hid (OutAt w W2 po _ _ _) := OutAt.push4 (W := W5) (x' := ⟨x.kind, ⟨ak, x.keys.n, ck⟩, x.ks, ⟨aa, x.acts.n, ca⟩, x.al, x.cap, x.dflt, ⟨az, x.args.n, cz⟩, x.zs⟩) OA4.out BB.out (by rw [HWS.out]; omega) (fresh_tab hok (bl_step (Below.refl W5.heap.size W5).drew hb7) hoa hb8 hoz hb9 HI5.out (put3_alloc (by rw [HWS.out, P6E0.out]; omega))) ho6 hg6 hn6
                      have LN : Hid (Like d { Y with tabs := ⟨some ⟨g6, 0, none⟩, Y.tabs.n + 1, cap6⟩, ts := Y.ts ++ [⟨x.kind, ⟨ak, x.keys.n, ck⟩, x.ks, ⟨aa, x.acts.n, ca⟩, x.al, x.cap, x.dflt, ⟨az, x.args.n, cz⟩, x.zs⟩] } d.heads.n d.states.n d.acts.n (k + 1) 0) := ⟨LK4.out.hs, LK4.out.ss, LK4.out.al, like_more LK4.out.ts HXX.out rfl, LK4.out.ns, LK4.out.ms, LK4.out.os⟩
                      clear hok hb7 hoa hb8 hoz hb9 ho6 hg6 hn6 OA4 LK4 BB B5 B7 B8 B9 W5E0 P6E0 HCI HCB y0 yf
                      go_wp2_with (at_builtin; refine append_run rfl _ _ rfl rfl rfl hrun6 ?_)
                      go_roundw
                      case rel => exact ⟨k + 1, _, _, by omega, by go_num, RN, LN⟩
                      case measure => simp [intOf]; omega
                  · have hki : ¬ (k : Int) < (d.tabs.n : Int) := by omega
                    go_wp2
                    obtain rfl : k = d.tabs.n := by omega
                    go_loopw [16, 17] (fun q _ wr => ∃ (k : Nat) (F : Nat → Prop) (X : PlanD), k ≤ d.nodes.n ∧ q = .int .i64 k ∧ Hid (OutAt w W2 po F X wr) ∧ Hid (Like d X d.heads.n d.states.n d.acts.n d.tabs.n k)) (fun q _ _ => d.nodes.n - (intOf q).toNat)
                    case atStart => exact ⟨0, _, _, Nat.zero_le _, rfl, OA4, LK4⟩
                    case round =>
                      obtain ⟨k, F5, Y, hk, rfl, OA5, LK5⟩ := hrel
                      clear OA4 LK4
                      have z0 := keep_box OA5.out.bel E0.out ZC.out.2.2.2.2.2.1
                      have BW : Hid (Below w.heap.size w wr) := HB.out.trans (OA5.out.bel.mono (by omega))
                      obtain ⟨a0, ea0⟩ : ∃ a, d.nodes.a = a := ⟨_, rfl⟩
                      rw [ea0] at z0
                      have EA0 := hid ea0
                      clear ea0
                      by_cases hlt : k < d.nodes.n
                      · have hki : (k : Int) < (d.nodes.n : Int) := by omega
                        obtain ⟨g, off, x, ea, hx, hp⟩ := row_at (HL.out.ns.step NodeD.keeps BW.out) hlt
                        obtain rfl : a0 = some ⟨g, off, none⟩ := by rw [← EA0.out]; exact ea
                        have HXN := hid (HF.out.ns.2 x (List.mem_of_getElem? hx))
                        have HIN := hid (kNode.out hp)
                        have c0 : wr.cell? ⟨g, off + k * 5, none⟩ = some (.int .i64 x.kind) := kNode.cell hp 0 _ rfl
                        have c1 : wr.cell? ⟨g, off + k * 5 + 1, none⟩ = some (.int .i64 x.n) := kNode.cell hp 1 _ rfl
                        have c2 : wr.cell? ⟨g, off + k * 5 + 2, none⟩ = some (.slice x.e.a x.e.n x.e.c) := kNode.cell hp 2 _ rfl
                        have c3 : wr.cell? ⟨g, off + k * 5 + 3, none⟩ = some (.int .i64 x.yes) := kNode.cell hp 3 _ rfl
                        have c4 : wr.cell? ⟨g, off + k * 5 + 4, none⟩ = some (.int .i64 x.no) := kNode.cell hp 4 _ rfl
                        have HXX := hid hx
                        obtain ⟨W5, hW5⟩ : ∃ W5, W5 = wr.alloc (.cells #[.int .i64 x.kind, .int .i64 x.n, .slice x.e.a x.e.n x.e.c, .int .i64 x.yes, .int .i64 x.no] 67) := ⟨_, rfl⟩
                        obtain ⟨p6, hp6⟩ : ∃ p, p = wr.heap.size := ⟨_, rfl⟩
                        have hWs : W5.heap.size = wr.heap.size + 1 := by rw [hW5]; simp
                        have B5 : Hid (Below wr.heap.size wr W5) := by rw [hW5]; exact bl_alloc (Below.refl _ _)
                        have hcb : ∀ i v, (#[.int .i64 x.kind, .int .i64 x.n, .slice x.e.a x.e.n x.e.c, .int .i64 x.yes, .int .i64 x.no] : Array Value)[i]? = some v → W5.cell? ⟨p6, i, none⟩ = some v := fun i v hv => by rw [hW5, hp6]; exact (World.cell?_alloc_at _ _ _ _ rfl).trans hv
                        have hfb : ∀ i, W5.frozen? ⟨p6, i, none⟩ = false := fun i => by rw [hW5, hp6]; exact World.frozen?_alloc_at _ _ _ _ rfl
                        have y0 := OA5.out.c5
                        have yf := OA5.out.fz 5
                        have hpl := OA5.out.pl
                        have hnp : ¬ (p6 = po) := by rw [hp6]; omega
                        have HNN : Hid (Y.nodes.n ≤ 100000) := by show Y.nodes.n ≤ 100000; rw [← own_len kNode OA5.out.own5, like_len LK5.out.ns (by rw [HL.out.ns.1]; exact hk)]; have := HF.out.ns.1; omega
                        have HCT := hid (ownTree_any x.e x.es W5 (HIN.out.2.step PushD.keeps B5.out) HIN.out.1.2.2.1 HXN.out)
                        have W5E0 := hid hW5
                        have P6E0 := hid hp6
                        go_wp2_with fail
                        rw [← W5E0.out, ← P6E0.out]
                        refine HCT.out.mono ?_
                        rintro e w5 ⟨a5, c5, rfl, ho5, hb5⟩
                        have b5c : ∀ i v, W5.cell? ⟨p6, i, none⟩ = some v → w5.cell? ⟨p6, i, none⟩ = some v := fun i v hv => cell_keep hv hb5
                        have v0 := b5c 0 _ (hcb 0 _ rfl)
                        have f0 : w5.frozen? ⟨p6, 0, none⟩ = false := (hb5.frozen (p := ⟨p6, 0, none⟩) (by rw [hWs, hp6]; show wr.heap.size < _; omega)).trans (hfb 0)
                        have v1 := b5c 1 _ (hcb 1 _ rfl)
                        have f1 : w5.frozen? ⟨p6, 1, none⟩ = false := (hb5.frozen (p := ⟨p6, 1, none⟩) (by rw [hWs, hp6]; show wr.heap.size < _; omega)).trans (hfb 1)
                        have v2 := b5c 2 _ (hcb 2 _ rfl)
                        have f2 : w5.frozen? ⟨p6, 2, none⟩ = false := (hb5.frozen (p := ⟨p6, 2, none⟩) (by rw [hWs, hp6]; show wr.heap.size < _; omega)).trans (hfb 2)
                        have v3 := b5c 3 _ (hcb 3 _ rfl)
                        have f3 : w5.frozen? ⟨p6, 3, none⟩ = false := (hb5.frozen (p := ⟨p6, 3, none⟩) (by rw [hWs, hp6]; show wr.heap.size < _; omega)).trans (hfb 3)
                        have v4 := b5c 4 _ (hcb 4 _ rfl)
                        have f4 : w5.frozen? ⟨p6, 4, none⟩ = false := (hb5.frozen (p := ⟨p6, 4, none⟩) (by rw [hWs, hp6]; show wr.heap.size < _; omega)).trans (hfb 4)
                        have hp65 : p6 < w5.heap.size := by have := hb5.size; rw [hWs] at this; rw [hp6]; omega
                        have hpl5 : po < w5.heap.size := by have := hb5.size; rw [hWs] at this; omega
                        have y5 : w5.cell? ⟨po, 5, none⟩ = some (.slice Y.nodes.a Y.nodes.n Y.nodes.c) := cell_keep (cell_keep y0 B5.out) hb5
                        have yf5 : w5.frozen? ⟨po, 5, none⟩ = false := ((bl_step B5.out hb5).frozen (p := ⟨po, 5, none⟩) hpl).trans yf
                        have BB : Hid (Below wr.heap.size wr ((w5.setCell ⟨p6, 2, none⟩ (.slice a5 x.e.n c5)).alloc (.cells #[.int .i64 x.kind, .int .i64 x.n, .slice a5 x.e.n c5, .int .i64 x.yes, .int .i64 x.no] 67))) := bl_alloc ((bl_step B5.out hb5).setCell (by show wr.heap.size ≤ p6; rw [hp6]; exact Nat.le_refl _) _)
                        obtain ⟨g6, cap6, w6, hrun6, ho6, hg6, hn6⟩ := run_appK (w := (w5.setCell ⟨p6, 2, none⟩ (.slice a5 x.e.n c5)).alloc (.cells #[.int .i64 x.kind, .int .i64 x.n, .slice a5 x.e.n c5, .int .i64 x.yes, .int .i64 x.no] 67)) (ad := ⟨w5.heap.size, 0, none⟩) (m := 1) (c := 1) (news := [.int .i64 x.kind, .int .i64 x.n, .slice a5 x.e.n c5, .int .i64 x.yes, .int .i64 x.no]) 27 Tryz.underlying27 Tryz.infoNode rfl (by decide) (owns_belowK OA5.out.own5 BB.out) rfl (src_at (World.size_setCell _ _ _).symm) (by intro u hu; simp only [List.mem_cons, List.not_mem_nil, or_false] at hu; rcases hu with rfl | rfl | rfl | rfl | rfl <;> rfl) (by decide) (by have := HNN.out; unfold maxLen; omega) (by have := HNN.out; omega) (by have := BB.out.size; omega)
                        obtain ⟨y6, yf6, hp66⟩ := po_after OA5.out.own5 hg6 (Nat.lt_of_lt_of_le hpl BB.out.size) (cell_keep y0 BB.out) ((BB.out.frozen (p := ⟨po, 5, none⟩) hpl).trans yf)
                        have RN : Hid (OutAt w W2 po _ _ _) := OutAt.push5 (W := W5) (x' := ⟨x.kind, x.n, ⟨a5, x.e.n, c5⟩, x.es, x.yes, x.no⟩) OA5.out BB.out (by rw [hWs]; omega) (fresh_node ho5 (kNode.step HIN.out B5.out) (put_alloc (by rw [hWs, hp6]; omega))) ho6 hg6 hn6
                        have LN : Hid (Like d { Y with nodes := ⟨some ⟨g6, 0, none⟩, Y.nodes.n + 1, cap6⟩, ns := Y.ns ++ [⟨x.kind, x.n, ⟨a5, x.e.n, c5⟩, x.es, x.yes, x.no⟩] } d.heads.n d.states.n d.acts.n d.tabs.n (k + 1)) := ⟨LK5.out.hs, LK5.out.ss, LK5.out.al, LK5.out.ts, like_more LK5.out.ns HXX.out rfl, LK5.out.ms, LK5.out.os⟩
                        have W5E := hid hW5
                        have P6E := hid hp6
                        clear ea hx hp hcb hfb b5c ho5 hb5 ho6 hg6 hn6 hW5 hp6 hWs OA5 LK5 BW BB B5 W5E0 P6E0 W5E P6E HCT
                        go_wp2_with (at_builtin; refine append_run rfl _ _ rfl rfl rfl hrun6 ?_)
                        go_roundw
                        case rel => exact ⟨k + 1, _, _, by omega, by go_num, RN, LN⟩
                        case measure => simp [intOf]; omega
                      · have hki : ¬ (k : Int) < (d.nodes.n : Int) := by omega
                        obtain rfl : k = d.nodes.n := by omega
                        have o0 := OA5.out.c0
                        have o1 := OA5.out.c1
                        have o2 := OA5.out.c2
                        have o3 := OA5.out.c3
                        have o4 := OA5.out.c4
                        have o5 := OA5.out.c5
                        have o6 := OA5.out.c6
                        have hb1l : b1 < w.heap.size + 2 := by rw [E1.out]; omega
                        have kz : ∀ i v, W2.cell? ⟨b1, i, none⟩ = some v → wr.cell? ⟨b1, i, none⟩ = some v := fun i v hv => (OA5.out.bel.cell (p := ⟨b1, i, none⟩) hb1l).trans hv
                        have t0 := kz 0 _ HZC.out.1
                        have t1 := kz 1 _ HZC.out.2.1
                        have t2 := kz 2 _ HZC.out.2.2.1
                        have t3 := kz 3 _ HZC.out.2.2.2.1
                        have t4 := kz 4 _ HZC.out.2.2.2.2.1
                        have t5 := kz 5 _ HZC.out.2.2.2.2.2.1
                        have t6 := kz 6 _ HZC.out.2.2.2.2.2.2
                        have kf : ∀ i, wr.frozen? ⟨b1, i, none⟩ = false := fun i => (OA5.out.bel.frozen (p := ⟨b1, i, none⟩) hb1l).trans (HFZ.out i)
                        have f0 := kf 0
                        have f1 := kf 1
                        have f2 := kf 2
                        have f3 := kf 3
                        have f4 := kf 4
                        have f5 := kf 5
                        have f6 := kf 6
                        have hbl : b1 < wr.heap.size := by have h1 := OA5.out.pl; have h2 := OA5.out.ph; omega
                        have hnb : ¬ (b1 = po) := by have h2 := OA5.out.ph; omega
                        have hnb' : ¬ (po = b1) := fun e => hnb e.symm
                        have HEND := hid (fun v0 v1 v2 v3 v4 v5 v6 => OutAt.end (v0 := v0) (v1 := v1) (v2 := v2) (v3 := v3) (v4 := v4) (v5 := v5) (v6 := v6) OA5.out HL.out LK5.out BW.out E1.out)
                        clear kz kf OA5 LK5
                        go_wp2
                        exact bodyPost_ret (v := Y.v) (by simp [results, Tryz.results7, go_sem, *]) rfl (HEND.out _ _ _ _ _ _ _)
end Go.Proofs.YtkggocdannkdmaaGreat
