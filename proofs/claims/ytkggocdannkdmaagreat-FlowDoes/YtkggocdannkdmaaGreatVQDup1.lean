/- The document's OwnPlan: a plan under way in memory of its own. -/
import Derived.Test.YtkggocdannkdmaaGreatJ15
import Derived.Test.YtkggocdannkdmaaGreatJ14
import Derived.Deep.OwnRows
namespace Go.Proofs.YtkggocdannkdmaaGreat
open Go.RowKit

/-- one thing more behind a row of the call's own, as a step of the walk -/
theorem pushW {ops : Array Oper} {rest : List Oper} {o : Oper} {a : Act} {w : World} {Q : Exit → Act → World → Prop} {T TS : TypeId} {z : Value} {k bs : Nat}
    (hT : Tryz.prog.underlying TS = some (.slice T)) (hinfo : (Tryz.prog.info? T).map (fun i => (i.zero, i.size, i.bytes)) = some (some z, k, bs)) (hzs : z.cells.size = k) (hk : 0 < k) (hbs : bs ≤ 1000) (hgd : o.guard = none) (s x : Operand)
    (ho : o.op = .call { callee := .builtin .append, args := #[s, x], argTypes := #[TS, TS] }) (base n cap c : Nat) (la : Option Addr) (xs news : List Value) (ad : Addr)
    (hs : a.eval s = .slice la n cap) (hx : a.eval x = .slice (some ad) 1 c) (hown : w.ownsRow base T k (.slice la n cap) n xs) (hl : news.length = k) (hn : ∀ j u, news[j]? = some u → w.cell? (ad.add j) = some u) (h1 : ∀ u ∈ news, u.oneCell' = true) (hsm : n ≤ 100000) (hbase : base ≤ w.heap.size)
    (h : ∀ g cap' w', w'.ownsRow base T k (.slice (some ⟨g, 0, none⟩) (n + 1) cap') (n + 1) (xs ++ news) → w.grownBy w' (Value.slice la n cap).ownBlock → (la = some ⟨g, 0, none⟩ ∨ w.heap.size ≤ g) → wpList Tryz.prog ops Q rest (a.put o.dst (.slice (some ⟨g, 0, none⟩) (n + 1) cap')) w') :
    wpList Tryz.prog ops Q (o :: rest) a w := by
  obtain ⟨g, cap', w', hrun, r1, r2, r3⟩ := run_appK (c := c) o.type hT hinfo hzs hk hown (m := 1) (by omega) hn h1 (by omega) (by unfold maxLen; omega) (by
    have : (n + 1) * bs ≤ 100001 * 1000 := Nat.mul_le_mul (by omega) hbs
    omega) hbase
  exact append_run hgd s x ho hs hx hrun (h g cap' w' r1 r2 r3)

/-- the cells of a thing that was just laid -/
theorem src_of {w : World} {cs : List Value} {T : TypeId} : ∀ j u, cs[j]? = some u → (w.alloc (.cells cs.toArray T)).cell? ((⟨w.heap.size, 0, none⟩ : Addr).add j) = some u := by
  intro j u h
  rw [Addr.add_lit, Nat.zero_add, World.cell?_alloc_at _ _ _ _ rfl]
  simpa using h

/-- from wr to w5 nothing old has turned; from w5 on the blocks po and the row's alone, which may be another one now -/
structure Turn (wr w5 w7 : World) (po g : Nat) (row : Option Nat) (F : Nat → Prop) : Prop where
  hb : Below wr.heap.size wr w5
  os : w7.os = w5.os
  tape : w7.tape = w5.tape
  output : w7.output = w5.output
  size : w5.heap.size ≤ w7.heap.size
  blk : ∀ k, k < w5.heap.size → k ≠ po → some k ≠ row → w7.heap[k]? = w5.heap[k]?
  fpo : F po
  frow : ∀ b, row = some b → F b
  flt : ∀ k, F k → k < wr.heap.size
  new : row = some g ∨ w5.heap.size ≤ g

abbrev fmore (F : Nat → Prop) (g : Nat) : Nat → Prop := fun b => F b ∨ b = g

theorem Turn.mask {wr w5 w7 : World} {po g : Nat} {row : Option Nat} {F : Nat → Prop} (h : Turn wr w5 w7 po g row F) : Below (mask F (fun _ => Classical.propDecidable _) wr).heap.size (mask F (fun _ => Classical.propDecidable _) wr) (mask (fmore F g) (fun _ => Classical.propDecidable _) w7) := by
  refine mask_below (h.os.trans h.hb.os) (h.tape.trans h.hb.tape) (h.output.trans h.hb.output) (Nat.le_trans h.hb.size h.size) (fun _ h => .inl h) fun k hk hF => ?_
  have h5 := h.hb.size
  refine ⟨fun hk' => ?_, ?_⟩
  · rcases hk' with hk' | rfl
    · exact hF hk'
    · rcases h.new with hn | hn
      · exact hF (h.frow _ hn)
      · omega
  · rw [h.blk k (by omega) (fun e => hF (e ▸ h.fpo)) (fun e => hF (h.frow k e.symm)), h.hb.block k hk]

theorem Turn.fresh {wr w5 w7 W : World} {po g : Nat} {row : Option Nat} {F : Nat → Prop} (h : Turn wr w5 w7 po g row F) (hW : wr.heap.size ≤ W.heap.size) {α : Type} (K : Kd α) {x : α} (hi : K.inn x (Go.Proofs.YtkggocdannkdmaaGreat.mask (old W) (fun _ => Classical.propDecidable _) w5)) : K.inn x (Go.Proofs.YtkggocdannkdmaaGreat.mask (fmore F g) (fun _ => Classical.propDecidable _) w7) := by
  have h1 : Below (Go.Proofs.YtkggocdannkdmaaGreat.mask (old W) (fun _ => Classical.propDecidable _) w5).heap.size (Go.Proofs.YtkggocdannkdmaaGreat.mask (old W) (fun _ => Classical.propDecidable _) w5) (Go.Proofs.YtkggocdannkdmaaGreat.mask (fmore (old W) g) (fun _ => Classical.propDecidable _) w7) := by
    refine mask_below h.os h.tape h.output h.size (fun _ h => .inl h) fun k hk hF => ?_
    have hk' : ¬ k < W.heap.size := hF
    have hpo := h.flt _ h.fpo
    refine ⟨fun hg => ?_, h.blk k hk (by omega) (fun e => by have := h.flt _ (h.frow k e.symm); omega)⟩
    rcases hg with hg | rfl
    · exact hF hg
    · rcases h.new with hn | hn
      · have := h.flt _ (h.frow _ hn); omega
      · omega
  refine K.cov (K.step hi h1) (cov_less _ fun b hb => ?_)
  rcases hb with hb | hb
  · exact .inl (by have := h.flt _ hb; show b < W.heap.size; omega)
  · exact .inr hb

/-- a row of another kind stays -/
theorem keep_row {wr w5 w6 : World} {B n n' k k' po j : Nat} {T T' : TypeId} {v v' u : Value} {xs xs' : List Value} (h : wr.ownsRow B T k v n xs) (h' : wr.ownsRow B T' k' v' n' xs') (ht : T ≠ T') (hb : Below wr.heap.size wr w5) (hg : w5.grownBy w6 v'.ownBlock) (hp : po < B) : (w6.setCell ⟨po, j, none⟩ u).ownsRow B T k v n xs := by
  have h5 := owns_belowK h hb
  have h5' := owns_belowK h' hb
  exact ownsRow_setCell_below (h5.kept hg (own_types h5 h5' ht)) (a := ⟨po, j, none⟩) hp u

/-- a plan under way -/
structure OutAt (w W2 : World) (po : Nat) (F : Nat → Prop) (X : PlanD) (wr : World) : Prop where
  c0 : wr.cell? ⟨po, 0, none⟩ = some (.slice X.heads.a X.heads.n X.heads.c)
  c1 : wr.cell? ⟨po, 1, none⟩ = some (.slice X.mta.a X.mta.n X.mta.c)
  c2 : wr.cell? ⟨po, 2, none⟩ = some (.slice X.states.a X.states.n X.states.c)
  c3 : wr.cell? ⟨po, 3, none⟩ = some (.slice X.acts.a X.acts.n X.acts.c)
  c4 : wr.cell? ⟨po, 4, none⟩ = some (.slice X.tabs.a X.tabs.n X.tabs.c)
  c5 : wr.cell? ⟨po, 5, none⟩ = some (.slice X.nodes.a X.nodes.n X.nodes.c)
  c6 : wr.cell? ⟨po, 6, none⟩ = some (.slice X.out.a X.out.n X.out.c)
  fz : ∀ i, wr.frozen? ⟨po, i, none⟩ = false
  ph : w.heap.size + 2 ≤ po
  pl : po < wr.heap.size
  own0 : wr.ownsRow (po + 1) 73 kHead.k (.slice X.heads.a X.heads.n X.heads.c) X.heads.n (X.hs.flatMap kHead.cells)
  inn0 : ∀ x ∈ X.hs, kHead.inn x (mask F (fun _ => Classical.propDecidable _) wr)
  blk0 : ∀ b, (Value.slice X.heads.a X.heads.n X.heads.c).ownBlock = some b → F b
  own2 : wr.ownsRow (po + 1) 76 kState.k (.slice X.states.a X.states.n X.states.c) X.states.n (X.ss.flatMap kState.cells)
  inn2 : ∀ x ∈ X.ss, kState.inn x (mask F (fun _ => Classical.propDecidable _) wr)
  blk2 : ∀ b, (Value.slice X.states.a X.states.n X.states.c).ownBlock = some b → F b
  own3 : wr.ownsRow (po + 1) 79 kAct.k (.slice X.acts.a X.acts.n X.acts.c) X.acts.n (X.al.flatMap kAct.cells)
  inn3 : ∀ x ∈ X.al, kAct.inn x (mask F (fun _ => Classical.propDecidable _) wr)
  blk3 : ∀ b, (Value.slice X.acts.a X.acts.n X.acts.c).ownBlock = some b → F b
  own4 : wr.ownsRow (po + 1) 84 kTab.k (.slice X.tabs.a X.tabs.n X.tabs.c) X.tabs.n (X.ts.flatMap kTab.cells)
  inn4 : ∀ x ∈ X.ts, kTab.inn x (mask F (fun _ => Classical.propDecidable _) wr)
  blk4 : ∀ b, (Value.slice X.tabs.a X.tabs.n X.tabs.c).ownBlock = some b → F b
  own5 : wr.ownsRow (po + 1) 67 kNode.k (.slice X.nodes.a X.nodes.n X.nodes.c) X.nodes.n (X.ns.flatMap kNode.cells)
  inn5 : ∀ x ∈ X.ns, kNode.inn x (mask F (fun _ => Classical.propDecidable _) wr)
  blk5 : ∀ b, (Value.slice X.nodes.a X.nodes.n X.nodes.c).ownBlock = some b → F b
  ms : QRow kInt.k kInt.lie (mask F (fun _ => Classical.propDecidable _) wr) X.mta X.ms
  ms0 : X.mta.nil0
  os : QRow kInt.k kInt.lie (mask F (fun _ => Classical.propDecidable _) wr) X.out X.os
  os0 : X.out.nil0
  oc : X.out.n ≤ X.out.c
  fpo : F po
  fold : ∀ b, b < w.heap.size + 2 → F b
  flt : ∀ k, F k → k < wr.heap.size
  bel : Below (w.heap.size + 2) W2 wr

theorem turn_of {w W2 wr w5 w6 : World} {po g : Nat} {F : Nat → Prop} {X : PlanD} {v u : Value} {j : Nat} (h : OutAt w W2 po F X wr) (hb : Below wr.heap.size wr w5) (hg : w5.grownBy w6 v.ownBlock) (hrow : ∀ b, v.ownBlock = some b → F b) (hnew : v.ownBlock = some g ∨ w5.heap.size ≤ g) : Turn wr w5 (w6.setCell ⟨po, j, none⟩ u) po g v.ownBlock F :=
  ⟨hb, hg.os, hg.tape, hg.output, by rw [World.size_setCell]; exact hg.size, fun k hk h1 h2 => (Below.heap_setCell _ _ _ _ h1).trans (hg.block k hk h2), h.fpo, hrow, h.flt, hnew⟩

theorem OutAt.push0 {w W2 wr w5 w6 W : World} {po g cap' : Nat} {F : Nat → Prop} {X : PlanD} {x' : HeadD} (h : OutAt w W2 po F X wr) (hb : Below wr.heap.size wr w5) (hW : wr.heap.size ≤ W.heap.size) (hin : kHead.inn x' (mask (old W) (fun _ => Classical.propDecidable _) w5))
    (ho : w6.ownsRow (po + 1) 73 kHead.k (.slice (some ⟨g, 0, none⟩) (X.heads.n + 1) cap') (X.heads.n + 1) (X.hs.flatMap kHead.cells ++ kHead.cells x')) (hg : w5.grownBy w6 (Value.slice X.heads.a X.heads.n X.heads.c).ownBlock) (hnew : X.heads.a = some ⟨g, 0, none⟩ ∨ w5.heap.size ≤ g) :
    OutAt w W2 po (fmore F g) { X with heads := ⟨some ⟨g, 0, none⟩, X.heads.n + 1, cap'⟩, hs := X.hs ++ [x'] } (w6.setCell ⟨po, 0, none⟩ (.slice (some ⟨g, 0, none⟩) (X.heads.n + 1) cap')) := by
  have hT := turn_of (g := g) (u := .slice (some ⟨g, 0, none⟩) (X.heads.n + 1) cap') (j := 0) (v := .slice X.heads.a X.heads.n X.heads.c) h hb hg h.blk0 (hnew.elim (fun e => .inl (by rw [e]; rfl)) .inr)
  have hM := hT.mask
  have hpr : some po ≠ (Value.slice X.heads.a X.heads.n X.heads.c).ownBlock := fun e => by have := (h.own0.lt po e.symm).1; omega
  have hpl := h.pl
  have cell : ∀ {o : Nat} {x : Value}, wr.cell? ⟨po, o, none⟩ = some x → w6.cell? ⟨po, o, none⟩ = some x := fun hx => hg.cell (cell_keep hx hb) hpr
  have other : ∀ {o : Nat} {x : Value}, o ≠ 0 → wr.cell? ⟨po, o, none⟩ = some x → (w6.setCell ⟨po, 0, none⟩ (.slice (some ⟨g, 0, none⟩) (X.heads.n + 1) cap')).cell? ⟨po, o, none⟩ = some x := fun hne hx => (World.cell?_setCell_other _ _ _ _ (fun e => hne (congrArg Addr.off e).symm)).trans (cell hx)
  have hs5 := hb.size
  have hs6 := hg.size
  have hgl := (ho.lt g rfl)
  exact {
    c0 := World.cell?_setCell_same _ _ _ (cell h.c0)
    c1 := other (by decide) h.c1
    c2 := other (by decide) h.c2
    c3 := other (by decide) h.c3
    c4 := other (by decide) h.c4
    c5 := other (by decide) h.c5
    c6 := other (by decide) h.c6
    fz := fun o => by rw [World.frozen?_setCell, hg.frozen_far ⟨po, o, none⟩ (by show po < _; omega) hpr, hb.frozen (p := ⟨po, o, none⟩) (by show po < _; omega)]; exact h.fz o
    ph := h.ph
    pl := by rw [World.size_setCell]; omega
    own0 := by
      have := ownsRow_setCell_below ho (a := ⟨po, 0, none⟩) (Nat.lt_succ_self _) (.slice (some ⟨g, 0, none⟩) (X.heads.n + 1) cap')
      rw [show (X.hs ++ [x']).flatMap kHead.cells = X.hs.flatMap kHead.cells ++ kHead.cells x' by simp]
      exact this
    inn0 := fun x hx => by
      rcases List.mem_append.1 hx with hx | hx
      · exact kHead.step (h.inn0 x hx) hM
      · simp only [List.mem_cons, List.not_mem_nil, or_false] at hx
        rw [hx]
        exact hT.fresh hW kHead hin
    blk0 := fun b hb => .inr (Option.some.inj hb).symm
    own2 := keep_row h.own2 h.own0 (by decide) hb hg (Nat.lt_succ_self _)
    inn2 := fun x hx => kState.step (h.inn2 x hx) hM
    blk2 := fun b hb => .inl (h.blk2 b hb)
    own3 := keep_row h.own3 h.own0 (by decide) hb hg (Nat.lt_succ_self _)
    inn3 := fun x hx => kAct.step (h.inn3 x hx) hM
    blk3 := fun b hb => .inl (h.blk3 b hb)
    own4 := keep_row h.own4 h.own0 (by decide) hb hg (Nat.lt_succ_self _)
    inn4 := fun x hx => kTab.step (h.inn4 x hx) hM
    blk4 := fun b hb => .inl (h.blk4 b hb)
    own5 := keep_row h.own5 h.own0 (by decide) hb hg (Nat.lt_succ_self _)
    inn5 := fun x hx => kNode.step (h.inn5 x hx) hM
    blk5 := fun b hb => .inl (h.blk5 b hb)
    ms := h.ms.step (Kd.keeps kInt) hM
    ms0 := h.ms0
    os := h.os.step (Kd.keeps kInt) hM
    os0 := h.os0
    oc := h.oc
    fpo := .inl h.fpo
    fold := fun b hb => .inl (h.fold b hb)
    flt := fun k hk => by
      rw [World.size_setCell]
      rcases hk with hk | rfl
      · have := h.flt k hk; omega
      · exact hgl.2
    bel := by
      have := h.ph
      refine Below.setCell ?_ (by show w.heap.size + 2 ≤ po; omega) _
      refine (h.bel.trans (hb.mono (by omega))).grown hg (by omega) fun k hk => ?_
      have := (h.own0.lt k hk).1
      omega }

theorem OutAt.push2 {w W2 wr w5 w6 W : World} {po g cap' : Nat} {F : Nat → Prop} {X : PlanD} {x' : StateD} (h : OutAt w W2 po F X wr) (hb : Below wr.heap.size wr w5) (hW : wr.heap.size ≤ W.heap.size) (hin : kState.inn x' (mask (old W) (fun _ => Classical.propDecidable _) w5))
    (ho : w6.ownsRow (po + 1) 76 kState.k (.slice (some ⟨g, 0, none⟩) (X.states.n + 1) cap') (X.states.n + 1) (X.ss.flatMap kState.cells ++ kState.cells x')) (hg : w5.grownBy w6 (Value.slice X.states.a X.states.n X.states.c).ownBlock) (hnew : X.states.a = some ⟨g, 0, none⟩ ∨ w5.heap.size ≤ g) :
    OutAt w W2 po (fmore F g) { X with states := ⟨some ⟨g, 0, none⟩, X.states.n + 1, cap'⟩, ss := X.ss ++ [x'] } (w6.setCell ⟨po, 2, none⟩ (.slice (some ⟨g, 0, none⟩) (X.states.n + 1) cap')) := by
  have hT := turn_of (g := g) (u := .slice (some ⟨g, 0, none⟩) (X.states.n + 1) cap') (j := 2) (v := .slice X.states.a X.states.n X.states.c) h hb hg h.blk2 (hnew.elim (fun e => .inl (by rw [e]; rfl)) .inr)
  have hM := hT.mask
  have hpr : some po ≠ (Value.slice X.states.a X.states.n X.states.c).ownBlock := fun e => by have := (h.own2.lt po e.symm).1; omega
  have hpl := h.pl
  have cell : ∀ {o : Nat} {x : Value}, wr.cell? ⟨po, o, none⟩ = some x → w6.cell? ⟨po, o, none⟩ = some x := fun hx => hg.cell (cell_keep hx hb) hpr
  have other : ∀ {o : Nat} {x : Value}, o ≠ 2 → wr.cell? ⟨po, o, none⟩ = some x → (w6.setCell ⟨po, 2, none⟩ (.slice (some ⟨g, 0, none⟩) (X.states.n + 1) cap')).cell? ⟨po, o, none⟩ = some x := fun hne hx => (World.cell?_setCell_other _ _ _ _ (fun e => hne (congrArg Addr.off e).symm)).trans (cell hx)
  have hs5 := hb.size
  have hs6 := hg.size
  have hgl := (ho.lt g rfl)
  exact {
    c0 := other (by decide) h.c0
    c1 := other (by decide) h.c1
    c2 := World.cell?_setCell_same _ _ _ (cell h.c2)
    c3 := other (by decide) h.c3
    c4 := other (by decide) h.c4
    c5 := other (by decide) h.c5
    c6 := other (by decide) h.c6
    fz := fun o => by rw [World.frozen?_setCell, hg.frozen_far ⟨po, o, none⟩ (by show po < _; omega) hpr, hb.frozen (p := ⟨po, o, none⟩) (by show po < _; omega)]; exact h.fz o
    ph := h.ph
    pl := by rw [World.size_setCell]; omega
    own0 := keep_row h.own0 h.own2 (by decide) hb hg (Nat.lt_succ_self _)
    inn0 := fun x hx => kHead.step (h.inn0 x hx) hM
    blk0 := fun b hb => .inl (h.blk0 b hb)
    own2 := by
      have := ownsRow_setCell_below ho (a := ⟨po, 2, none⟩) (Nat.lt_succ_self _) (.slice (some ⟨g, 0, none⟩) (X.states.n + 1) cap')
      rw [show (X.ss ++ [x']).flatMap kState.cells = X.ss.flatMap kState.cells ++ kState.cells x' by simp]
      exact this
    inn2 := fun x hx => by
      rcases List.mem_append.1 hx with hx | hx
      · exact kState.step (h.inn2 x hx) hM
      · simp only [List.mem_cons, List.not_mem_nil, or_false] at hx
        rw [hx]
        exact hT.fresh hW kState hin
    blk2 := fun b hb => .inr (Option.some.inj hb).symm
    own3 := keep_row h.own3 h.own2 (by decide) hb hg (Nat.lt_succ_self _)
    inn3 := fun x hx => kAct.step (h.inn3 x hx) hM
    blk3 := fun b hb => .inl (h.blk3 b hb)
    own4 := keep_row h.own4 h.own2 (by decide) hb hg (Nat.lt_succ_self _)
    inn4 := fun x hx => kTab.step (h.inn4 x hx) hM
    blk4 := fun b hb => .inl (h.blk4 b hb)
    own5 := keep_row h.own5 h.own2 (by decide) hb hg (Nat.lt_succ_self _)
    inn5 := fun x hx => kNode.step (h.inn5 x hx) hM
    blk5 := fun b hb => .inl (h.blk5 b hb)
    ms := h.ms.step (Kd.keeps kInt) hM
    ms0 := h.ms0
    os := h.os.step (Kd.keeps kInt) hM
    os0 := h.os0
    oc := h.oc
    fpo := .inl h.fpo
    fold := fun b hb => .inl (h.fold b hb)
    flt := fun k hk => by
      rw [World.size_setCell]
      rcases hk with hk | rfl
      · have := h.flt k hk; omega
      · exact hgl.2
    bel := by
      have := h.ph
      refine Below.setCell ?_ (by show w.heap.size + 2 ≤ po; omega) _
      refine (h.bel.trans (hb.mono (by omega))).grown hg (by omega) fun k hk => ?_
      have := (h.own2.lt k hk).1
      omega }

theorem OutAt.push3 {w W2 wr w5 w6 W : World} {po g cap' : Nat} {F : Nat → Prop} {X : PlanD} {x' : ActD} (h : OutAt w W2 po F X wr) (hb : Below wr.heap.size wr w5) (hW : wr.heap.size ≤ W.heap.size) (hin : kAct.inn x' (mask (old W) (fun _ => Classical.propDecidable _) w5))
    (ho : w6.ownsRow (po + 1) 79 kAct.k (.slice (some ⟨g, 0, none⟩) (X.acts.n + 1) cap') (X.acts.n + 1) (X.al.flatMap kAct.cells ++ kAct.cells x')) (hg : w5.grownBy w6 (Value.slice X.acts.a X.acts.n X.acts.c).ownBlock) (hnew : X.acts.a = some ⟨g, 0, none⟩ ∨ w5.heap.size ≤ g) :
    OutAt w W2 po (fmore F g) { X with acts := ⟨some ⟨g, 0, none⟩, X.acts.n + 1, cap'⟩, al := X.al ++ [x'] } (w6.setCell ⟨po, 3, none⟩ (.slice (some ⟨g, 0, none⟩) (X.acts.n + 1) cap')) := by
  have hT := turn_of (g := g) (u := .slice (some ⟨g, 0, none⟩) (X.acts.n + 1) cap') (j := 3) (v := .slice X.acts.a X.acts.n X.acts.c) h hb hg h.blk3 (hnew.elim (fun e => .inl (by rw [e]; rfl)) .inr)
  have hM := hT.mask
  have hpr : some po ≠ (Value.slice X.acts.a X.acts.n X.acts.c).ownBlock := fun e => by have := (h.own3.lt po e.symm).1; omega
  have hpl := h.pl
  have cell : ∀ {o : Nat} {x : Value}, wr.cell? ⟨po, o, none⟩ = some x → w6.cell? ⟨po, o, none⟩ = some x := fun hx => hg.cell (cell_keep hx hb) hpr
  have other : ∀ {o : Nat} {x : Value}, o ≠ 3 → wr.cell? ⟨po, o, none⟩ = some x → (w6.setCell ⟨po, 3, none⟩ (.slice (some ⟨g, 0, none⟩) (X.acts.n + 1) cap')).cell? ⟨po, o, none⟩ = some x := fun hne hx => (World.cell?_setCell_other _ _ _ _ (fun e => hne (congrArg Addr.off e).symm)).trans (cell hx)
  have hs5 := hb.size
  have hs6 := hg.size
  have hgl := (ho.lt g rfl)
  exact {
    c0 := other (by decide) h.c0
    c1 := other (by decide) h.c1
    c2 := other (by decide) h.c2
    c3 := World.cell?_setCell_same _ _ _ (cell h.c3)
    c4 := other (by decide) h.c4
    c5 := other (by decide) h.c5
    c6 := other (by decide) h.c6
    fz := fun o => by rw [World.frozen?_setCell, hg.frozen_far ⟨po, o, none⟩ (by show po < _; omega) hpr, hb.frozen (p := ⟨po, o, none⟩) (by show po < _; omega)]; exact h.fz o
    ph := h.ph
    pl := by rw [World.size_setCell]; omega
    own0 := keep_row h.own0 h.own3 (by decide) hb hg (Nat.lt_succ_self _)
    inn0 := fun x hx => kHead.step (h.inn0 x hx) hM
    blk0 := fun b hb => .inl (h.blk0 b hb)
    own2 := keep_row h.own2 h.own3 (by decide) hb hg (Nat.lt_succ_self _)
    inn2 := fun x hx => kState.step (h.inn2 x hx) hM
    blk2 := fun b hb => .inl (h.blk2 b hb)
    own3 := by
      have := ownsRow_setCell_below ho (a := ⟨po, 3, none⟩) (Nat.lt_succ_self _) (.slice (some ⟨g, 0, none⟩) (X.acts.n + 1) cap')
      rw [show (X.al ++ [x']).flatMap kAct.cells = X.al.flatMap kAct.cells ++ kAct.cells x' by simp]
      exact this
    inn3 := fun x hx => by
      rcases List.mem_append.1 hx with hx | hx
      · exact kAct.step (h.inn3 x hx) hM
      · simp only [List.mem_cons, List.not_mem_nil, or_false] at hx
        rw [hx]
        exact hT.fresh hW kAct hin
    blk3 := fun b hb => .inr (Option.some.inj hb).symm
    own4 := keep_row h.own4 h.own3 (by decide) hb hg (Nat.lt_succ_self _)
    inn4 := fun x hx => kTab.step (h.inn4 x hx) hM
    blk4 := fun b hb => .inl (h.blk4 b hb)
    own5 := keep_row h.own5 h.own3 (by decide) hb hg (Nat.lt_succ_self _)
    inn5 := fun x hx => kNode.step (h.inn5 x hx) hM
    blk5 := fun b hb => .inl (h.blk5 b hb)
    ms := h.ms.step (Kd.keeps kInt) hM
    ms0 := h.ms0
    os := h.os.step (Kd.keeps kInt) hM
    os0 := h.os0
    oc := h.oc
    fpo := .inl h.fpo
    fold := fun b hb => .inl (h.fold b hb)
    flt := fun k hk => by
      rw [World.size_setCell]
      rcases hk with hk | rfl
      · have := h.flt k hk; omega
      · exact hgl.2
    bel := by
      have := h.ph
      refine Below.setCell ?_ (by show w.heap.size + 2 ≤ po; omega) _
      refine (h.bel.trans (hb.mono (by omega))).grown hg (by omega) fun k hk => ?_
      have := (h.own3.lt k hk).1
      omega }

theorem OutAt.push4 {w W2 wr w5 w6 W : World} {po g cap' : Nat} {F : Nat → Prop} {X : PlanD} {x' : TabD} (h : OutAt w W2 po F X wr) (hb : Below wr.heap.size wr w5) (hW : wr.heap.size ≤ W.heap.size) (hin : kTab.inn x' (mask (old W) (fun _ => Classical.propDecidable _) w5))
    (ho : w6.ownsRow (po + 1) 84 kTab.k (.slice (some ⟨g, 0, none⟩) (X.tabs.n + 1) cap') (X.tabs.n + 1) (X.ts.flatMap kTab.cells ++ kTab.cells x')) (hg : w5.grownBy w6 (Value.slice X.tabs.a X.tabs.n X.tabs.c).ownBlock) (hnew : X.tabs.a = some ⟨g, 0, none⟩ ∨ w5.heap.size ≤ g) :
    OutAt w W2 po (fmore F g) { X with tabs := ⟨some ⟨g, 0, none⟩, X.tabs.n + 1, cap'⟩, ts := X.ts ++ [x'] } (w6.setCell ⟨po, 4, none⟩ (.slice (some ⟨g, 0, none⟩) (X.tabs.n + 1) cap')) := by
  have hT := turn_of (g := g) (u := .slice (some ⟨g, 0, none⟩) (X.tabs.n + 1) cap') (j := 4) (v := .slice X.tabs.a X.tabs.n X.tabs.c) h hb hg h.blk4 (hnew.elim (fun e => .inl (by rw [e]; rfl)) .inr)
  have hM := hT.mask
  have hpr : some po ≠ (Value.slice X.tabs.a X.tabs.n X.tabs.c).ownBlock := fun e => by have := (h.own4.lt po e.symm).1; omega
  have hpl := h.pl
  have cell : ∀ {o : Nat} {x : Value}, wr.cell? ⟨po, o, none⟩ = some x → w6.cell? ⟨po, o, none⟩ = some x := fun hx => hg.cell (cell_keep hx hb) hpr
  have other : ∀ {o : Nat} {x : Value}, o ≠ 4 → wr.cell? ⟨po, o, none⟩ = some x → (w6.setCell ⟨po, 4, none⟩ (.slice (some ⟨g, 0, none⟩) (X.tabs.n + 1) cap')).cell? ⟨po, o, none⟩ = some x := fun hne hx => (World.cell?_setCell_other _ _ _ _ (fun e => hne (congrArg Addr.off e).symm)).trans (cell hx)
  have hs5 := hb.size
  have hs6 := hg.size
  have hgl := (ho.lt g rfl)
  exact {
    c0 := other (by decide) h.c0
    c1 := other (by decide) h.c1
    c2 := other (by decide) h.c2
    c3 := other (by decide) h.c3
    c4 := World.cell?_setCell_same _ _ _ (cell h.c4)
    c5 := other (by decide) h.c5
    c6 := other (by decide) h.c6
    fz := fun o => by rw [World.frozen?_setCell, hg.frozen_far ⟨po, o, none⟩ (by show po < _; omega) hpr, hb.frozen (p := ⟨po, o, none⟩) (by show po < _; omega)]; exact h.fz o
    ph := h.ph
    pl := by rw [World.size_setCell]; omega
    own0 := keep_row h.own0 h.own4 (by decide) hb hg (Nat.lt_succ_self _)
    inn0 := fun x hx => kHead.step (h.inn0 x hx) hM
    blk0 := fun b hb => .inl (h.blk0 b hb)
    own2 := keep_row h.own2 h.own4 (by decide) hb hg (Nat.lt_succ_self _)
    inn2 := fun x hx => kState.step (h.inn2 x hx) hM
    blk2 := fun b hb => .inl (h.blk2 b hb)
    own3 := keep_row h.own3 h.own4 (by decide) hb hg (Nat.lt_succ_self _)
    inn3 := fun x hx => kAct.step (h.inn3 x hx) hM
    blk3 := fun b hb => .inl (h.blk3 b hb)
    own4 := by
      have := ownsRow_setCell_below ho (a := ⟨po, 4, none⟩) (Nat.lt_succ_self _) (.slice (some ⟨g, 0, none⟩) (X.tabs.n + 1) cap')
      rw [show (X.ts ++ [x']).flatMap kTab.cells = X.ts.flatMap kTab.cells ++ kTab.cells x' by simp]
      exact this
    inn4 := fun x hx => by
      rcases List.mem_append.1 hx with hx | hx
      · exact kTab.step (h.inn4 x hx) hM
      · simp only [List.mem_cons, List.not_mem_nil, or_false] at hx
        rw [hx]
        exact hT.fresh hW kTab hin
    blk4 := fun b hb => .inr (Option.some.inj hb).symm
    own5 := keep_row h.own5 h.own4 (by decide) hb hg (Nat.lt_succ_self _)
    inn5 := fun x hx => kNode.step (h.inn5 x hx) hM
    blk5 := fun b hb => .inl (h.blk5 b hb)
    ms := h.ms.step (Kd.keeps kInt) hM
    ms0 := h.ms0
    os := h.os.step (Kd.keeps kInt) hM
    os0 := h.os0
    oc := h.oc
    fpo := .inl h.fpo
    fold := fun b hb => .inl (h.fold b hb)
    flt := fun k hk => by
      rw [World.size_setCell]
      rcases hk with hk | rfl
      · have := h.flt k hk; omega
      · exact hgl.2
    bel := by
      have := h.ph
      refine Below.setCell ?_ (by show w.heap.size + 2 ≤ po; omega) _
      refine (h.bel.trans (hb.mono (by omega))).grown hg (by omega) fun k hk => ?_
      have := (h.own4.lt k hk).1
      omega }

theorem OutAt.push5 {w W2 wr w5 w6 W : World} {po g cap' : Nat} {F : Nat → Prop} {X : PlanD} {x' : NodeD} (h : OutAt w W2 po F X wr) (hb : Below wr.heap.size wr w5) (hW : wr.heap.size ≤ W.heap.size) (hin : kNode.inn x' (mask (old W) (fun _ => Classical.propDecidable _) w5))
    (ho : w6.ownsRow (po + 1) 67 kNode.k (.slice (some ⟨g, 0, none⟩) (X.nodes.n + 1) cap') (X.nodes.n + 1) (X.ns.flatMap kNode.cells ++ kNode.cells x')) (hg : w5.grownBy w6 (Value.slice X.nodes.a X.nodes.n X.nodes.c).ownBlock) (hnew : X.nodes.a = some ⟨g, 0, none⟩ ∨ w5.heap.size ≤ g) :
    OutAt w W2 po (fmore F g) { X with nodes := ⟨some ⟨g, 0, none⟩, X.nodes.n + 1, cap'⟩, ns := X.ns ++ [x'] } (w6.setCell ⟨po, 5, none⟩ (.slice (some ⟨g, 0, none⟩) (X.nodes.n + 1) cap')) := by
  have hT := turn_of (g := g) (u := .slice (some ⟨g, 0, none⟩) (X.nodes.n + 1) cap') (j := 5) (v := .slice X.nodes.a X.nodes.n X.nodes.c) h hb hg h.blk5 (hnew.elim (fun e => .inl (by rw [e]; rfl)) .inr)
  have hM := hT.mask
  have hpr : some po ≠ (Value.slice X.nodes.a X.nodes.n X.nodes.c).ownBlock := fun e => by have := (h.own5.lt po e.symm).1; omega
  have hpl := h.pl
  have cell : ∀ {o : Nat} {x : Value}, wr.cell? ⟨po, o, none⟩ = some x → w6.cell? ⟨po, o, none⟩ = some x := fun hx => hg.cell (cell_keep hx hb) hpr
  have other : ∀ {o : Nat} {x : Value}, o ≠ 5 → wr.cell? ⟨po, o, none⟩ = some x → (w6.setCell ⟨po, 5, none⟩ (.slice (some ⟨g, 0, none⟩) (X.nodes.n + 1) cap')).cell? ⟨po, o, none⟩ = some x := fun hne hx => (World.cell?_setCell_other _ _ _ _ (fun e => hne (congrArg Addr.off e).symm)).trans (cell hx)
  have hs5 := hb.size
  have hs6 := hg.size
  have hgl := (ho.lt g rfl)
  exact {
    c0 := other (by decide) h.c0
    c1 := other (by decide) h.c1
    c2 := other (by decide) h.c2
    c3 := other (by decide) h.c3
    c4 := other (by decide) h.c4
    c5 := World.cell?_setCell_same _ _ _ (cell h.c5)
    c6 := other (by decide) h.c6
    fz := fun o => by rw [World.frozen?_setCell, hg.frozen_far ⟨po, o, none⟩ (by show po < _; omega) hpr, hb.frozen (p := ⟨po, o, none⟩) (by show po < _; omega)]; exact h.fz o
    ph := h.ph
    pl := by rw [World.size_setCell]; omega
    own0 := keep_row h.own0 h.own5 (by decide) hb hg (Nat.lt_succ_self _)
    inn0 := fun x hx => kHead.step (h.inn0 x hx) hM
    blk0 := fun b hb => .inl (h.blk0 b hb)
    own2 := keep_row h.own2 h.own5 (by decide) hb hg (Nat.lt_succ_self _)
    inn2 := fun x hx => kState.step (h.inn2 x hx) hM
    blk2 := fun b hb => .inl (h.blk2 b hb)
    own3 := keep_row h.own3 h.own5 (by decide) hb hg (Nat.lt_succ_self _)
    inn3 := fun x hx => kAct.step (h.inn3 x hx) hM
    blk3 := fun b hb => .inl (h.blk3 b hb)
    own4 := keep_row h.own4 h.own5 (by decide) hb hg (Nat.lt_succ_self _)
    inn4 := fun x hx => kTab.step (h.inn4 x hx) hM
    blk4 := fun b hb => .inl (h.blk4 b hb)
    own5 := by
      have := ownsRow_setCell_below ho (a := ⟨po, 5, none⟩) (Nat.lt_succ_self _) (.slice (some ⟨g, 0, none⟩) (X.nodes.n + 1) cap')
      rw [show (X.ns ++ [x']).flatMap kNode.cells = X.ns.flatMap kNode.cells ++ kNode.cells x' by simp]
      exact this
    inn5 := fun x hx => by
      rcases List.mem_append.1 hx with hx | hx
      · exact kNode.step (h.inn5 x hx) hM
      · simp only [List.mem_cons, List.not_mem_nil, or_false] at hx
        rw [hx]
        exact hT.fresh hW kNode hin
    blk5 := fun b hb => .inr (Option.some.inj hb).symm
    ms := h.ms.step (Kd.keeps kInt) hM
    ms0 := h.ms0
    os := h.os.step (Kd.keeps kInt) hM
    os0 := h.os0
    oc := h.oc
    fpo := .inl h.fpo
    fold := fun b hb => .inl (h.fold b hb)
    flt := fun k hk => by
      rw [World.size_setCell]
      rcases hk with hk | rfl
      · have := h.flt k hk; omega
      · exact hgl.2
    bel := by
      have := h.ph
      refine Below.setCell ?_ (by show w.heap.size + 2 ≤ po; omega) _
      refine (h.bel.trans (hb.mono (by omega))).grown hg (by omega) fun k hk => ?_
      have := (h.own5.lt k hk).1
      omega }
end Go.Proofs.YtkggocdannkdmaaGreat
