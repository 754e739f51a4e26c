/- A packet on its way, by the document: as it lies; use, field, mask. -/
import Derived.Test.YtcmdgbfppbkfmaaVWTwo
import Derived.Test.YtcmdgbfppbkfmaaVSizeRef
import Derived.Test.YtcmdgbfppbkfmaaVWBit
import Derived.Test.YtcmdgbfppbkfmaaVQGreat2
import Derived.Test.YtcmdgbfppbkfmaaJP
namespace Go.Proofs.Ytcmdgbfppbkfmaa
open Go.RowKit

/-- numbers of one kind stay where a value of another kind is stored over -/
theorem Has.keepOver {k : IntKind} {w : World} {a : Option Addr} {len : Nat} {zs : List Int} (h : Has k w a len zs) {p : Addr} {u : Value} (hp : w.cell? p = Option.some u) (hu : ∀ n, u ≠ .int k n) (v : Value) : Has k (w.setCell p v) a len zs := by
  refine ⟨h.1, h.2.1, ?_⟩
  rcases h.2.2 with h | ⟨b, off, rfl, hlt, hc⟩
  · exact .inl h
  · refine .inr ⟨b, off, rfl, by simpa [World.setCell] using hlt, fun i hi => ?_⟩
    have h1 := hc i hi
    rw [World.cell?_setCell_other _ _ _ _ (by
      intro e
      rw [← e, hp] at h1
      exact hu _ (Option.some.inj h1))]
    exact h1

/-- what a packet on its way is: where its parts lie -/
structure GoD where
  q : Nat
  yb : Nat
  th : Nat
  vb : Nat
  b : QSl
  bs : List Int
  va : QSl
  V : List (QSl × List Int)
  T : List Bool
  mt : QSl
  mz : List Int
  port : Int
  gone : Bool

/-- the plan's cells in the yard's block -/
def YBox (d : PlanD) (b : Nat) (w : World) : Prop := w.cell? ⟨b, 0, none⟩ = some (.slice d.heads.a d.heads.n d.heads.c) ∧ w.cell? ⟨b, 1, none⟩ = some (.slice d.mta.a d.mta.n d.mta.c) ∧ w.cell? ⟨b, 2, none⟩ = some (.slice d.states.a d.states.n d.states.c) ∧ w.cell? ⟨b, 3, none⟩ = some (.slice d.acts.a d.acts.n d.acts.c) ∧ w.cell? ⟨b, 4, none⟩ = some (.slice d.tabs.a d.tabs.n d.tabs.c) ∧ w.cell? ⟨b, 5, none⟩ = some (.slice d.nodes.a d.nodes.n d.nodes.c) ∧ w.cell? ⟨b, 6, none⟩ = some (.slice d.out.a d.out.n d.out.c)

theorem YBox.step {d : PlanD} {b : Nat} {w w' : World} (h : YBox d b w) (k : Below w.heap.size w w') : YBox d b w' := by
  obtain ⟨h0, h1, h2, h3, h4, h5, h6⟩ := h
  exact ⟨cell_keep h0 k, cell_keep h1 k, cell_keep h2 k, cell_keep h3 k, cell_keep h4 k, cell_keep h5 k, cell_keep h6 k⟩
theorem YBox.but {d : PlanD} {b g : Nat} {w w' : World} (h : YBox d b w) (k : But g w w') (hn : b ≠ g) : YBox d b w' := by
  obtain ⟨h0, h1, h2, h3, h4, h5, h6⟩ := h
  exact ⟨k.cell hn h0, k.cell hn h1, k.cell hn h2, k.cell hn h3, k.cell hn h4, k.cell hn h5, k.cell hn h6⟩

structure GoAt (d : PlanD) (G : GoD) (w : World) : Prop where
  c0 : w.cell? ⟨G.q, 0, none⟩ = some (.pointer (some ⟨G.yb, 0, none⟩))
  c1 : w.cell? ⟨G.q, 1, none⟩ = some (.slice G.b.a G.b.n G.b.c)
  c2 : w.cell? ⟨G.q, 2, none⟩ = some (.int .u64 G.port)
  c3 : w.cell? ⟨G.q, 3, none⟩ = some (.slice (some ⟨G.th, 0, none⟩) d.heads.n d.heads.n)
  c4 : w.cell? ⟨G.q, 4, none⟩ = some (.slice G.va.a G.va.n G.va.c)
  c5 : w.cell? ⟨G.q, 5, none⟩ = some (.slice G.mt.a G.mt.n G.mt.c)
  c8 : w.cell? ⟨G.q, 8, none⟩ = some (.bool G.gone)
  fq : ∀ o, w.frozen? ⟨G.q, o, none⟩ = false
  box : YBox d G.yb w
  ts : ∀ (i : Nat) (b : Bool), G.T[i]? = some b → w.cell? ⟨G.th, i, none⟩ = some (.bool b)
  tf : ∀ o, w.frozen? ⟨G.th, o, none⟩ = false
  tl : G.T.length = d.heads.n
  va : G.va.n = d.heads.n ∧ (0 < d.heads.n → G.va.a = some ⟨G.vb, 0, none⟩)
  vl : G.V.length = d.heads.n
  vs : ∀ (i : Nat) (x : QSl × List Int), G.V[i]? = some x → w.cell? ⟨G.vb, i, none⟩ = some (.slice x.1.a x.1.n x.1.c) ∧ Has .u64 w x.1.a x.1.n x.2 ∧ x.1.n = (d.p.hs.getD i []).length
  vf : ∀ o, w.frozen? ⟨G.vb, o, none⟩ = false
  hb : Has .u8 w G.b.a G.b.n G.bs
  hm : Has .u64 w G.mt.a G.mt.n G.mz
  ml : G.mt.n = d.p.ms.length
  pf : (Lit.int .u64 G.port).wf = true
  qt : G.q ≠ G.th
  qv : G.q ≠ G.vb
  qy : G.q ≠ G.yb
  tv : G.th ≠ G.vb
  ty : G.th ≠ G.yb
  vy : G.vb ≠ G.yb
  tlt : G.th < w.heap.size
  vlt : G.vb < w.heap.size
  bc : G.b.n ≤ G.b.c

theorem GoAt.qlt {d : PlanD} {G : GoD} {w : World} (h : GoAt d G w) : G.q < w.heap.size := World.block_lt_of_cell? _ _ h.c0

theorem GoAt.step {d : PlanD} {G : GoD} {w w' : World} (h : GoAt d G w) (b : Below w.heap.size w w') : GoAt d G w' :=
  ⟨cell_keep h.c0 b, cell_keep h.c1 b, cell_keep h.c2 b, cell_keep h.c3 b, cell_keep h.c4 b, cell_keep h.c5 b, cell_keep h.c8 b, fun o => (b.frozen (p := ⟨G.q, o, none⟩) h.qlt).trans (h.fq o), h.box.step b, fun i x hx => cell_keep (h.ts i x hx) b, fun o => (b.frozen (p := ⟨G.th, o, none⟩) h.tlt).trans (h.tf o), h.tl, h.va, h.vl, fun i x hx => ⟨cell_keep (h.vs i x hx).1 b, (h.vs i x hx).2.1.step b, (h.vs i x hx).2.2⟩, fun o => (b.frozen (p := ⟨G.vb, o, none⟩) h.vlt).trans (h.vf o), h.hb.step b, h.hm.step b, h.ml, h.pf, h.qt, h.qv, h.qy, h.tv, h.ty, h.vy, Nat.lt_of_lt_of_le h.tlt b.size, Nat.lt_of_lt_of_le h.vlt b.size, h.bc⟩

theorem set_frozen {w : World} {p : Addr} {v : Value} {b o : Nat} (h : w.frozen? ⟨b, o, none⟩ = false) : (w.setCell p v).frozen? ⟨b, o, none⟩ = false := by
  simp only [World.frozen?_setCell]; exact h

/-- a header is used -/
theorem GoAt.setGone {d : PlanD} {G : GoD} {w : World} (h : GoAt d G w) (x : Bool) : GoAt d { G with gone := x } (w.setCell ⟨G.q, 8, none⟩ (.bool x)) := by
  have k : But G.q w (w.setCell ⟨G.q, 8, none⟩ (.bool x)) := set_but
  have nb : ∀ (K : IntKind) (n : Int), Value.bool G.gone ≠ .int K n := fun _ _ h => by cases h
  exact ⟨cell_other h.c0 (by omega), cell_other h.c1 (by omega), cell_other h.c2 (by omega), cell_other h.c3 (by omega), cell_other h.c4 (by omega), cell_other h.c5 (by omega), World.cell?_setCell_same _ _ _ h.c8, fun o => set_frozen (h.fq o), h.box.but k (Ne.symm h.qy), fun i y hy => k.cell (Ne.symm h.qt) (h.ts i y hy), fun o => set_frozen (h.tf o), h.tl, h.va, h.vl, fun i y hy => ⟨k.cell (Ne.symm h.qv) (h.vs i y hy).1, (h.vs i y hy).2.1.keepOver h.c8 (nb _) _, (h.vs i y hy).2.2⟩, fun o => set_frozen (h.vf o), h.hb.keepOver h.c8 (nb _) _, h.hm.keepOver h.c8 (nb _) _, h.ml, h.pf, h.qt, h.qv, h.qy, h.tv, h.ty, h.vy, by simp only [World.size_setCell]; exact h.tlt, by simp only [World.size_setCell]; exact h.vlt, h.bc⟩

/-- a header is there -/
theorem GoAt.setThere {d : PlanD} {G : GoD} {w : World} (h : GoAt d G w) (i : Nat) (hi : i < d.heads.n) (x : Bool) : GoAt d { G with T := G.T.set i x } (w.setCell ⟨G.th, i, none⟩ (.bool x)) := by
  have k : But G.th w (w.setCell ⟨G.th, i, none⟩ (.bool x)) := set_but
  have hil : i < G.T.length := by rw [h.tl]; exact hi
  have hc := h.ts i _ (List.getElem?_eq_getElem hil)
  have nb : ∀ (K : IntKind) (n : Int), Value.bool G.T[i] ≠ .int K n := fun _ _ h => by cases h
  refine ⟨k.cell h.qt h.c0, k.cell h.qt h.c1, k.cell h.qt h.c2, k.cell h.qt h.c3, k.cell h.qt h.c4, k.cell h.qt h.c5, k.cell h.qt h.c8, fun o => set_frozen (h.fq o), h.box.but k (Ne.symm h.ty), fun j y hy => ?_, fun o => set_frozen (h.tf o), by simpa using h.tl, h.va, h.vl, fun j y hy => ⟨k.cell (Ne.symm h.tv) (h.vs j y hy).1, (h.vs j y hy).2.1.keepOver hc (nb _) _, (h.vs j y hy).2.2⟩, fun o => set_frozen (h.vf o), h.hb.keepOver hc (nb _) _, h.hm.keepOver hc (nb _) _, h.ml, h.pf, h.qt, h.qv, h.qy, h.tv, h.ty, h.vy, by simp only [World.size_setCell]; exact h.tlt, by simp only [World.size_setCell]; exact h.vlt, h.bc⟩
  simp only [List.getElem?_set] at hy
  by_cases e : i = j
  · subst e
    rw [if_pos rfl, if_pos hil] at hy
    cases hy
    exact World.cell?_setCell_same _ _ _ hc
  · rw [if_neg e] at hy
    exact cell_other (h.ts j y hy) e

/-- a header's numbers -/
theorem GoAt.setNums {d : PlanD} {G : GoD} {w : World} (h : GoAt d G w) (i : Nat) (hi : i < d.heads.n) (s : QSl) (zs : List Int) (hz : Has .u64 w s.a s.n zs) (hn : s.n = (d.p.hs.getD i []).length) : GoAt d { G with V := G.V.set i (s, zs) } (w.setCell ⟨G.vb, i, none⟩ (.slice s.a s.n s.c)) := by
  have k : But G.vb w (w.setCell ⟨G.vb, i, none⟩ (.slice s.a s.n s.c)) := set_but
  have hil : i < G.V.length := by rw [h.vl]; exact hi
  have hc := (h.vs i _ (List.getElem?_eq_getElem hil)).1
  have nb : ∀ (K : IntKind) (n : Int), Value.slice G.V[i].1.a G.V[i].1.n G.V[i].1.c ≠ .int K n := fun _ _ h => by cases h
  refine ⟨k.cell h.qv h.c0, k.cell h.qv h.c1, k.cell h.qv h.c2, k.cell h.qv h.c3, k.cell h.qv h.c4, k.cell h.qv h.c5, k.cell h.qv h.c8, fun o => set_frozen (h.fq o), h.box.but k (Ne.symm h.vy), fun j y hy => k.cell h.tv (h.ts j y hy), fun o => set_frozen (h.tf o), h.tl, h.va, by simpa using h.vl, fun j y hy => ?_, fun o => set_frozen (h.vf o), h.hb.keepOver hc (nb _) _, h.hm.keepOver hc (nb _) _, h.ml, h.pf, h.qt, h.qv, h.qy, h.tv, h.ty, h.vy, by simp only [World.size_setCell]; exact h.tlt, by simp only [World.size_setCell]; exact h.vlt, h.bc⟩
  simp only [List.getElem?_set] at hy
  by_cases e : i = j
  · subst e
    rw [if_pos rfl, if_pos hil] at hy
    cases hy
    exact ⟨World.cell?_setCell_same _ _ _ hc, hz.keepOver hc (nb _) _, hn⟩
  · rw [if_neg e] at hy
    exact ⟨cell_other (h.vs j y hy).1 e, (h.vs j y hy).2.1.keepOver hc (nb _) _, (h.vs j y hy).2.2⟩

/-- bytes are taken -/
theorem GoAt.setBytes {d : PlanD} {G : GoD} {w : World} (h : GoAt d G w) (s : QSl) (zs : List Int) (hz : Has .u8 w s.a s.n zs) (hbc : s.n ≤ s.c) : GoAt d { G with b := s, bs := zs } (w.setCell ⟨G.q, 1, none⟩ (.slice s.a s.n s.c)) := by
  have k : But G.q w (w.setCell ⟨G.q, 1, none⟩ (.slice s.a s.n s.c)) := set_but
  have nb : ∀ (K : IntKind) (n : Int), Value.slice G.b.a G.b.n G.b.c ≠ .int K n := fun _ _ h => by cases h
  exact ⟨cell_other h.c0 (by omega), World.cell?_setCell_same _ _ _ h.c1, cell_other h.c2 (by omega), cell_other h.c3 (by omega), cell_other h.c4 (by omega), cell_other h.c5 (by omega), cell_other h.c8 (by omega), fun o => set_frozen (h.fq o), h.box.but k (Ne.symm h.qy), fun i y hy => k.cell (Ne.symm h.qt) (h.ts i y hy), fun o => set_frozen (h.tf o), h.tl, h.va, h.vl, fun i y hy => ⟨k.cell (Ne.symm h.qv) (h.vs i y hy).1, (h.vs i y hy).2.1.keepOver h.c1 (nb _) _, (h.vs i y hy).2.2⟩, fun o => set_frozen (h.vf o), hz.keepOver h.c1 (nb _) _, h.hm.keepOver h.c1 (nb _) _, h.ml, h.pf, h.qt, h.qv, h.qy, h.tv, h.ty, h.vy, by simp only [World.size_setCell]; exact h.tlt, by simp only [World.size_setCell]; exact h.vlt, hbc⟩

set_option maxHeartbeats 4000000 in
set_option maxRecDepth 20000 in
theorem guse_any {d : PlanD} {G : GoD} {w : World} (hg : GoAt d G w) (h : Int) (hh : h < 0 ∨ 0 ≤ h ∧ h < (d.heads.n : Int)) : Calls Try.prog 55 #[.pointer (some ⟨G.q, 0, none⟩), .int .i64 h] w fun e w' => ∃ x : Bool, e = .returned (.tuple #[]) ∧ w' = w.setCell ⟨G.q, 8, none⟩ (.bool x) := by
  have c8 := hg.c8
  have f8 := hg.fq 8
  have c3 := hg.c3
  generalize G.gone = gn at *
  cases gn with
  | true =>
    clear hg hh
    go_enter Try.func55, Try.ntmps55
    go_wp2
    go_end0
    exact ⟨_, rfl, rfl⟩
  | false =>
    by_cases h0 : h < 0
    · have hd : decide (0 ≤ h) = false := decide_eq_false (by omega)
      clear hg hh h0
      go_enter Try.func55, Try.ntmps55
      go_wp2
      go_end0
      exact ⟨_, rfl, rfl⟩
    · have h1 : 0 ≤ h := by omega
      have hd : decide (0 ≤ h) = true := decide_eq_true h1
      have h2 : h < (d.heads.n : Int) := by omega
      have hil : h.toNat < G.T.length := by rw [hg.tl]; omega
      have ct := hg.ts h.toNat _ (List.getElem?_eq_getElem hil)
      generalize G.T[h.toNat] = tb at *
      clear hg hh h0 hil
      go_enter Try.func55, Try.ntmps55
      go_wp2
      go_end0
      exact ⟨_, rfl, rfl⟩
end Go.Proofs.Ytcmdgbfppbkfmaa
