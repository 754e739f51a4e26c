/- A packet at its beginning, by the document: Yard.start, as it lies. -/
import Derived.Test.YtcmdgbfppbkfmaaJ1
import Derived.Test.YtcmdgbfppbkfmaaJ2
import Derived.Test.YtcmdgbfppbkfmaaVQGreat
import Derived.Test.YtcmdgbfppbkfmaaJ15
import Derived.Deep.RegionHeld3
import Derived.Deep.RegionLaw
import Derived.Deep.DeepCutAuto
import Derived.Deep.AppendLies
namespace Go.Proofs.Ytcmdgbfppbkfmaa
open Go.RowKit

theorem Try.infoNums1 : (Try.prog.info? 62).map (fun i => (i.zero, i.size, i.bytes)) = some (some (.slice none 0 0), 1, 24) := by kernel_rfl
theorem Try.infoBool1 : (Try.prog.info? 4).map (fun i => (i.zero, i.size, i.bytes)) = some (some (.bool false), 1, 1) := by kernel_rfl

/-- the value of a list of numbers -/
@[reducible] def rowV (x : Nat × Nat) : Value := .slice (some ⟨x.1, 0, none⟩) x.2 x.2

/-- a packet of which nothing is taken as yet, k headers having their numbers -/
structure BegAt (d : PlanD) (yb : Nat) (b : QSl) (port : Int) (w : World) (q th mt k : Nat) (va : Option Addr) (vc : Nat) (V : List (Nat × Nat)) (wr : World) : Prop where
  c0 : wr.cell? ⟨q, 0, none⟩ = some (.pointer (some ⟨yb, 0, none⟩))
  c1 : wr.cell? ⟨q, 1, none⟩ = some (.slice b.a b.n b.c)
  c2 : wr.cell? ⟨q, 2, none⟩ = some (.int .u64 port)
  c3 : wr.cell? ⟨q, 3, none⟩ = some (.slice (some ⟨th, 0, none⟩) d.heads.n d.heads.n)
  c4 : wr.cell? ⟨q, 4, none⟩ = some (.slice va k vc)
  c5 : wr.cell? ⟨q, 5, none⟩ = some (.slice (some ⟨mt, 0, none⟩) d.mta.n d.mta.n)
  c6 : wr.cell? ⟨q, 6, none⟩ = some (.int .u64 0)
  c7 : wr.cell? ⟨q, 7, none⟩ = some (.bool false)
  c8 : wr.cell? ⟨q, 8, none⟩ = some (.bool false)
  c9 : wr.cell? ⟨q, 9, none⟩ = some (.slice none 0 0)
  c10 : wr.cell? ⟨q, 10, none⟩ = some (.slice none 0 0)
  fq : ∀ o, wr.frozen? ⟨q, o, none⟩ = false
  ts : ∀ i, i < d.heads.n → wr.cell? ⟨th, i, none⟩ = some (.bool false)
  tf : ∀ o, wr.frozen? ⟨th, o, none⟩ = false
  ms : ∀ i, i < d.mta.n → wr.cell? ⟨mt, i, none⟩ = some (.int .u64 0)
  mf : ∀ o, wr.frozen? ⟨mt, o, none⟩ = false
  own : wr.ownsRow (q + 1) 62 1 (.slice va k vc) k (V.map rowV)
  vs : ∀ (i : Nat) (x : Nat × Nat), V[i]? = some x → q < x.1 ∧ x.1 < wr.heap.size ∧ va ≠ some ⟨x.1, 0, none⟩ ∧ (∀ j, j < x.2 → wr.cell? ⟨x.1, j, none⟩ = some (.int .u64 0)) ∧ ∃ h, d.hs[i]? = some h ∧ x.2 = h.w.n
  vl : V.length = k
  ot : w.heap.size ≤ th
  om : w.heap.size ≤ mt
  tq : th < q
  mq : mt < q
  tm : th ≠ mt
  bel : Below w.heap.size w wr

theorem BegAt.ql {d : PlanD} {yb : Nat} {b : QSl} {port : Int} {w : World} {q th mt k : Nat} {va : Option Addr} {vc : Nat} {V : List (Nat × Nat)} {wr : World} (h : BegAt d yb b port w q th mt k va vc V wr) : q < wr.heap.size := World.block_lt_of_cell? _ _ h.c0

/-- one header more -/
theorem BegAt.push {d : PlanD} {yb : Nat} {b : QSl} {port : Int} {w : World} {q th mt k : Nat} {va : Option Addr} {vc : Nat} {V : List (Nat × Nat)} {wr w5 w6 : World} (h : BegAt d yb b port w q th mt k va vc V wr) {x : HeadD} (hx : d.hs[k]? = some x)
    (hb : Below wr.heap.size wr w5) (hs5 : wr.heap.size < w5.heap.size) (hc5 : ∀ j, j < x.w.n → w5.cell? ⟨wr.heap.size, j, none⟩ = some (.int .u64 0)) {g cap : Nat}
    (ho : w6.ownsRow (q + 1) 62 1 (.slice (some ⟨g, 0, none⟩) (k + 1) cap) (k + 1) (V.map rowV ++ [rowV (wr.heap.size, x.w.n)])) (hg : w5.grownBy w6 (Value.slice va k vc).ownBlock) (hn : va = some ⟨g, 0, none⟩ ∨ w5.heap.size ≤ g) :
    BegAt d yb b port w q th mt (k + 1) (some ⟨g, 0, none⟩) cap (V ++ [(wr.heap.size, x.w.n)]) (w6.setCell ⟨q, 4, none⟩ (.slice (some ⟨g, 0, none⟩) (k + 1) cap)) := by
  have hql := h.ql
  have hrow : ∀ r, (Value.slice va k vc).ownBlock = some r → q + 1 ≤ r ∧ r < wr.heap.size := h.own.lt
  have far : ∀ {n o : Nat} {v : Value}, wr.cell? ⟨n, o, none⟩ = some v → some n ≠ (Value.slice va k vc).ownBlock → w6.cell? ⟨n, o, none⟩ = some v := fun hc hne => hg.cell (cell_keep hc hb) hne
  have lowq : ∀ n, n ≤ q → some n ≠ (Value.slice va k vc).ownBlock := fun n hn e => by have := (hrow n e.symm).1; omega
  have frz : ∀ n o, n ≤ q → wr.frozen? ⟨n, o, none⟩ = false → w6.frozen? ⟨n, o, none⟩ = false := fun n o hn hf => (hg.frozen_far ⟨n, o, none⟩ (by show n < w5.heap.size; omega) (lowq n hn)).trans ((hb.frozen (p := ⟨n, o, none⟩) (by show n < wr.heap.size; omega)).trans hf)
  have qs : ∀ {o : Nat} {v : Value}, wr.cell? ⟨q, o, none⟩ = some v → o ≠ 4 → (w6.setCell ⟨q, 4, none⟩ (.slice (some ⟨g, 0, none⟩) (k + 1) cap)).cell? ⟨q, o, none⟩ = some v := fun hc hne => (World.cell?_setCell_other _ _ _ _ (by intro e; cases e; exact hne rfl)).trans (far hc (lowq q (Nat.le_refl _)))
  have ns : ∀ {n o : Nat} {v : Value}, n ≠ q → w6.cell? ⟨n, o, none⟩ = some v → (w6.setCell ⟨q, 4, none⟩ (.slice (some ⟨g, 0, none⟩) (k + 1) cap)).cell? ⟨n, o, none⟩ = some v := fun hne hc => (World.cell?_setCell_other _ _ _ _ (by intro e; cases e; exact hne rfl)).trans hc
  have htq := h.tq
  have hmq := h.mq
  refine ⟨qs h.c0 (by omega), qs h.c1 (by omega), qs h.c2 (by omega), qs h.c3 (by omega), World.cell?_setCell_same _ _ _ (far h.c4 (lowq q (Nat.le_refl _))), qs h.c5 (by omega), qs h.c6 (by omega), qs h.c7 (by omega), qs h.c8 (by omega), qs h.c9 (by omega), qs h.c10 (by omega),
    fun o => by rw [World.frozen?_setCell]; exact frz q o (Nat.le_refl _) (h.fq o),
    fun i hi => ns (by omega) (far (h.ts i hi) (lowq th (by omega))), fun o => by rw [World.frozen?_setCell]; exact frz th o (by omega) (h.tf o),
    fun i hi => ns (by omega) (far (h.ms i hi) (lowq mt (by omega))), fun o => by rw [World.frozen?_setCell]; exact frz mt o (by omega) (h.mf o), ?_, ?_, by simp [h.vl], h.ot, h.om, h.tq, h.mq, h.tm, ?_⟩
  · have := ownsRow_setCell_below ho (a := ⟨q, 4, none⟩) (Nat.lt_succ_self _) (.slice (some ⟨g, 0, none⟩) (k + 1) cap)
    rw [List.map_append]
    exact this
  · have hs6 := hg.size
    intro i y hy
    by_cases hi : i < V.length
    · rw [List.getElem?_append_left hi] at hy
      obtain ⟨h1, h2, h3, h4, h5⟩ := h.vs i y hy
      have hne : some y.1 ≠ (Value.slice va k vc).ownBlock := fun e => by
        cases hva : va with
        | none => rw [hva] at e; cases e
        | some ad =>
          rw [hva] at e h3
          rcases h.own.2 with ⟨e2, _⟩ | ⟨g0, c0, cur, e2, _⟩
          · rw [hva] at e2; cases e2
          · rw [hva] at e2
            simp only [Value.slice.injEq, Option.some.injEq] at e2
            rw [e2.1] at e h3
            simp only [Value.ownBlock, Option.some.injEq] at e
            exact h3 (by rw [e])
      refine ⟨h1, ?_, ?_, fun j hj => ns (by omega) (far (h4 j hj) hne), h5⟩
      · rw [World.size_setCell]; omega
      · intro e
        simp only [Option.some.injEq, Addr.mk.injEq, and_true] at e
        rcases hn with hn | hn
        · exact h3 (by rw [hn, e])
        · omega
    · have hi' : i = V.length := by
        have := (List.getElem?_eq_some_iff.1 hy).1
        simp at this
        omega
      subst hi'
      simp only [List.getElem?_append_right (Nat.le_refl _), Nat.sub_self, List.getElem?_cons_zero, Option.some.injEq] at hy
      subst hy
      have hne : some wr.heap.size ≠ (Value.slice va k vc).ownBlock := fun e => by have := (hrow _ e.symm).2; omega
      refine ⟨hql, ?_, ?_, fun j hj => ns (by show wr.heap.size ≠ q; omega) (hg.cell (hc5 j hj) hne), x, by rw [h.vl]; exact hx, rfl⟩
      · rw [World.size_setCell]; show wr.heap.size < _; omega
      · intro e
        simp only [Option.some.injEq, Addr.mk.injEq, and_true] at e
        rcases hn with hn | hn
        · have := (hrow g (by rw [hn]; rfl)).2
          omega
        · omega
  · have hwq : w.heap.size ≤ q := by have := h.ot; omega
    refine Below.setCell ((bl_step h.bel hb).grown hg (Nat.le_trans h.bel.size hb.size) ?_) (by show w.heap.size ≤ q; exact hwq) _
    intro r hr
    have := (hrow r hr).1
    omega

theorem madeB (m : Nat) (i : Nat) (hi : i < m) : (madeCells #[Value.bool false] m)[i]? = some (.bool false) := by
  rw [← Array.getElem?_toList, toList_madeCells_one, List.getElem?_replicate, if_pos hi]
theorem madeU (m : Nat) (i : Nat) (hi : i < m) : (madeCells #[Value.int .u64 0] m)[i]? = some (.int .u64 0) := by
  rw [← Array.getElem?_toList, toList_madeCells_one, List.getElem?_replicate, if_pos hi]

/-- the first: nothing but the box -/
theorem BegAt.begin {d : PlanD} {yb : Nat} {b : QSl} {port : Int} {w w1 : World} {q th mt : Nat} (hb : Below w.heap.size w w1) (ot : w.heap.size ≤ th) (om : w.heap.size ≤ mt) (tq : th < q) (mq : mt < q) (tm : th ≠ mt) (hq : q = w1.heap.size)
    (ts : ∀ i, i < d.heads.n → w1.cell? ⟨th, i, none⟩ = some (.bool false)) (tf : ∀ o, w1.frozen? ⟨th, o, none⟩ = false) (ms : ∀ i, i < d.mta.n → w1.cell? ⟨mt, i, none⟩ = some (.int .u64 0)) (mf : ∀ o, w1.frozen? ⟨mt, o, none⟩ = false) (T : TypeId) :
    BegAt d yb b port w q th mt 0 none 0 [] (w1.alloc (.cells #[.pointer (some ⟨yb, 0, none⟩), .slice b.a b.n b.c, .int .u64 port, .slice (some ⟨th, 0, none⟩) d.heads.n d.heads.n, .slice none 0 0, .slice (some ⟨mt, 0, none⟩) d.mta.n d.mta.n, .int .u64 0, .bool false, .bool false, .slice none 0 0, .slice none 0 0] T)).drew := by
  subst hq
  have c : ∀ (i : Nat) (v : Value), (#[.pointer (some ⟨yb, 0, none⟩), .slice b.a b.n b.c, .int .u64 port, .slice (some ⟨th, 0, none⟩) d.heads.n d.heads.n, .slice none 0 0, .slice (some ⟨mt, 0, none⟩) d.mta.n d.mta.n, .int .u64 0, .bool false, .bool false, .slice none 0 0, .slice none 0 0] : Array Value)[i]? = some v → (w1.alloc (.cells #[.pointer (some ⟨yb, 0, none⟩), .slice b.a b.n b.c, .int .u64 port, .slice (some ⟨th, 0, none⟩) d.heads.n d.heads.n, .slice none 0 0, .slice (some ⟨mt, 0, none⟩) d.mta.n d.mta.n, .int .u64 0, .bool false, .bool false, .slice none 0 0, .slice none 0 0] T)).drew.cell? ⟨w1.heap.size, i, none⟩ = some v := fun i v hv => (World.cell?_alloc_at _ _ _ _ rfl).trans hv
  exact ⟨c 0 _ rfl, c 1 _ rfl, c 2 _ rfl, c 3 _ rfl, c 4 _ rfl, c 5 _ rfl, c 6 _ rfl, c 7 _ rfl, c 8 _ rfl, c 9 _ rfl, c 10 _ rfl, fun o => World.frozen?_alloc_at _ _ _ _ rfl, fun i hi => cell_keep (ts i hi) (bl_alloc (Below.refl _ _)).drew, fun o => (World.frozen?_alloc_past _ _ _ tq).trans (tf o), fun i hi => cell_keep (ms i hi) (bl_alloc (Below.refl _ _)).drew, fun o => (World.frozen?_alloc_past _ _ _ mq).trans (mf o), World.ownsRow_nil _ _ _ _, fun i x hx => by simp at hx, rfl, ot, om, tq, mq, tm, (bl_alloc hb).drew⟩

/-- both orders of what is made -/
theorem begA {d : PlanD} {yb : Nat} {b : QSl} {port : Int} {w : World} (T : TypeId) :
    BegAt d yb b port w (w.heap.size + 1 + 1) w.heap.size (w.heap.size + 1) 0 none 0 [] ((((w.alloc (.cells (madeCells #[Value.bool false] d.heads.n) 4)).alloc (.cells (madeCells #[Value.int .u64 0] d.mta.n) 39)).alloc (.cells #[.pointer (some ⟨yb, 0, none⟩), .slice b.a b.n b.c, .int .u64 port, .slice (some ⟨w.heap.size, 0, none⟩) d.heads.n d.heads.n, .slice none 0 0, .slice (some ⟨w.heap.size + 1, 0, none⟩) d.mta.n d.mta.n, .int .u64 0, .bool false, .bool false, .slice none 0 0, .slice none 0 0] T)).drew) :=
  BegAt.begin (bl_alloc (bl_alloc (Below.refl _ _))) (Nat.le_refl _) (by omega) (by omega) (by omega) (by omega) (by simp) (fun i hi => (World.cell?_alloc_past _ _ _ (by simp)).trans ((World.cell?_alloc_at _ _ _ _ rfl).trans (madeB _ _ hi))) (fun o => (World.frozen?_alloc_past _ _ _ (by simp)).trans (World.frozen?_alloc_at _ _ _ _ rfl)) (fun i hi => (World.cell?_alloc_at _ _ _ _ (by simp)).trans (madeU _ _ hi)) (fun o => World.frozen?_alloc_at _ _ _ _ (by simp)) T
theorem begB {d : PlanD} {yb : Nat} {b : QSl} {port : Int} {w : World} (T : TypeId) :
    BegAt d yb b port w (w.heap.size + 1 + 1) (w.heap.size + 1) w.heap.size 0 none 0 [] ((((w.alloc (.cells (madeCells #[Value.int .u64 0] d.mta.n) 39)).alloc (.cells (madeCells #[Value.bool false] d.heads.n) 4)).alloc (.cells #[.pointer (some ⟨yb, 0, none⟩), .slice b.a b.n b.c, .int .u64 port, .slice (some ⟨w.heap.size + 1, 0, none⟩) d.heads.n d.heads.n, .slice none 0 0, .slice (some ⟨w.heap.size, 0, none⟩) d.mta.n d.mta.n, .int .u64 0, .bool false, .bool false, .slice none 0 0, .slice none 0 0] T)).drew) :=
  BegAt.begin (bl_alloc (bl_alloc (Below.refl _ _))) (by omega) (Nat.le_refl _) (by omega) (by omega) (by omega) (by simp) (fun i hi => (World.cell?_alloc_at _ _ _ _ (by simp)).trans (madeB _ _ hi)) (fun o => World.frozen?_alloc_at _ _ _ _ (by simp)) (fun i hi => (World.cell?_alloc_past _ _ _ (by simp)).trans ((World.cell?_alloc_at _ _ _ _ rfl).trans (madeU _ _ hi))) (fun o => (World.frozen?_alloc_past _ _ _ (by simp)).trans (World.frozen?_alloc_at _ _ _ _ rfl)) T

/-- the place of the numbers, behind an append -/
theorem BegAt.after {d : PlanD} {yb : Nat} {b : QSl} {port : Int} {w : World} {q th mt k : Nat} {va : Option Addr} {vc : Nat} {V : List (Nat × Nat)} {wr w5 w6 : World} (h : BegAt d yb b port w q th mt k va vc V wr) (hb : Below wr.heap.size wr w5) (hg : w5.grownBy w6 (Value.slice va k vc).ownBlock) : w6.cell? ⟨q, 4, none⟩ = some (.slice va k vc) ∧ w6.frozen? ⟨q, 4, none⟩ = false ∧ q < w6.heap.size := by
  have hne : some q ≠ (Value.slice va k vc).ownBlock := fun e => by have := (h.own.lt q e.symm).1; omega
  have hq : q < w5.heap.size := Nat.lt_of_lt_of_le h.ql hb.size
  exact ⟨hg.cell (cell_keep h.c4 hb) hne, (hg.frozen_far ⟨q, 4, none⟩ hq hne).trans ((hb.frozen (p := ⟨q, 4, none⟩) h.ql).trans (h.fq 4)), Nat.lt_of_lt_of_le hq hg.size⟩

theorem src_one {w : World} {v : Value} {T : TypeId} {b : Nat} (hb : b = w.heap.size) : ∀ j u, [v][j]? = some u → (w.alloc (.cells #[v] T)).cell? ((⟨b, 0, none⟩ : Addr).add j) = some u := by
  intro j u hj
  obtain rfl : j = 0 := by
    have := (List.getElem?_eq_some_iff.1 hj).1
    simpa using this
  simp only [List.getElem?_cons_zero, Option.some.injEq] at hj
  subst hj
  subst hb
  exact (World.cell?_alloc_at _ _ _ _ rfl).trans rfl

def BegDone (d : PlanD) (yb : Nat) (b : QSl) (port : Int) (w : World) (e : Ending) (w' : World) : Prop := ∃ q th mt va vc V, e = .returned (.pointer (some ⟨q, 0, none⟩)) ∧ BegAt d yb b port w q th mt d.heads.n va vc V w'

set_option maxHeartbeats 8000000 in
set_option maxRecDepth 20000 in
theorem start_raw (d : PlanD) (yb : Nat) (b : QSl) (port : Int) (w : World) (hl : QRow 1 HeadD.lie w d.heads d.hs) (z0 : w.cell? ⟨yb, 0, none⟩ = some (.slice d.heads.a d.heads.n d.heads.c)) (z1 : w.cell? ⟨yb, 1, none⟩ = some (.slice d.mta.a d.mta.n d.mta.c)) (h6 : d.heads.n ≤ 100) (hm : d.mta.n ≤ 100) (hw : ∀ x ∈ d.hs, x.w.n ≤ 1000) (hp : 0 ≤ port ∧ port < 65536) :
    Calls Try.prog 16 #[.pointer (some ⟨yb, 0, none⟩), .slice b.a b.n b.c, .int .i64 port] w (BegDone d yb b port w) := by
  obtain ⟨i0, hi0, hz0, hz1, hz2⟩ := info_parts Try.infoBool1
  obtain ⟨i1, hi1, hy0, hy1, hy2⟩ := info_parts Try.infoNum
  have hmt : ∀ W : World, (Instr.makeSlice 83 (.int .i64 (d.heads.n : Int)) (.int .i64 (d.heads.n : Int))).run Try.prog W = .ok (.slice (some ⟨W.heap.size, 0, none⟩) d.heads.n d.heads.n) (W.alloc (.cells (madeCells #[Value.bool false] d.heads.n) 4)) := fun W => by
    have h := run_make (P := Try.prog) W 83 4 i0 _ Try.underlying83 hi0 hz0 .i64 .i64 (d.heads.n : Int) (d.heads.n : Int) (by omega) (by omega) (by rw [hz2]; omega) (by omega)
    rw [Int.toNat_natCast, hz1, Nat.mul_one] at h
    exact h
  have hmu : ∀ (n : Nat) (W : World), n ≤ 1000 → (Instr.makeSlice 62 (.int .i64 (n : Int)) (.int .i64 (n : Int))).run Try.prog W = .ok (.slice (some ⟨W.heap.size, 0, none⟩) n n) (W.alloc (.cells (madeCells #[Value.int .u64 0] n) 39)) := fun n W hn => by
    have h := run_make (P := Try.prog) W 62 39 i1 _ Try.underlying62 hi1 hy0 .i64 .i64 (n : Int) (n : Int) (by omega) (by omega) (by rw [hy2]; omega) (by omega)
    rw [Int.toNat_natCast, hy1, Nat.mul_one] at h
    exact h
  have hmm : ∀ W : World, (Instr.makeSlice 62 (.int .i64 (d.mta.n : Int)) (.int .i64 (d.mta.n : Int))).run Try.prog W = .ok (.slice (some ⟨W.heap.size, 0, none⟩) d.mta.n d.mta.n) (W.alloc (.cells (madeCells #[Value.int .u64 0] d.mta.n) 39)) := fun W => hmu _ W (by omega)
  have hpw : IntKind.u64.wrap port = port := by rw [IntKind.wrap_u64]; omega
  have HMU := hid hmu
  have HZ0 := hid z0
  have HL := hid hl
  have HW := hid hw
  have HH6 := hid h6
  have HYB : Hid (yb < w.heap.size) := World.block_lt_of_cell? _ _ z0
  clear hl hw hmu hi0 hz0 hz1 hz2 hi1 hy0 hy1 hy2 hp h6 hm
  go_enter Try.func16, Try.ntmps16
  go_upto_region 1 with fail
  go_cut [7] (fun v7 wx => ∃ q th mt, v7 = .pointer (some ⟨q, 0, none⟩) ∧ Hid (BegAt d yb b port w q th mt 0 none 0 [] wx))
  case first =>
    go_region_held3 (fun w' => w'.cell? ⟨yb, 0, none⟩ = some (.slice d.heads.a d.heads.n d.heads.c) ∧ w'.cell? ⟨yb, 1, none⟩ = some (.slice d.mta.a d.mta.n d.mta.c))
      (first
        | (go_split_ands; with_reducible exact ⟨cell_keep (by assumption) (bl_alloc (Below.refl _ _)), cell_keep (by assumption) (bl_alloc (Below.refl _ _))⟩)
        | (go_split_ands; with_reducible exact ⟨by assumption, by assumption⟩)
        | go_keep)
      (fail)
    · go_wp2_with fail
      go_meet
      exact ⟨_, _, _, rfl, begA 86⟩
    · go_wp2_with fail
      go_meet
      exact ⟨_, _, _, rfl, begB 86⟩
  case rest =>
    obtain ⟨q, th, mt, rfl, HB0⟩ := hcut
    clear hmt hmm hpw z0 z1
    have z0 : wc.cell? ⟨yb, 0, none⟩ = some (.slice d.heads.a d.heads.n d.heads.c) := cell_keep HZ0.out HB0.out.bel
    go_wp2
    go_loopw [8] (fun i wr => ∃ (k : Nat) (va : Option Addr) (vc : Nat) (V : List (Nat × Nat)), k ≤ d.heads.n ∧ i = .int .i64 k ∧ Hid (BegAt d yb b port w q th mt k va vc V wr)) (fun i _ => d.heads.n - (intOf i).toNat)
    case atStart => exact ⟨0, none, 0, [], Nat.zero_le _, rfl, HB0⟩
    case round =>
      obtain ⟨k, va, vc, V, hk, rfl, HB⟩ := hrel
      clear HB0 z0
      have z0 : wr.cell? ⟨yb, 0, none⟩ = some (.slice d.heads.a d.heads.n d.heads.c) := cell_keep HZ0.out HB.out.bel
      obtain ⟨a0, ea0⟩ : ∃ a, d.heads.a = a := ⟨_, rfl⟩
      rw [ea0] at z0
      have EA0 := hid ea0
      clear ea0
      by_cases hlt : k < d.heads.n
      · have hki : (k : Int) < (d.heads.n : Int) := by omega
        obtain ⟨g, off, x, ea, hx, hp⟩ := row_at (HL.out.step HeadD.keeps HB.out.bel) hlt
        obtain rfl : a0 = some ⟨g, off, none⟩ := by rw [← EA0.out]; exact ea
        have c0 := Eq.mp (by rw [Nat.mul_one]) hp.1.1
        have hmx : ∀ W : World, (Instr.makeSlice 62 (.int .i64 (x.w.n : Int)) (.int .i64 (x.w.n : Int))).run Try.prog W = .ok (.slice (some ⟨W.heap.size, 0, none⟩) x.w.n x.w.n) (W.alloc (.cells (madeCells #[Value.int .u64 0] x.w.n) 39)) := fun W => HMU.out _ W (HW.out x (List.mem_of_getElem? hx))
        have HX := hid hx
        have y0 := HB.out.c4
        have yf := HB.out.fq 4
        have hyq := HB.out.ql
        have HK : Hid (k ≤ 100000) := by have := HH6.out; show k ≤ 100000; omega
        have HB5 : Hid (Below wr.heap.size wr (((wr.alloc (.cells (madeCells #[Value.int .u64 0] x.w.n) 39)).alloc (.cells #[.slice (some ⟨wr.heap.size, 0, none⟩) x.w.n x.w.n] 62)).drew)) := (bl_alloc (bl_alloc (Below.refl _ _))).drew
        clear ea hx hp
        go_wp2_with fail
        go_region_law (first
          | (refine pushK Try.underlying84 Try.infoNums1 rfl (by decide) (by decide) rfl _ _ rfl (q + 1) k vc 1 va (V.map rowV) [rowV (wr.heap.size, x.w.n)] ⟨wr.heap.size + 1, 0, none⟩ (by simp [Act.eval]) (by simp [Act.eval]) (owns_belowK HB.out.own HB5.out) rfl (src_one (by simp)) (by intro u hu; simp only [List.mem_cons, List.not_mem_nil, or_false] at hu; subst hu; rfl) HK.out (by have := HB5.out.size; omega) ?_; intro g6 cap6 w6 ho6 hg6 hn6; obtain ⟨y6, yf6, hp6⟩ := HB.out.after HB5.out hg6))
        all_goals
          have RN : Hid (BegAt d yb b port w q th mt (k + 1) (some ⟨g6, 0, none⟩) cap6 (V ++ [(wr.heap.size, x.w.n)]) (w6.setCell ⟨q, 4, none⟩ (.slice (some ⟨g6, 0, none⟩) (k + 1) cap6))) := HB.out.push HX.out HB5.out (by show wr.heap.size < (World.alloc _ _).heap.size; simp; omega) (fun j hj => (World.cell?_alloc_past _ _ _ (by simp)).trans ((World.cell?_alloc_at _ _ _ _ rfl).trans (madeU _ _ hj))) ho6 hg6 hn6
          clear ho6 hg6 hn6 y6 yf6 hp6 y0 yf HB HB5 c0 hmx
          have h100 : d.heads.n ≤ 100 := HH6.out
          go_wp2
          go_roundw
          case rel => exact ⟨k + 1, _, _, _, by omega, by go_num, RN⟩
          case measure => simp [intOf]; omega
      · have hki : ¬ (k : Int) < (d.heads.n : Int) := by omega
        obtain rfl : k = d.heads.n := by omega
        have HR : Hid (BegDone d yb b port w (.returned (.pointer (some ⟨q, 0, none⟩))) wr) := ⟨q, th, mt, va, vc, V, rfl, HB.out⟩
        clear HB
        go_wp2
        go_ret
        exact HR.out
end Go.Proofs.Ytcmdgbfppbkfmaa
