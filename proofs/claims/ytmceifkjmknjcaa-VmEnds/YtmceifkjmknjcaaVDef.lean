/- The machine as it lies, and what it does, in plain numbers. -/
import Derived.Test.YtmceifkjmknjcaaGDef
import Derived.Test.YtmceifkjmknjcaaGRow
import Derived.Test.YtmceifkjmknjcaaXApp
import Derived.Test.YtmceifkjmknjcaaSum
import Derived.Test.YtmceifkjmknjcaaQQuiet
namespace Go.Proofs.Ytmceifkjmknjcaa
open Go.RowKit

/-- what a machine has all the way: its lists, its packet's bytes, its port -/
structure MK where
  sh : QSl
  tb : QSl
  pk : QSl
  zs : List Int
  port : Nat

/-- what it has on its way: registers, slots (number and whether it has one), what went out -/
structure MD where
  rn : Nat → Nat
  rs : Nat → Bool
  sn : Nat → Nat
  ss : Nat → Bool
  out : List Int

def MD.ok (m : MD) : Prop := (∀ i, m.rn i < 18446744073709551616) ∧ ∀ i, m.sn i < 18446744073709551616
def MD.setR (m : MD) (i n : Nat) : MD := { m with rn := fun j => if j = i then n else m.rn j, rs := fun j => if j = i then true else m.rs j }
def MD.setS (m : MD) (i n : Nat) (s : Bool) : MD := { m with sn := fun j => if j = i then n else m.sn j, ss := fun j => if j = i then s else m.ss j }
def MD.send (m : MD) (l : List Int) : MD := { m with out := m.out ++ l }

theorem MD.ok.setR {m : MD} (h : m.ok) {i n : Nat} (hn : n < 18446744073709551616) : (m.setR i n).ok := ⟨fun j => by
  show (if j = i then n else m.rn j) < _
  split
  · exact hn
  · exact h.1 j, h.2⟩
theorem MD.ok.setS {m : MD} (h : m.ok) {i n : Nat} {s : Bool} (hn : n < 18446744073709551616) : (m.setS i n s).ok := ⟨h.1, fun j => by
  show (if j = i then n else m.sn j) < _
  split
  · exact hn
  · exact h.2 j⟩
theorem MD.ok.send {m : MD} (h : m.ok) (l : List Int) : (m.send l).ok := ⟨h.1, h.2⟩

/-- the machine at block b; all that was in W lies as it lay -/
structure MAt (W : World) (b : Nat) (k : MK) (m : MD) (w : World) : Prop where
  rn : ∀ i, i < 10 → w.cell? ⟨b, i * 2, none⟩ = some (.int .u64 (m.rn i : Int))
  rs : ∀ i, i < 10 → w.cell? ⟨b, i * 2 + 1, none⟩ = some (.bool (m.rs i))
  sn : ∀ i, i < 96 → w.cell? ⟨b, 20 + i * 2, none⟩ = some (.int .u64 (m.sn i : Int))
  ss : ∀ i, i < 96 → w.cell? ⟨b, 20 + i * 2 + 1, none⟩ = some (.bool (m.ss i))
  c0 : w.cell? ⟨b, 212, none⟩ = some (.slice k.sh.a k.sh.n k.sh.c)
  c1 : w.cell? ⟨b, 213, none⟩ = some (.slice k.tb.a k.tb.n k.tb.c)
  c2 : w.cell? ⟨b, 214, none⟩ = some (.slice k.pk.a k.pk.n k.pk.c)
  c3 : w.cell? ⟨b, 215, none⟩ = some (.int .u64 (k.port : Int))
  ow : ∃ v, w.cell? ⟨b, 216, none⟩ = some v ∧ w.ownsRow W.heap.size 5 1 v m.out.length (BB m.out)
  ty : ∃ cs, w.heap[b]? = some (.cells cs 48 (0, 0))
  low : W.heap.size ≤ b
  bel : Below W.heap.size W w
  ok : m.ok
  byt : GByt m.out

theorem MAt.lt {W : World} {b : Nat} {k : MK} {m : MD} {w : World} (h : MAt W b k m w) : b < w.heap.size := by
  obtain ⟨cs, e⟩ := h.ty
  exact (Array.getElem?_eq_some_iff.1 e).1
theorem MAt.fz {W : World} {b : Nat} {k : MK} {m : MD} {w : World} (h : MAt W b k m w) (o : Nat) : w.frozen? ⟨b, o, none⟩ = false := by
  obtain ⟨cs, e⟩ := h.ty
  simp [World.frozen?, e]

theorem MAt.step {W : World} {b : Nat} {k : MK} {m : MD} {w w' : World} (h : MAt W b k m w) (hb : Below w.heap.size w w') : MAt W b k m w' := by
  obtain ⟨a, h1, h2⟩ := h.ow
  obtain ⟨cs, h3⟩ := h.ty
  exact ⟨fun i hi => cell_keep (h.rn i hi) hb, fun i hi => cell_keep (h.rs i hi) hb, fun i hi => cell_keep (h.sn i hi) hb, fun i hi => cell_keep (h.ss i hi) hb, cell_keep h.c0 hb, cell_keep h.c1 hb, cell_keep h.c2 hb, cell_keep h.c3 hb, ⟨a, cell_keep h1 hb, gowns_below h2 hb⟩, ⟨cs, (hb.block b h.lt).trans h3⟩, h.low, bl_step h.bel hb, h.ok, h.byt⟩

theorem vother {w : World} {b o p : Nat} {v u : Value} (hne : o ≠ p) (h : w.cell? ⟨b, o, none⟩ = some u) : (w.setCell ⟨b, p, none⟩ v).cell? ⟨b, o, none⟩ = some u :=
  (World.cell?_setCell_other _ _ _ _ (by intro e; simp only [Addr.mk.injEq] at e; omega)).trans h
theorem vself {w : World} {b p : Nat} {v u : Value} (h : w.cell? ⟨b, p, none⟩ = some u) : (w.setCell ⟨b, p, none⟩ v).cell? ⟨b, p, none⟩ = some v := World.cell?_setCell_same _ _ _ h
theorem vheap {w : World} {b p : Nat} {v : Value} {T : TypeId} (h : ∃ cs, w.heap[b]? = some (.cells cs T (0, 0))) : ∃ cs, (w.setCell ⟨b, p, none⟩ v).heap[b]? = some (.cells cs T (0, 0)) := by
  obtain ⟨cs, h⟩ := h
  exact ⟨cs.set! p v, by simp [World.setCell, Array.getElem?_modify, h]⟩
theorem own_blk {w : World} {B n : Nat} {u : Value} {xs : List Value} (h : w.ownsRow B 5 1 u n xs) {k : Nat} (hk : u.ownBlock = some k) : B ≤ k ∧ ∃ cur, w.heap[k]? = some (.cells cur 5 (0, 0)) := by
  rcases h.2 with ⟨e, _⟩ | ⟨g, cap, cur, e, hb, hh, _⟩
  · rw [e] at hk; simp [Value.ownBlock] at hk
  · rw [e] at hk
    simp only [Value.ownBlock, Option.some.injEq] at hk
    subst hk
    exact ⟨hb, cur, hh⟩
theorem own_far {w : World} {b B n : Nat} {u : Value} {xs : List Value} (h : w.ownsRow B 5 1 u n xs) {cs : Array Value} (ht : w.heap[b]? = some (.cells cs 48 (0, 0))) : u.ownBlock ≠ some b := fun e => by
  obtain ⟨_, cur, hh⟩ := own_blk h e
  rw [ht] at hh
  simp only [Option.some.injEq, Obj.cells.injEq] at hh
  exact absurd hh.2.1 (by decide)
theorem vrow {w : World} {b p B n : Nat} {v u : Value} {xs : List Value} (h : w.ownsRow B 5 1 u n xs) (ht : ∃ cs, w.heap[b]? = some (.cells cs 48 (0, 0))) : (w.setCell ⟨b, p, none⟩ v).ownsRow B 5 1 u n xs := by
  obtain ⟨cs, ht⟩ := ht
  exact ownsRow_setCell_other h (own_far h ht) v

theorem MAt.putR {W : World} {b : Nat} {k : MK} {m : MD} {w : World} (h : MAt W b k m w) {i n : Nat} (hi : i < 10) (hn : n < 18446744073709551616) :
    MAt W b k (m.setR i n) ((w.setCell ⟨b, i * 2, none⟩ (.int .u64 (n : Int))).setCell ⟨b, i * 2 + 1, none⟩ (.bool true)) := by
  obtain ⟨a, h1, h2⟩ := h.ow
  refine ⟨fun j hj => ?_, fun j hj => ?_, fun j hj => ?_, fun j hj => ?_, ?_, ?_, ?_, ?_, ⟨a, ?_, ?_⟩, vheap (vheap h.ty), h.low, (h.bel.setCell (p := ⟨b, i * 2, none⟩) h.low _).setCell (p := ⟨b, i * 2 + 1, none⟩) h.low _, h.ok.setR hn, h.byt⟩
  · by_cases e : j = i
    · subst e
      have := vother (v := .bool true) (show j * 2 ≠ j * 2 + 1 by omega) (vself (v := .int .u64 (n : Int)) (h.rn j hj))
      simpa [MD.setR] using this
    · have := vother (v := .bool true) (show j * 2 ≠ i * 2 + 1 by omega) (vother (v := .int .u64 (n : Int)) (show j * 2 ≠ i * 2 by omega) (h.rn j hj))
      simpa [MD.setR, e] using this
  · by_cases e : j = i
    · subst e
      have := vself (v := .bool true) (vother (v := .int .u64 (n : Int)) (show j * 2 + 1 ≠ j * 2 by omega) (h.rs j hj))
      simpa [MD.setR] using this
    · have := vother (v := .bool true) (show j * 2 + 1 ≠ i * 2 + 1 by omega) (vother (v := .int .u64 (n : Int)) (show j * 2 + 1 ≠ i * 2 by omega) (h.rs j hj))
      simpa [MD.setR, e] using this
  · exact vother (by omega) (vother (by omega) (h.sn j hj))
  · exact vother (by omega) (vother (by omega) (h.ss j hj))
  · exact vother (by omega) (vother (by omega) h.c0)
  · exact vother (by omega) (vother (by omega) h.c1)
  · exact vother (by omega) (vother (by omega) h.c2)
  · exact vother (by omega) (vother (by omega) h.c3)
  · exact vother (by omega) (vother (by omega) h1)
  · exact vrow (vrow h2 h.ty) (vheap h.ty)

theorem MAt.putS {W : World} {b : Nat} {k : MK} {m : MD} {w : World} (h : MAt W b k m w) {i n : Nat} {s : Bool} (hi : i < 96) (hn : n < 18446744073709551616) :
    MAt W b k (m.setS i n s) ((w.setCell ⟨b, 20 + i * 2, none⟩ (.int .u64 (n : Int))).setCell ⟨b, 20 + i * 2 + 1, none⟩ (.bool s)) := by
  obtain ⟨a, h1, h2⟩ := h.ow
  refine ⟨fun j hj => ?_, fun j hj => ?_, fun j hj => ?_, fun j hj => ?_, ?_, ?_, ?_, ?_, ⟨a, ?_, ?_⟩, vheap (vheap h.ty), h.low, (h.bel.setCell (p := ⟨b, 20 + i * 2, none⟩) h.low _).setCell (p := ⟨b, 20 + i * 2 + 1, none⟩) h.low _, h.ok.setS hn, h.byt⟩
  · exact vother (by omega) (vother (by omega) (h.rn j hj))
  · exact vother (by omega) (vother (by omega) (h.rs j hj))
  · by_cases e : j = i
    · subst e
      have := vother (v := .bool s) (show 20 + j * 2 ≠ 20 + j * 2 + 1 by omega) (vself (v := .int .u64 (n : Int)) (h.sn j hj))
      simpa [MD.setS] using this
    · have := vother (v := .bool s) (show 20 + j * 2 ≠ 20 + i * 2 + 1 by omega) (vother (v := .int .u64 (n : Int)) (show 20 + j * 2 ≠ 20 + i * 2 by omega) (h.sn j hj))
      simpa [MD.setS, e] using this
  · by_cases e : j = i
    · subst e
      have := vself (v := .bool s) (vother (v := .int .u64 (n : Int)) (show 20 + j * 2 + 1 ≠ 20 + j * 2 by omega) (h.ss j hj))
      simpa [MD.setS] using this
    · have := vother (v := .bool s) (show 20 + j * 2 + 1 ≠ 20 + i * 2 + 1 by omega) (vother (v := .int .u64 (n : Int)) (show 20 + j * 2 + 1 ≠ 20 + i * 2 by omega) (h.ss j hj))
      simpa [MD.setS, e] using this
  · exact vother (by omega) (vother (by omega) h.c0)
  · exact vother (by omega) (vother (by omega) h.c1)
  · exact vother (by omega) (vother (by omega) h.c2)
  · exact vother (by omega) (vother (by omega) h.c3)
  · exact vother (by omega) (vother (by omega) h1)
  · exact vrow (vrow h2 h.ty) (vheap h.ty)
end Go.Proofs.Ytmceifkjmknjcaa
