/- Texts of one chain, joined: HNeeds, HBd0, HBs, HGf1. -/
import Derived.Test.YtmohffibkpecpaaJ3
import Derived.Test.YtmohffibkpecpaaJ5
import Derived.Test.YtmohffibkpecpaaJB
import Derived.Test.YtmohffibkpecpaaJ1
namespace Go.Proofs.Ytmohffibkpecpaa
open Go.RowKit

/-- which registers an instruction uses -/
def needsL (x : InsD) : List Int := if x.op = 2 ∨ x.op = 6 then [x.s] else if x.op = 3 ∨ x.op = 5 ∨ x.op = 10 ∨ x.op = 11 then [x.r, x.s] else if x.op = 4 ∨ x.op = 8 ∨ x.op = 9 ∨ x.op = 14 ∨ x.op = 15 ∨ x.op = 16 then [x.r] else []
def NeedIs (l : List Int) (w : World) (e : Ending) (w' : World) : Prop := ∃ a c, e = .returned (.slice a l.length c) ∧ (∀ i z, l[i]? = some z → ∃ g, a = some ⟨g, 0, none⟩ ∧ w'.cell? ⟨g, i, none⟩ = some (.int .i64 z)) ∧ Below w.heap.size w w'

set_option maxHeartbeats 2000000 in
set_option maxRecDepth 20000 in
theorem rneeds (x : InsD) (hop : 1 ≤ x.op ∧ x.op ≤ 18) (w : World) : Calls Try.prog 27 #[x.v] w (NeedIs (needsL x) w) := by
  obtain ⟨op, r, s, k, tt, n⟩ := x
  dsimp only at hop
  have H1 : Hid (∀ z o, NeedIs [z] w (.returned (.slice (some ⟨w.heap.size + 1, 0, none⟩) 1 1)) ((w.alloc o).alloc (.cells #[.int .i64 z] 3))) := fun z o => ⟨_, 1, rfl, fun i y hy => by
    cases i with
    | zero =>
      simp only [List.getElem?_cons_zero, Option.some.injEq] at hy
      subst hy
      exact ⟨w.heap.size + 1, rfl, by simp⟩
    | succ i => simp at hy, bl_alloc (bl_alloc (Below.refl _ _))⟩
  have H2 : Hid (∀ z y o, NeedIs [z, y] w (.returned (.slice (some ⟨w.heap.size + 1, 0, none⟩) 2 2)) ((w.alloc o).alloc (.cells #[.int .i64 z, .int .i64 y] 3))) := fun z y o => ⟨_, 2, rfl, fun i v hv => by
    match i with
    | 0 =>
      simp only [List.getElem?_cons_zero, Option.some.injEq] at hv
      subst hv
      exact ⟨w.heap.size + 1, rfl, by simp⟩
    | 1 =>
      simp only [List.getElem?_cons_succ, List.getElem?_cons_zero, Option.some.injEq] at hv
      subst hv
      exact ⟨w.heap.size + 1, rfl, by simp⟩
    | i + 2 => simp at hv, bl_alloc (bl_alloc (Below.refl _ _))⟩
  have H0 : Hid (∀ o, NeedIs [] w (.returned (.slice none 0 0)) (w.alloc o)) := fun o => ⟨_, 0, rfl, fun i y hy => by simp at hy, bl_alloc (Below.refl _ _)⟩
  dsimp only [InsD.v]
  rcases op18 hop with rfl | rfl | rfl | rfl | rfl | rfl | rfl | rfl | rfl | rfl | rfl | rfl | rfl | rfl | rfl | rfl | rfl | rfl
  all_goals
    go_enter Try.func27, Try.ntmps27
    go_wp2
    go_ret
    first
      | exact H0.out _
      | exact H1.out _ _
      | exact H2.out _ _ _
end Go.Proofs.Ytmohffibkpecpaa

namespace Go.Proofs.Ytmohffibkpecpaa
open Go.RowKit

/-- what is known behind an instruction, but for IRoom, which comes later -/
def bhD (ts : List ShapeD) (s : SD) (x : InsD) : SD := if x.op = 9 then s else behindD ts s x
def BhIs (S : Nat) (ts : List ShapeD) (x : InsD) (s : SD) (w : World) (e : Ending) (w' : World) : Prop := ∃ q N, e = .returned (.tuple #[KV.v true q, .int .i64 (wrongD ts s x)]) ∧ (wrongD ts s x = 0 → KOwn w.heap.size S q (bhD ts s x) N w') ∧ Below w.heap.size w w'

/-- the four boxes of behind, at any world behind -/
structure BdAt (W : World) (d : ProgD) (x : InsD) (pb ib kb rb : Nat) (kv : Array Value) (w : World) : Prop where
  p : BoxC w pb #[.int .i64 d.slots, .slice d.tabs.a d.tabs.n d.tabs.c, .slice d.code.a d.code.n d.code.c] 25
  i : BoxC w ib #[.int .i64 x.op, .int .i64 x.r, .int .i64 x.s, .int .i64 x.k, .int .i64 x.to, .int .u64 x.n] 35
  k : BoxC w kb kv 54
  r : BoxC w rb zeroK 54
  bel : Below W.heap.size W w
theorem BdAt.step {W : World} {d : ProgD} {x : InsD} {pb ib kb rb : Nat} {kv : Array Value} {w w' : World} (h : BdAt W d x pb ib kb rb kv w) (b : Below w.heap.size w w') : BdAt W d x pb ib kb rb kv w' := ⟨h.p.step b, h.i.step b, h.k.step b, h.r.step b, bl_step h.bel b⟩

/-- the same store at both ends -/
theorem bl_both {w w' : World} (h : Below w.heap.size w w') (p : Addr) (v : Value) : Below (w.setCell p v).heap.size (w.setCell p v) (w'.setCell p v) := by
  refine ⟨h.os, h.tape, h.output, by simpa [World.setCell] using h.size, fun k hk => ?_⟩
  have hk' : k < w.heap.size := by simpa [World.setCell] using hk
  simp only [World.setCell, Array.getElem?_modify]
  rw [h.block k hk']
theorem KOwn.low {b b' S : Nat} {q : KV} {s : SD} {N : Nat → Nat} {w : World} (h : KOwn b S q s N w) (hb : b' ≤ b) : KOwn b' S q s N w := ⟨⟨h.1.st, h.1.ju, h.1.nu, h.1.ro, h.1.sl, h.1.a1, h.1.a2, fun g hg => ⟨Nat.le_trans hb (h.1.lo g hg).1, (h.1.lo g hg).2⟩⟩, h.2⟩

theorem needs_ready {s : SD} {x : InsD} : (∀ z ∈ needsL x, (s.reg z.toNat).set = true) ↔ readyD s x = true := by
  unfold needsL readyD
  split
  · simp
  split
  · simp
  split
  · simp
  · simp
theorem needs_in {x : InsD} (hr : 0 ≤ x.r ∧ x.r < 10) (hs : x.op ≠ 13 → 0 ≤ x.s ∧ x.s < 10) : ∀ z ∈ needsL x, 0 ≤ z ∧ z < 10 := by
  intro z hz
  unfold needsL at hz
  split at hz
  · rw [List.mem_singleton.1 hz]; exact hs (by omega)
  split at hz
  · simp only [List.mem_cons, List.not_mem_nil, or_false] at hz
    rcases hz with rfl | rfl
    · exact hr
    · exact hs (by omega)
  split at hz
  · rw [List.mem_singleton.1 hz]; exact hr
  · simp at hz
theorem needs_len (x : InsD) : (needsL x).length ≤ 2 := by
  unfold needsL
  split
  · simp
  split
  · simp
  split
  · simp
  · simp
end Go.Proofs.Ytmohffibkpecpaa

namespace Go.Proofs.Ytmohffibkpecpaa
open Go.RowKit

theorem BdAt.off {W : World} {d : ProgD} {x : InsD} {pb ib kb rb : Nat} {kv : Array Value} {w : World} (h : BdAt W d x pb ib kb rb kv w) {g : Nat} {cur : Array Value} {T : TypeId} (hg : w.heap[g]? = some (.cells cur T (0, 0))) (h1 : T ≠ 25) (h2 : T ≠ 35) (h3 : T ≠ 54) (hlo : W.heap.size ≤ g) (o : Nat) (v : Value) : BdAt W d x pb ib kb rb kv (w.setCell ⟨g, o, none⟩ v) := by
  have key : ∀ {b : Nat} {cs : Array Value} {T' : TypeId}, BoxC w b cs T' → T ≠ T' → ¬ g = b := fun {b cs T'} hb hT e => by
    have hb' : w.heap[b]? = some (.cells cs T' (0, 0)) := hb
    rw [← e, hg] at hb'
    simp only [Option.some.injEq, Obj.cells.injEq] at hb'
    exact hT hb'.2.1
  exact ⟨h.p.far (key h.p h1) o v, h.i.far (key h.i h2) o v, h.k.far (key h.k h3) o v, h.r.far (key h.r h3) o v, hput1 h.bel hlo o v⟩

/-- the boxes, and what is known, at its own blocks -/
structure BdK (w : World) (d : ProgD) (x : InsD) (pb ib kb rb S : Nat) (q : KV) (A B : Nat → Bool) (N : Nat → Nat) (Z : Nat → Int) (L : Nat → Bool) (W : World) : Prop where
  a : BdAt w d x pb ib kb rb (kvA true q) W
  k : KRaw w.heap.size S q A B N Z L W

variable {w : World} {d : ProgD} {x : InsD} {pb ib kb rb S : Nat} {q : KV} {A B : Nat → Bool} {N : Nat → Nat} {Z : Nat → Int} {L : Nat → Bool} {W : World} {g1 g2 g3 g4 : Nat}
theorem BdK.step {W' : World} (h : BdK w d x pb ib kb rb S q A B N Z L W) (b : Below W.heap.size W W') : BdK w d x pb ib kb rb S q A B N Z L W' := ⟨h.a.step b, h.k.step b⟩
theorem BdK.congr {A' B' : Nat → Bool} {N' : Nat → Nat} {Z' : Nat → Int} {L' : Nat → Bool} (h : BdK w d x pb ib kb rb S q A B N Z L W) (e1 : ∀ i, A i = A' i) (e2 : ∀ i, B i = B' i) (e0 : ∀ i, N i = N' i) (e3 : ∀ i, Z i = Z' i) (e4 : ∀ i, L i = L' i) : BdK w d x pb ib kb rb S q A' B' N' Z' L' W := ⟨h.a, h.k.congrN e1 e2 e0 e3 e4⟩
theorem BdK.putA (h : BdK w d x pb ib kb rb S q A B N Z L W) (k : KAt q w.heap.size g1 g2 g3 g4) {i : Nat} (hi : i < 10) (b : Bool) : BdK w d x pb ib kb rb S q (fun j => if j = i then b else A j) B N Z L (W.setCell ⟨g1, i, none⟩ (.bool b)) := by
  obtain ⟨g, e, _, cur, hh⟩ := h.k.st.block (by omega)
  rw [k.e1] at e
  cases e
  exact ⟨h.a.off hh (by decide) (by decide) (by decide) k.b1 _ _, h.k.putA k.e1 hi b⟩
theorem BdK.putB (h : BdK w d x pb ib kb rb S q A B N Z L W) (k : KAt q w.heap.size g1 g2 g3 g4) {i : Nat} (hi : i < 10) (b : Bool) : BdK w d x pb ib kb rb S q A (fun j => if j = i then b else B j) N Z L (W.setCell ⟨g2, i, none⟩ (.bool b)) := by
  obtain ⟨g, e, _, cur, hh⟩ := h.k.ju.block (by omega)
  rw [k.e2] at e
  cases e
  exact ⟨h.a.off hh (by decide) (by decide) (by decide) k.b2 _ _, h.k.putB k.e2 hi b⟩
theorem BdK.putN (h : BdK w d x pb ib kb rb S q A B N Z L W) (k : KAt q w.heap.size g1 g2 g3 g4) {i : Nat} (hi : i < 10) (b : Nat) : BdK w d x pb ib kb rb S q A B (fun j => if j = i then b else N j) Z L (W.setCell ⟨g3, i, none⟩ (.int .u64 (b : Int))) := by
  obtain ⟨g, e, _, cur, hh⟩ := h.k.nu.block (by omega)
  rw [k.e3] at e
  cases e
  exact ⟨h.a.off hh (by decide) (by decide) (by decide) k.b3 _ _, h.k.putN k.e3 hi b⟩
theorem BdK.putZ (h : BdK w d x pb ib kb rb S q A B N Z L W) (k : KAt q w.heap.size g1 g2 g3 g4) {i : Nat} (hi : i < 10) (b : Int) : BdK w d x pb ib kb rb S q A B N (fun j => if j = i then b else Z j) L (W.setCell ⟨g4, i, none⟩ (.int .i64 b)) := by
  obtain ⟨g, e, _, cur, hh⟩ := h.k.ro.block (by omega)
  rw [k.e4] at e
  cases e
  exact ⟨h.a.off hh (by decide) (by decide) (by decide) k.b4 _ _, h.k.putZ k.e4 hi b⟩
theorem BdK.putL (h : BdK w d x pb ib kb rb S q A B N Z L W) {g5 : Nat} (e5 : q.sl.a = some ⟨g5, 0, none⟩) {i : Nat} (hi : i < S) (b : Bool) : BdK w d x pb ib kb rb S q A B N Z (fun j => if j = i then b else L j) (W.setCell ⟨g5, i, none⟩ (.bool b)) := by
  obtain ⟨g, e, hb, cur, hh⟩ := h.k.sl.block (by omega)
  rw [e5] at e
  cases e
  exact ⟨h.a.off hh (by decide) (by decide) (by decide) (h.k.lo _ (.inr (.inr (.inr (.inr hb))))).1 _ _, h.k.putL e5 hi b⟩
/-- k is stored whole, as it was -/
theorem BdK.again (h : BdK w d x pb ib kb rb S q A B N Z L W) (h1 : ¬ kb = ib) (h2 : ¬ kb = pb) (h3 : ¬ kb = rb) (hw : w.heap.size ≤ kb) : BdK w d x pb ib kb rb S q A B N Z L ((((((W.setCell ⟨kb, 0, none⟩ (.bool true)).setCell ⟨kb, 1, none⟩ (.slice q.st.a q.st.n q.st.c)).setCell ⟨kb, 2, none⟩ (.slice q.ju.a q.ju.n q.ju.c)).setCell ⟨kb, 3, none⟩ (.slice q.nu.a q.nu.n q.nu.c)).setCell ⟨kb, 4, none⟩ (.slice q.ro.a q.ro.n q.ro.c)).setCell ⟨kb, 5, none⟩ (.slice q.sl.a q.sl.n q.sl.c)) := by
  have c0 := h.a.k
  have c1 := c0.put 0 (.bool true)
  have c2 := c1.put 1 (.slice q.st.a q.st.n q.st.c)
  have c3 := c2.put 2 (.slice q.ju.a q.ju.n q.ju.c)
  have c4 := c3.put 3 (.slice q.nu.a q.nu.n q.nu.c)
  have c5 := c4.put 4 (.slice q.ro.a q.ro.n q.ro.c)
  exact ⟨⟨(((((h.a.p.far h2 _ _).far h2 _ _).far h2 _ _).far h2 _ _).far h2 _ _).far h2 _ _, (((((h.a.i.far h1 _ _).far h1 _ _).far h1 _ _).far h1 _ _).far h1 _ _).far h1 _ _, c5.put 5 _, (((((h.a.r.far h3 _ _).far h3 _ _).far h3 _ _).far h3 _ _).far h3 _ _).far h3 _ _, hput1 (hput1 (hput1 (hput1 (hput1 (hput1 h.a.bel hw _ _) hw _ _) hw _ _) hw _ _) hw _ _) hw _ _⟩, (((((h.k.off c0 _ _).off c1 _ _).off c2 _ _).off c3 _ _).off c4 _ _).off c5 _ _⟩
theorem BdK.k1 (h : BdK w d x pb ib kb rb S q A B N Z L W) (k : KAt q w.heap.size g1 g2 g3 g4) : W.cell? ⟨kb, 1, none⟩ = some (.slice (some ⟨g1, 0, none⟩) 10 q.st.c) := by
  rw [← k.e1, ← k.n1]; exact h.a.k.cell 1
theorem BdK.k2 (h : BdK w d x pb ib kb rb S q A B N Z L W) (k : KAt q w.heap.size g1 g2 g3 g4) : W.cell? ⟨kb, 2, none⟩ = some (.slice (some ⟨g2, 0, none⟩) 10 q.ju.c) := by
  rw [← k.e2, ← k.n2]; exact h.a.k.cell 2
theorem BdK.k3 (h : BdK w d x pb ib kb rb S q A B N Z L W) (k : KAt q w.heap.size g1 g2 g3 g4) : W.cell? ⟨kb, 3, none⟩ = some (.slice (some ⟨g3, 0, none⟩) 10 q.nu.c) := by
  rw [← k.e3, ← k.n3]; exact h.a.k.cell 3
theorem BdK.k4 (h : BdK w d x pb ib kb rb S q A B N Z L W) (k : KAt q w.heap.size g1 g2 g3 g4) : W.cell? ⟨kb, 4, none⟩ = some (.slice (some ⟨g4, 0, none⟩) 10 q.ro.c) := by
  rw [← k.e4, ← k.n4]; exact h.a.k.cell 4
theorem BdK.i1 (h : BdK w d x pb ib kb rb S q A B N Z L W) {r : Nat} (hr : x.r = r) : W.cell? ⟨ib, 1, none⟩ = some (.int .i64 (r : Int)) := by rw [← hr]; exact h.a.i.cell 1
theorem BdK.i2 (h : BdK w d x pb ib kb rb S q A B N Z L W) {r : Nat} (hr : x.s = r) : W.cell? ⟨ib, 2, none⟩ = some (.int .i64 (r : Int)) := by rw [← hr]; exact h.a.i.cell 2
theorem BdK.i5 (h : BdK w d x pb ib kb rb S q A B N Z L W) {r : Nat} (hr : x.n = r) : W.cell? ⟨ib, 5, none⟩ = some (.int .u64 (r : Int)) := by rw [← hr]; exact h.a.i.cell 5

/-- what is told at the end -/
theorem bd_end {s s' : SD} (h : BdK w d x pb ib kb rb S q (fun i => (s'.reg i).set) (fun i => (s'.reg i).just.isSome) N (fun i => roomZ (s'.reg i).room) s'.slot W) (hN : numOk s' N) (ewr : wrongD d.ts s x = 0) (ebh : bhD d.ts s x = s') (hrb : w.heap.size ≤ rb) (u0 u1 u2 u3 u4 u5 : Value) :
    BhIs S d.ts x s w (.returned (.tuple #[KV.v true q, .int .i64 0])) ((((((W.setCell ⟨rb, 0, none⟩ u0).setCell ⟨rb, 1, none⟩ u1).setCell ⟨rb, 2, none⟩ u2).setCell ⟨rb, 3, none⟩ u3).setCell ⟨rb, 4, none⟩ u4).setCell ⟨rb, 5, none⟩ u5) := by
  have r0 := h.a.r
  have r1 := r0.put 0 u0
  have r2 := r1.put 1 u1
  have r3 := r2.put 2 u2
  have r4 := r3.put 3 u3
  have r5 := r4.put 4 u4
  exact ⟨q, N, by rw [ewr], fun _ => by rw [ebh]; exact ⟨(((((h.k.off r0 _ _).off r1 _ _).off r2 _ _).off r3 _ _).off r4 _ _).off r5 _ _, hN⟩, hput1 (hput1 (hput1 (hput1 (hput1 (hput1 h.a.bel hrb _ _) hrb _ _) hrb _ _) hrb _ _) hrb _ _) hrb _ _⟩
end Go.Proofs.Ytmohffibkpecpaa

namespace Go.Proofs.Ytmohffibkpecpaa
open Go.RowKit

def KBlk (q : KV) (g : Nat) : Prop := q.st.v.ownBlock = some g ∨ q.ju.v.ownBlock = some g ∨ q.nu.v.ownBlock = some g ∨ q.ro.v.ownBlock = some g ∨ q.sl.v.ownBlock = some g
@[reducible] def set6 (W : World) (b o : Nat) (v0 v1 v2 v3 v4 v5 : Value) : World := (((((W.setCell ⟨b, o, none⟩ v0).setCell ⟨b, o + 1, none⟩ v1).setCell ⟨b, o + 2, none⟩ v2).setCell ⟨b, o + 3, none⟩ v3).setCell ⟨b, o + 4, none⟩ v4).setCell ⟨b, o + 5, none⟩ v5

theorem cellO {W : World} {b o o' : Nat} {u v : Value} (h : W.cell? ⟨b, o, none⟩ = some v) (hne : o ≠ o') : (W.setCell ⟨b, o', none⟩ u).cell? ⟨b, o, none⟩ = some v := (World.cell?_setCell_other _ _ _ _ (by intro e; simp only [Addr.mk.injEq] at e; exact hne e.2.1.symm)).trans h
theorem cellS {W : World} {b o : Nat} {u v : Value} (h : W.cell? ⟨b, o, none⟩ = some v) : (W.setCell ⟨b, o, none⟩ u).cell? ⟨b, o, none⟩ = some u := World.cell?_setCell_same _ _ _ h
theorem set6_off {W : World} {b o p : Nat} {v0 v1 v2 v3 v4 v5 v : Value} (h : W.cell? ⟨b, p, none⟩ = some v) (hp : p < o ∨ o + 6 ≤ p) : (set6 W b o v0 v1 v2 v3 v4 v5).cell? ⟨b, p, none⟩ = some v :=
  cellO (cellO (cellO (cellO (cellO (cellO h (by omega)) (by omega)) (by omega)) (by omega)) (by omega)) (by omega)
theorem set6_at {W : World} {b o : Nat} {v0 v1 v2 v3 v4 v5 : Value} (h : ∀ f, f < 6 → ∃ v, W.cell? ⟨b, o + f, none⟩ = some v) : ∀ f v, (#[v0, v1, v2, v3, v4, v5] : Array Value)[f]? = some v → (set6 W b o v0 v1 v2 v3 v4 v5).cell? ⟨b, o + f, none⟩ = some v := by
  obtain ⟨a0, h0⟩ := h 0 (by omega)
  obtain ⟨a1, h1⟩ := h 1 (by omega)
  obtain ⟨a2, h2⟩ := h 2 (by omega)
  obtain ⟨a3, h3⟩ := h 3 (by omega)
  obtain ⟨a4, h4⟩ := h 4 (by omega)
  obtain ⟨a5, h5⟩ := h 5 (by omega)
  rw [Nat.add_zero] at h0
  intro f v hv
  have hf : f < 6 := by have := (Array.getElem?_eq_some_iff.1 hv).1; simpa using this
  rcases (show f = 0 ∨ f = 1 ∨ f = 2 ∨ f = 3 ∨ f = 4 ∨ f = 5 by omega) with rfl | rfl | rfl | rfl | rfl | rfl
  · cases hv; exact cellO (cellO (cellO (cellO (cellO (cellS h0) (by omega)) (by omega)) (by omega)) (by omega)) (by omega)
  · cases hv; exact cellO (cellO (cellO (cellO (cellS (cellO h1 (by omega))) (by omega)) (by omega)) (by omega)) (by omega)
  · cases hv; exact cellO (cellO (cellO (cellS (cellO (cellO h2 (by omega)) (by omega))) (by omega)) (by omega)) (by omega)
  · cases hv; exact cellO (cellO (cellS (cellO (cellO (cellO h3 (by omega)) (by omega)) (by omega))) (by omega)) (by omega)
  · cases hv; exact cellO (cellS (cellO (cellO (cellO (cellO h4 (by omega)) (by omega)) (by omega)) (by omega))) (by omega)
  · cases hv; exact cellS (cellO (cellO (cellO (cellO (cellO h5 (by omega)) (by omega)) (by omega)) (by omega)) (by omega))
theorem set6_box {W : World} {b o : Nat} {v0 v1 v2 v3 v4 v5 : Value} {T : TypeId} (h : ∃ cs, BoxC W b cs T) : ∃ cs, BoxC (set6 W b o v0 v1 v2 v3 v4 v5) b cs T := by
  obtain ⟨cs, h⟩ := h
  exact ⟨_, (((((h.put _ _).put _ _).put _ _).put _ _).put _ _).put _ _⟩
theorem set6_krw {W : World} {b o : Nat} {v0 v1 v2 v3 v4 v5 : Value} (h : ∃ cs, BoxC W b cs 54) {base S : Nat} {q : KV} {A B : Nat → Bool} {N : Nat → Nat} {Z : Nat → Int} {L : Nat → Bool} (k : KRaw base S q A B N Z L W) : KRaw base S q A B N Z L (set6 W b o v0 v1 v2 v3 v4 v5) := by
  obtain ⟨cs, c0⟩ := h
  have c1 := c0.put o v0
  have c2 := c1.put (o + 1) v1
  have c3 := c2.put (o + 2) v2
  have c4 := c3.put (o + 3) v3
  have c5 := c4.put (o + 4) v4
  exact (((((k.off c0 _ _).off c1 _ _).off c2 _ _).off c3 _ _).off c4 _ _).off c5 _ _
theorem set6_far {W : World} {b o b' : Nat} {v0 v1 v2 v3 v4 v5 : Value} {T : TypeId} {cs : Array Value} (h : BoxC W b' cs T) (hne : ¬ b = b') : BoxC (set6 W b o v0 v1 v2 v3 v4 v5) b' cs T := (((((h.far hne _ _).far hne _ _).far hne _ _).far hne _ _).far hne _ _).far hne _ _
theorem set6_bel {w W : World} {b o : Nat} {v0 v1 v2 v3 v4 v5 : Value} (h : Below w.heap.size w W) (hb : w.heap.size ≤ b) : Below w.heap.size w (set6 W b o v0 v1 v2 v3 v4 v5) := hput1 (hput1 (hput1 (hput1 (hput1 (hput1 h hb _ _) hb _ _) hb _ _) hb _ _) hb _ _) hb _ _
theorem set6_size {W : World} {b o : Nat} {v0 v1 v2 v3 v4 v5 : Value} : (set6 W b o v0 v1 v2 v3 v4 v5).heap.size = W.heap.size := by simp [set6, World.setCell]

/-- from the place lo on: what is known ahead of each instruction, told by A; none of its lists lies in a block of X -/
structure AtG (S n ab lo : Nat) (A : Nat → Option SD) (X : Nat → Prop) (W : World) : Prop where
  row : ∃ cs, BoxC W ab cs 54
  at_ : ∀ j, lo ≤ j → j ≤ n → ∃ q, (∀ f v, (kvA (A j).isSome q)[f]? = some v → W.cell? ⟨ab, j * 6 + f, none⟩ = some v) ∧ ∀ s, A j = some s → ∃ N, KOwn 0 S q s N W ∧ s.ok ∧ ∀ g, KBlk q g → ¬ X g

theorem AtG.step {S n ab lo : Nat} {A : Nat → Option SD} {X : Nat → Prop} {W W' : World} (h : AtG S n ab lo A X W) (b : Below W.heap.size W W') : AtG S n ab lo A X W' := by
  refine ⟨by obtain ⟨cs, hc⟩ := h.row; exact ⟨cs, hc.step b⟩, fun j h1 h2 => ?_⟩
  obtain ⟨q, hc, hs⟩ := h.at_ j h1 h2
  refine ⟨q, fun f v hv => cell_keep (hc f v hv) b, fun s e => ?_⟩
  obtain ⟨N, k, ok, hx⟩ := hs s e
  exact ⟨N, k.step b, ok, hx⟩
theorem AtG.up {S n ab lo lo' : Nat} {A : Nat → Option SD} {X : Nat → Prop} {W : World} (h : AtG S n ab lo A X W) (hl : lo ≤ lo') : AtG S n ab lo' A X W := ⟨h.row, fun j h1 h2 => h.at_ j (Nat.le_trans hl h1) h2⟩
/-- blocks that are not there yet are none of theirs -/
theorem AtG.fresh {S n ab lo : Nat} {A : Nat → Option SD} {X : Nat → Prop} {W : World} (h : AtG S n ab lo A X W) : AtG S n ab lo A (fun g => W.heap.size ≤ g) W := by
  refine ⟨h.row, fun j h1 h2 => ?_⟩
  obtain ⟨q, hc, hs⟩ := h.at_ j h1 h2
  refine ⟨q, hc, fun s e => ?_⟩
  obtain ⟨N, k, ok, hx⟩ := hs s e
  exact ⟨N, k, ok, fun g hg => by have := (k.1.lo g hg).2; omega⟩
theorem AtG.less {S n ab lo : Nat} {A : Nat → Option SD} {X Y : Nat → Prop} {W : World} (h : AtG S n ab lo A X W) (hy : ∀ g, Y g → X g) : AtG S n ab lo A Y W := by
  refine ⟨h.row, fun j h1 h2 => ?_⟩
  obtain ⟨q, hc, hs⟩ := h.at_ j h1 h2
  refine ⟨q, hc, fun s e => ?_⟩
  obtain ⟨N, k, ok, hx⟩ := hs s e
  exact ⟨N, k, ok, fun g hg hh => hx g hg (hy g hh)⟩
theorem KRaw.farB {base S : Nat} {q : KV} {A B : Nat → Bool} {N : Nat → Nat} {Z : Nat → Int} {L : Nat → Bool} {w : World} (h : KRaw base S q A B N Z L w) {g : Nat} (hg : ¬ KBlk q g) (o : Nat) (v : Value) : KRaw base S q A B N Z L (w.setCell ⟨g, o, none⟩ v) :=
  ⟨h.st.far (fun e => hg (.inl e)) o v, h.ju.far (fun e => hg (.inr (.inl e))) o v, h.nu.far (fun e => hg (.inr (.inr (.inl e)))) o v, h.ro.far (fun e => hg (.inr (.inr (.inr (.inl e))))) o v, h.sl.far (fun e => hg (.inr (.inr (.inr (.inr e))))) o v, h.a1, h.a2, fun g' hg' => by rw [World.size_setCell]; exact h.lo g' hg'⟩
/-- a store into a block of X -/
theorem AtG.far {S n ab lo : Nat} {A : Nat → Option SD} {X : Nat → Prop} {W : World} (h : AtG S n ab lo A X W) {g : Nat} (hg : X g) (hne : ¬ g = ab) (o : Nat) (v : Value) : AtG S n ab lo A X (W.setCell ⟨g, o, none⟩ v) := by
  refine ⟨by obtain ⟨cs, hc⟩ := h.row; exact ⟨cs, hc.far hne o v⟩, fun j h1 h2 => ?_⟩
  obtain ⟨q, hc, hs⟩ := h.at_ j h1 h2
  refine ⟨q, fun f u hu => (World.cell?_setCell_other _ _ _ _ (by intro e; simp only [Addr.mk.injEq] at e; exact hne e.1)).trans (hc f u hu), fun s e => ?_⟩
  obtain ⟨N, k, ok, hx⟩ := hs s e
  exact ⟨N, ⟨k.1.farB (fun hb => hx g hb hg) o v, k.2⟩, ok, hx⟩
theorem kv_some (t : Bool) (q : KV) {f : Nat} (hf : f < 6) : ∃ v, (kvA t q)[f]? = some v := ⟨_, Array.getElem?_eq_getElem (by simpa using hf)⟩
/-- the place j is stored into -/
theorem AtG.put {S n ab lo : Nat} {A : Nat → Option SD} {X : Nat → Prop} {W : World} (h : AtG S n ab lo A X W) {j : Nat} (h1 : lo ≤ j) (h2 : j ≤ n) {q : KV} {s : SD} {N : Nat → Nat} (hk : KOwn 0 S q s N W) (ok : s.ok) (hx : ∀ g, KBlk q g → ¬ X g) :
    AtG S n ab lo (putA A j s) X (set6 W ab (j * 6) (.bool true) (.slice q.st.a q.st.n q.st.c) (.slice q.ju.a q.ju.n q.ju.c) (.slice q.nu.a q.nu.n q.nu.c) (.slice q.ro.a q.ro.n q.ro.c) (.slice q.sl.a q.sl.n q.sl.c)) := by
  refine ⟨set6_box h.row, fun i h3 h4 => ?_⟩
  by_cases e : i = j
  · subst e
    refine ⟨q, ?_, fun s' e' => ?_⟩
    · have hp : (putA A i s i).isSome = true := by simp [putA]
      rw [hp]
      obtain ⟨q0, hc, _⟩ := h.at_ i h3 h4
      exact set6_at fun f hf => by
        obtain ⟨v, hv⟩ := kv_some (A i).isSome q0 hf
        exact ⟨v, hc f v hv⟩
    · have : s' = s := by simpa [putA] using e'.symm
      subst this
      exact ⟨N, ⟨set6_krw h.row hk.1, hk.2⟩, ok, hx⟩
  · have hp : putA A j s i = A i := by simp [putA, e]
    rw [hp]
    obtain ⟨q0, hc, hs⟩ := h.at_ i h3 h4
    refine ⟨q0, fun f v hv => set6_off (hc f v hv) ?_, fun s' e' => ?_⟩
    · have hf : f < 6 := by have := (Array.getElem?_eq_some_iff.1 hv).1; simpa using this
      omega
    · obtain ⟨N', k, ok', hx'⟩ := hs s' e'
      exact ⟨N', ⟨set6_krw h.row k.1, k.2⟩, ok', hx'⟩
/-- the place ahead of lo is wiped out -/
theorem AtG.wipe {S n ab lo : Nat} {A : Nat → Option SD} {X : Nat → Prop} {W : World} (h : AtG S n ab lo A X W) {v0 v1 v2 v3 v4 v5 : Value} : AtG S n ab (lo + 1) A X (set6 W ab (lo * 6) v0 v1 v2 v3 v4 v5) := by
  refine ⟨set6_box h.row, fun i h3 h4 => ?_⟩
  obtain ⟨q0, hc, hs⟩ := h.at_ i (by omega) h4
  refine ⟨q0, fun f v hv => set6_off (hc f v hv) (by omega), fun s' e' => ?_⟩
  obtain ⟨N', k, ok', hx'⟩ := hs s' e'
  exact ⟨N', ⟨set6_krw h.row k.1, k.2⟩, ok', hx'⟩

/-- the six cells of a place -/
structure Six (W : World) (ab o : Nat) (t : Bool) (q : KV) : Prop where
  c0 : W.cell? ⟨ab, o, none⟩ = some (.bool t)
  c1 : W.cell? ⟨ab, o + 1, none⟩ = some (.slice q.st.a q.st.n q.st.c)
  c2 : W.cell? ⟨ab, o + 2, none⟩ = some (.slice q.ju.a q.ju.n q.ju.c)
  c3 : W.cell? ⟨ab, o + 3, none⟩ = some (.slice q.nu.a q.nu.n q.nu.c)
  c4 : W.cell? ⟨ab, o + 4, none⟩ = some (.slice q.ro.a q.ro.n q.ro.c)
  c5 : W.cell? ⟨ab, o + 5, none⟩ = some (.slice q.sl.a q.sl.n q.sl.c)
  z : ∀ f, W.frozen? ⟨ab, f, none⟩ = false
  l : ab < W.heap.size
theorem AtG.six {S n ab lo : Nat} {A : Nat → Option SD} {X : Nat → Prop} {W : World} (h : AtG S n ab lo A X W) {j : Nat} (h1 : lo ≤ j) (h2 : j ≤ n) : ∃ q, Six W ab (j * 6) (A j).isSome q ∧ ∀ s, A j = some s → ∃ N, KOwn 0 S q s N W ∧ s.ok ∧ ∀ g, KBlk q g → ¬ X g := by
  obtain ⟨q, hc, hs⟩ := h.at_ j h1 h2
  obtain ⟨cs, hb⟩ := h.row
  exact ⟨q, ⟨hc 0 _ rfl, hc 1 _ rfl, hc 2 _ rfl, hc 3 _ rfl, hc 4 _ rfl, hc 5 _ rfl, fun f => hb.fz f, hb.lt⟩, hs⟩
/-- a new row, all empty but the first -/
theorem atg_new {S n ab : Nat} {W : World} {cs : Array Value} (hb : BoxC W ab cs 54) (hz : ∀ j f v, j ≤ n → zeroK[f]? = some v → W.cell? ⟨ab, j * 6 + f, none⟩ = some v) : AtG S n ab 0 (fun _ => none) (fun _ => False) W :=
  ⟨⟨cs, hb⟩, fun j _ h2 => ⟨⟨⟨none, 0, 0⟩, ⟨none, 0, 0⟩, ⟨none, 0, 0⟩, ⟨none, 0, 0⟩, ⟨none, 0, 0⟩⟩, fun f v hv => hz j f v h2 hv, fun s e => by cases e⟩⟩

/-- one instruction more -/
theorem guardG_none {ts : List ShapeD} {cs : List InsD} {i : Nat} {x : InsD} {A : Nat → Option SD} (hx : cs[i]? = some x) (hA : A i = none) : guardG ts (cs.drop i) i A = guardG ts (cs.drop (i + 1)) (i + 1) A := by
  obtain ⟨hi, e⟩ := List.getElem?_eq_some_iff.1 hx
  rw [List.drop_eq_getElem_cons hi, guardG, hA]
theorem guardG_bad {ts : List ShapeD} {cs : List InsD} {i : Nat} {x : InsD} {A : Nat → Option SD} {s : SD} (hx : cs[i]? = some x) (hA : A i = some s) (hw : wrongD ts s x ≠ 0) : guardG ts (cs.drop i) i A = (wrongD ts s x, (i : Int)) := by
  obtain ⟨hi, e⟩ := List.getElem?_eq_some_iff.1 hx
  rw [List.drop_eq_getElem_cons hi, guardG, hA, e]
  dsimp only
  rw [if_pos hw]
theorem guardG_next {ts : List ShapeD} {cs : List InsD} {i : Nat} {x : InsD} {A : Nat → Option SD} {s : SD} (hx : cs[i]? = some x) (hA : A i = some s) (hw : wrongD ts s x = 0) : guardG ts (cs.drop i) i A = guardG ts (cs.drop (i + 1)) (i + 1) (overA ts A i x s) := by
  obtain ⟨hi, e⟩ := List.getElem?_eq_some_iff.1 hx
  rw [List.drop_eq_getElem_cons hi, guardG, hA, e]
  dsimp only
  rw [if_neg (by rw [hw]; exact fun h => h rfl)]
theorem guardG_end {ts : List ShapeD} {cs : List InsD} {i : Nat} {A : Nat → Option SD} (h : cs.length ≤ i) : guardG ts (cs.drop i) i A = (0, 0) := by rw [List.drop_eq_nil_of_le h, guardG]
end Go.Proofs.Ytmohffibkpecpaa
