/- guard's visit: goBehind. -/
import Derived.Test.YtjmlkaciibdpaaaHVis
namespace Go.Proofs.Ytjmlkaciibdpaaa
open Go.RowKit

theorem ProgD.lie.blk2 {d : ProgD} {w w' : World} (h : d.lie w) (ht : ∀ ad, d.tabs.a = some ad → 0 < d.tabs.n → w'.heap[ad.block]? = w.heap[ad.block]?) (hc : ∀ ad, d.code.a = some ad → 0 < d.code.n → w'.heap[ad.block]? = w.heap[ad.block]?) : d.lie w' := by
  refine ⟨h.ws, h.n1, h.n2, ⟨h.t.1, fun i x hx => ?_⟩, ⟨h.c.1, fun i x hx => ?_⟩⟩
  · obtain ⟨g, off, e, hp⟩ := h.t.2 i x hx
    have hi : i < d.ts.length := (List.getElem?_eq_some_iff.1 hx).1
    have q : w'.heap[g]? = w.heap[g]? := ht _ e (by rw [← h.t.1]; omega)
    exact ⟨g, off, e, hp.1.blk q, hp.2.1.blk q, hp.2.2.blk q⟩
  · obtain ⟨g, off, e, hp⟩ := h.c.2 i x hx
    have hi : i < d.cs.length := (List.getElem?_eq_some_iff.1 hx).1
    have q : w'.heap[g]? = w.heap[g]? := hc _ e (by rw [← h.c.1]; omega)
    exact ⟨g, off, e, hp.1.blk q, hp.2.1.blk q, hp.2.2.1.blk q, hp.2.2.2.1.blk q, hp.2.2.2.2.1.blk q, hp.2.2.2.2.2.blk q⟩
/-- where its lists lie -/
theorem ProgD.lie.low {d : ProgD} {w : World} (h : d.lie w) : (∀ ad, d.tabs.a = some ad → 0 < d.tabs.n → ad.block < w.heap.size) ∧ ∀ ad, d.code.a = some ad → 0 < d.code.n → ad.block < w.heap.size := by
  refine ⟨fun ad e hn => ?_, fun ad e hn => ?_⟩
  · obtain ⟨g, off, x, ea, _, hp⟩ := grow_at h.t hn
    rw [e] at ea
    cases ea
    exact World.block_lt_of_cell? _ _ hp.1.1
  · obtain ⟨g, off, x, ea, _, hp⟩ := grow_at h.c hn
    rw [e] at ea
    cases ea
    exact World.block_lt_of_cell? _ _ hp.1.1

/-- all that is old is as it was, but for block p -/
structure HRn (p : Nat) (w w' : World) : Prop where
  os : w'.os = w.os
  tape : w'.tape = w.tape
  output : w'.output = w.output
  size : w.heap.size ≤ w'.heap.size
  block : ∀ k, k < w.heap.size → k ≠ p → w'.heap[k]? = w.heap[k]?
theorem HRn.refl (p : Nat) (w : World) : HRn p w w := ⟨rfl, rfl, rfl, Nat.le_refl _, fun _ _ _ => rfl⟩
theorem HRn.trans {p : Nat} {a b c : World} (h : HRn p a b) (k : HRn p b c) : HRn p a c := ⟨k.os.trans h.os, k.tape.trans h.tape, k.output.trans h.output, Nat.le_trans h.size k.size, fun i hi hp => (k.block i (Nat.lt_of_lt_of_le hi h.size) hp).trans (h.block i hi hp)⟩
theorem HRn.of {p : Nat} {w w' : World} (h : Below w.heap.size w w') : HRn p w w' := ⟨h.os, h.tape, h.output, h.size, fun k hk _ => h.block k hk⟩
theorem HRn.put (p : Nat) (w : World) (o : Nat) (v : Value) : HRn p w (w.setCell ⟨p, o, none⟩ v) := ⟨rfl, rfl, rfl, by simp [World.setCell], fun k _ hp => by simp [World.setCell, Array.getElem?_modify, Ne.symm hp]⟩
theorem HRn.puts (p : Nat) : ∀ (vs : List Value) (o : Nat) (w : World), HRn p w (w.setCells p o vs)
  | [], _, w => HRn.refl p w
  | v :: r, o, w => by
    rw [World.setCells]
    exact (HRn.put p w o v).trans (HRn.puts p r (o + 1) _)
theorem HRn.low {p B : Nat} {w w' : World} (h : HRn p w w') (hp : B ≤ p) (hB : B ≤ w.heap.size) : Below B w w' := ⟨h.os, h.tape, h.output, h.size, fun k hk => h.block k (Nat.lt_of_lt_of_le hk hB) (by omega)⟩
theorem HRn.cell {p : Nat} {w w' : World} (h : HRn p w w') {g o : Nat} {v : Value} (hg : g ≠ p) (hc : w.cell? ⟨g, o, none⟩ = some v) : w'.cell? ⟨g, o, none⟩ = some v := cell_blk (h.block g (World.block_lt_of_cell? _ _ hc) hg) hc
theorem HRn.lie {p : Nat} {w w' : World} (h : HRn p w w') {d : ProgD} (hl : d.lie w) (ft : ∀ ad, d.tabs.a = some ad → 0 < d.tabs.n → ad.block ≠ p ∧ ad.block < w.heap.size) (fc : ∀ ad, d.code.a = some ad → 0 < d.code.n → ad.block ≠ p ∧ ad.block < w.heap.size) : d.lie w' :=
  hl.blk2 (fun ad e n0 => h.block _ (ft ad e n0).2 (ft ad e n0).1) (fun ad e n0 => h.block _ (fc ad e n0).2 (fc ad e n0).1)

/-- the visit's block is apart from all that it reads of others -/
structure VisAp (w : World) (vb wk : Nat) (d : ProgD) : Prop where
  ne : wk ≠ vb
  ft : ∀ ad, d.tabs.a = some ad → 0 < d.tabs.n → ad.block ≠ vb ∧ ad.block < w.heap.size
  fc : ∀ ad, d.code.a = some ad → 0 < d.code.n → ad.block ≠ vb ∧ ad.block < w.heap.size
theorem VisAp.up {w w' : World} {vb wk : Nat} {d : ProgD} (h : VisAp w vb wk d) (hs : w.heap.size ≤ w'.heap.size) : VisAp w' vb wk d := ⟨h.ne, fun ad e n0 => ⟨(h.ft ad e n0).1, Nat.lt_of_lt_of_le (h.ft ad e n0).2 hs⟩, fun ad e n0 => ⟨(h.fc ad e n0).1, Nat.lt_of_lt_of_le (h.fc ad e n0).2 hs⟩⟩

theorem VisAt.putR {w : World} {vb wk : Nat} {d : ProgD} {x : InsD} {s : SD} (h : VisAt w vb wk d x s) (ha : VisAp w vb wk d) {i : Nat} (hi : i < 10) (r : RD) : VisAt (w.setCells vb (7 + 1 + i * 5) (regC r)) vb wk d x (s.setR i r) := by
  have hr := HRn.puts vb (regC r) (7 + 1 + i * 5) w
  have far : ∀ q v, q < 7 → w.cell? ⟨vb, q, none⟩ = some v → (w.setCells vb (7 + 1 + i * 5) (regC r)).cell? ⟨vb, q, none⟩ = some v := fun q v hq hv => by
    have h0 : w.rangeAt vb q [v] := fun j u hu => by
      cases j with
      | zero => simp only [List.getElem?_cons_zero, Option.some.injEq] at hu; subst hu; exact hv
      | succ j => simp at hu
    exact World.rangeAt_setCells_apart h0 vb _ (regC r) (.inr (.inl (by simp only [List.length_cons, List.length_nil]; omega))) 0 _ rfl
  exact ⟨far _ _ (by omega) h.c0, far _ _ (by omega) h.i0, far _ _ (by omega) h.i1, far _ _ (by omega) h.i2, far _ _ (by omega) h.i3, far _ _ (by omega) h.i4, far _ _ (by omega) h.i5, st_putR h.st h.th hi r, World.there_setCells h.th _ _ _, hr.cell ha.ne h.p1, hr.lie h.lie ha.ft ha.fc⟩

theorem VisAt.putS {w : World} {vb wk : Nat} {d : ProgD} {x : InsD} {s s' : SD} (h : VisAt w vb wk d x s) (ha : VisAp w vb wk d) {i : Nat} (hi : i < 96) {y : Bool} (hr : ∀ j, s'.reg j = s.reg j) (hx : s'.slot i = y) (hs : ∀ j, j ≠ i → s'.slot j = s.slot j) : VisAt (w.setCell ⟨vb, 58 + i, none⟩ (.bool y)) vb wk d x s' := by
  have hr' := HRn.put vb w (58 + i) (.bool y)
  have far : ∀ q v, q < 7 → w.cell? ⟨vb, q, none⟩ = some v → (w.setCell ⟨vb, 58 + i, none⟩ (.bool y)).cell? ⟨vb, q, none⟩ = some v := fun q v hq hv =>
    (World.cell?_setCell_other _ _ _ _ (by intro e; simp only [Addr.mk.injEq] at e; omega)).trans hv
  exact ⟨far _ _ (by omega) h.c0, far _ _ (by omega) h.i0, far _ _ (by omega) h.i1, far _ _ (by omega) h.i2, far _ _ (by omega) h.i3, far _ _ (by omega) h.i4, far _ _ (by omega) h.i5, st_putS h.st hi hr hx hs, there_set h.th _ _ _, hr'.cell ha.ne h.p1, hr'.lie h.lie ha.ft ha.fc⟩

theorem VisAt.fz {w : World} {vb wk : Nat} {d : ProgD} {x : InsD} {s : SD} (h : VisAt w vb wk d x s) {j : Nat} (hj : j < 147) : w.frozen? ⟨vb, 7 + j, none⟩ = false := (h.th j hj).2

/-- what goBehind does -/
def BehIs (w : World) (vb wk : Nat) (d : ProgD) (x : InsD) (s : SD) (e : Ending) (w' : World) : Prop := e = .returned (.tuple #[]) ∧ VisAt w' vb wk d x s ∧ HRn vb w w'

/-- a register is stored into -/
theorem BehIs.reg {w wq : World} {vb wk : Nat} {d : ProgD} {x : InsD} {s s' : SD} (h : VisAt w vb wk d x s) (ha : VisAp w vb wk d) (hb : Below w.heap.size w wq) {i : Nat} (hi : i < 10) (r : RD) (hs : s' = s.setR i r) : VisAt (wq.setCells vb (7 + 1 + i * 5) (regC r)) vb wk d x s' ∧ HRn vb w (wq.setCells vb (7 + 1 + i * 5) (regC r)) := by
  subst hs
  exact ⟨(h.step hb).putR (ha.up hb.size) hi r, (HRn.of hb).trans (HRn.puts vb _ _ _)⟩

structure Fz5 (w : World) (vb i : Nat) : Prop where
  f0 : w.frozen? ⟨vb, 8 + i * 5, none⟩ = false
  f1 : w.frozen? ⟨vb, 8 + i * 5 + 1, none⟩ = false
  f2 : w.frozen? ⟨vb, 8 + i * 5 + 2, none⟩ = false
  f3 : w.frozen? ⟨vb, 8 + i * 5 + 3, none⟩ = false
  f4 : w.frozen? ⟨vb, 8 + i * 5 + 4, none⟩ = false
theorem VisAt.fz5 {w : World} {vb wk : Nat} {d : ProgD} {x : InsD} {s : SD} (h : VisAt w vb wk d x s) {i : Nat} (hi : i < 10) : Fz5 w vb i := by
  refine ⟨?_, ?_, ?_, ?_, ?_⟩
  · have := h.fz (j := 1 + i * 5) (by omega); rw [show 8 + i * 5 = 7 + (1 + i * 5) by omega]; exact this
  · have := h.fz (j := 1 + i * 5 + 1) (by omega); rw [show 8 + i * 5 + 1 = 7 + (1 + i * 5 + 1) by omega]; exact this
  · have := h.fz (j := 1 + i * 5 + 2) (by omega); rw [show 8 + i * 5 + 2 = 7 + (1 + i * 5 + 2) by omega]; exact this
  · have := h.fz (j := 1 + i * 5 + 3) (by omega); rw [show 8 + i * 5 + 3 = 7 + (1 + i * 5 + 3) by omega]; exact this
  · have := h.fz (j := 1 + i * 5 + 4) (by omega); rw [show 8 + i * 5 + 4 = 7 + (1 + i * 5 + 4) by omega]; exact this
end Go.Proofs.Ytjmlkaciibdpaaa
