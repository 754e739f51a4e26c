/- Texts of one chain, joined: HBeh0, HLead. -/
import Derived.Test.YtmohffibkpecpaaJ5
namespace Go.Proofs.Ytmohffibkpecpaa
open Go.RowKit

theorem ProgD.lie.blk2 {d : ProgD} {w w' : World} (h : d.lie w) (ht : ∀ ad, d.tabs.a = some ad → 0 < d.tabs.n → w'.heap[ad.block]? = w.heap[ad.block]?) (hc : ∀ ad, d.code.a = some ad → 0 < d.code.n → w'.heap[ad.block]? = w.heap[ad.block]?) : d.lie w' := by
  refine ⟨h.ws, h.n1, h.n2, ⟨h.t.1, fun i x hx => ?_⟩, ⟨h.c.1, fun i x hx => ?_⟩⟩
  · obtain ⟨g, off, e, hp⟩ := h.t.2 i x hx
    have hi : i < d.ts.length := (List.getElem?_eq_some_iff.1 hx).1
    have q : w'.heap[g]? = w.heap[g]? := ht _ e (by rw [← h.t.1]; omega)
    exact ⟨g, off, e, hp.1.blk q, hp.2.1.blk q, hp.2.2.blk q⟩
  · obtain ⟨g, off, e, hp⟩ := h.c.2 i x hx
    have hi : i < d.cs.length := (List.getElem?_eq_some_iff.1 hx).1
    have q : w'.heap[g]? = w.heap[g]? := hc _ e (by rw [← h.c.1]; omega)
    exact ⟨g, off, e, hp.1.blk q, hp.2.1.blk q, hp.2.2.1.blk q, hp.2.2.2.1.blk q, hp.2.2.2.2.1.blk q, hp.2.2.2.2.2.blk q⟩
/-- where its lists lie -/
theorem ProgD.lie.low {d : ProgD} {w : World} (h : d.lie w) : (∀ ad, d.tabs.a = some ad → 0 < d.tabs.n → ad.block < w.heap.size) ∧ ∀ ad, d.code.a = some ad → 0 < d.code.n → ad.block < w.heap.size := by
  refine ⟨fun ad e hn => ?_, fun ad e hn => ?_⟩
  · obtain ⟨g, off, x, ea, _, hp⟩ := grow_at h.t hn
    rw [e] at ea
    cases ea
    exact World.block_lt_of_cell? _ _ hp.1.1
  · obtain ⟨g, off, x, ea, _, hp⟩ := grow_at h.c hn
    rw [e] at ea
    cases ea
    exact World.block_lt_of_cell? _ _ hp.1.1

/-- all that is old is as it was, but for block p -/
structure HRn (p : Nat) (w w' : World) : Prop where
  os : w'.os = w.os
  tape : w'.tape = w.tape
  output : w'.output = w.output
  size : w.heap.size ≤ w'.heap.size
  block : ∀ k, k < w.heap.size → k ≠ p → w'.heap[k]? = w.heap[k]?
theorem HRn.refl (p : Nat) (w : World) : HRn p w w := ⟨rfl, rfl, rfl, Nat.le_refl _, fun _ _ _ => rfl⟩
theorem HRn.trans {p : Nat} {a b c : World} (h : HRn p a b) (k : HRn p b c) : HRn p a c := ⟨k.os.trans h.os, k.tape.trans h.tape, k.output.trans h.output, Nat.le_trans h.size k.size, fun i hi hp => (k.block i (Nat.lt_of_lt_of_le hi h.size) hp).trans (h.block i hi hp)⟩
theorem HRn.of {p : Nat} {w w' : World} (h : Below w.heap.size w w') : HRn p w w' := ⟨h.os, h.tape, h.output, h.size, fun k hk _ => h.block k hk⟩
theorem HRn.put (p : Nat) (w : World) (o : Nat) (v : Value) : HRn p w (w.setCell ⟨p, o, none⟩ v) := ⟨rfl, rfl, rfl, by simp [World.setCell], fun k _ hp => by simp [World.setCell, Array.getElem?_modify, Ne.symm hp]⟩
theorem HRn.puts (p : Nat) : ∀ (vs : List Value) (o : Nat) (w : World), HRn p w (w.setCells p o vs)
  | [], _, w => HRn.refl p w
  | v :: r, o, w => by
    rw [World.setCells]
    exact (HRn.put p w o v).trans (HRn.puts p r (o + 1) _)
theorem HRn.low {p B : Nat} {w w' : World} (h : HRn p w w') (hp : B ≤ p) (hB : B ≤ w.heap.size) : Below B w w' := ⟨h.os, h.tape, h.output, h.size, fun k hk => h.block k (Nat.lt_of_lt_of_le hk hB) (by omega)⟩
theorem HRn.cell {p : Nat} {w w' : World} (h : HRn p w w') {g o : Nat} {v : Value} (hg : g ≠ p) (hc : w.cell? ⟨g, o, none⟩ = some v) : w'.cell? ⟨g, o, none⟩ = some v := cell_blk (h.block g (World.block_lt_of_cell? _ _ hc) hg) hc
theorem HRn.lie {p : Nat} {w w' : World} (h : HRn p w w') {d : ProgD} (hl : d.lie w) (ft : ∀ ad, d.tabs.a = some ad → 0 < d.tabs.n → ad.block ≠ p ∧ ad.block < w.heap.size) (fc : ∀ ad, d.code.a = some ad → 0 < d.code.n → ad.block ≠ p ∧ ad.block < w.heap.size) : d.lie w' :=
  hl.blk2 (fun ad e n0 => h.block _ (ft ad e n0).2 (ft ad e n0).1) (fun ad e n0 => h.block _ (fc ad e n0).2 (fc ad e n0).1)

/-- the visit's block is apart from all that it reads of others -/
structure VisAp (w : World) (vb wk : Nat) (d : ProgD) : Prop where
  ne : wk ≠ vb
  ft : ∀ ad, d.tabs.a = some ad → 0 < d.tabs.n → ad.block ≠ vb ∧ ad.block < w.heap.size
  fc : ∀ ad, d.code.a = some ad → 0 < d.code.n → ad.block ≠ vb ∧ ad.block < w.heap.size
theorem VisAp.up {w w' : World} {vb wk : Nat} {d : ProgD} (h : VisAp w vb wk d) (hs : w.heap.size ≤ w'.heap.size) : VisAp w' vb wk d := ⟨h.ne, fun ad e n0 => ⟨(h.ft ad e n0).1, Nat.lt_of_lt_of_le (h.ft ad e n0).2 hs⟩, fun ad e n0 => ⟨(h.fc ad e n0).1, Nat.lt_of_lt_of_le (h.fc ad e n0).2 hs⟩⟩

theorem VisAt.putR {w : World} {vb wk : Nat} {d : ProgD} {x : InsD} {s : SD} (h : VisAt w vb wk d x s) (ha : VisAp w vb wk d) {i : Nat} (hi : i < 10) (r : RD) : VisAt (w.setCells vb (7 + 1 + i * 5) (regC r)) vb wk d x (s.setR i r) := by
  have hr := HRn.puts vb (regC r) (7 + 1 + i * 5) w
  have far : ∀ q v, q < 7 → w.cell? ⟨vb, q, none⟩ = some v → (w.setCells vb (7 + 1 + i * 5) (regC r)).cell? ⟨vb, q, none⟩ = some v := fun q v hq hv => by
    have h0 : w.rangeAt vb q [v] := fun j u hu => by
      cases j with
      | zero => simp only [List.getElem?_cons_zero, Option.some.injEq] at hu; subst hu; exact hv
      | succ j => simp at hu
    exact World.rangeAt_setCells_apart h0 vb _ (regC r) (.inr (.inl (by simp only [List.length_cons, List.length_nil]; omega))) 0 _ rfl
  exact ⟨far _ _ (by omega) h.c0, far _ _ (by omega) h.i0, far _ _ (by omega) h.i1, far _ _ (by omega) h.i2, far _ _ (by omega) h.i3, far _ _ (by omega) h.i4, far _ _ (by omega) h.i5, st_putR h.st h.th hi r, World.there_setCells h.th _ _ _, hr.cell ha.ne h.p1, hr.lie h.lie ha.ft ha.fc⟩

theorem VisAt.putS {w : World} {vb wk : Nat} {d : ProgD} {x : InsD} {s s' : SD} (h : VisAt w vb wk d x s) (ha : VisAp w vb wk d) {i : Nat} (hi : i < 96) {y : Bool} (hr : ∀ j, s'.reg j = s.reg j) (hx : s'.slot i = y) (hs : ∀ j, j ≠ i → s'.slot j = s.slot j) : VisAt (w.setCell ⟨vb, 58 + i, none⟩ (.bool y)) vb wk d x s' := by
  have hr' := HRn.put vb w (58 + i) (.bool y)
  have far : ∀ q v, q < 7 → w.cell? ⟨vb, q, none⟩ = some v → (w.setCell ⟨vb, 58 + i, none⟩ (.bool y)).cell? ⟨vb, q, none⟩ = some v := fun q v hq hv =>
    (World.cell?_setCell_other _ _ _ _ (by intro e; simp only [Addr.mk.injEq] at e; omega)).trans hv
  exact ⟨far _ _ (by omega) h.c0, far _ _ (by omega) h.i0, far _ _ (by omega) h.i1, far _ _ (by omega) h.i2, far _ _ (by omega) h.i3, far _ _ (by omega) h.i4, far _ _ (by omega) h.i5, st_putS h.st hi hr hx hs, there_set h.th _ _ _, hr'.cell ha.ne h.p1, hr'.lie h.lie ha.ft ha.fc⟩

theorem VisAt.fz {w : World} {vb wk : Nat} {d : ProgD} {x : InsD} {s : SD} (h : VisAt w vb wk d x s) {j : Nat} (hj : j < 147) : w.frozen? ⟨vb, 7 + j, none⟩ = false := (h.th j hj).2

/-- what goBehind does -/
def BehIs (w : World) (vb wk : Nat) (d : ProgD) (x : InsD) (s : SD) (e : Ending) (w' : World) : Prop := e = .returned (.tuple #[]) ∧ VisAt w' vb wk d x s ∧ HRn vb w w'

/-- a register is stored into -/
theorem BehIs.reg {w wq : World} {vb wk : Nat} {d : ProgD} {x : InsD} {s s' : SD} (h : VisAt w vb wk d x s) (ha : VisAp w vb wk d) (hb : Below w.heap.size w wq) {i : Nat} (hi : i < 10) (r : RD) (hs : s' = s.setR i r) : VisAt (wq.setCells vb (7 + 1 + i * 5) (regC r)) vb wk d x s' ∧ HRn vb w (wq.setCells vb (7 + 1 + i * 5) (regC r)) := by
  subst hs
  exact ⟨(h.step hb).putR (ha.up hb.size) hi r, (HRn.of hb).trans (HRn.puts vb _ _ _)⟩

structure Fz5 (w : World) (vb i : Nat) : Prop where
  f0 : w.frozen? ⟨vb, 8 + i * 5, none⟩ = false
  f1 : w.frozen? ⟨vb, 8 + i * 5 + 1, none⟩ = false
  f2 : w.frozen? ⟨vb, 8 + i * 5 + 2, none⟩ = false
  f3 : w.frozen? ⟨vb, 8 + i * 5 + 3, none⟩ = false
  f4 : w.frozen? ⟨vb, 8 + i * 5 + 4, none⟩ = false
theorem VisAt.fz5 {w : World} {vb wk : Nat} {d : ProgD} {x : InsD} {s : SD} (h : VisAt w vb wk d x s) {i : Nat} (hi : i < 10) : Fz5 w vb i := by
  refine ⟨?_, ?_, ?_, ?_, ?_⟩
  · have := h.fz (j := 1 + i * 5) (by omega); rw [show 8 + i * 5 = 7 + (1 + i * 5) by omega]; exact this
  · have := h.fz (j := 1 + i * 5 + 1) (by omega); rw [show 8 + i * 5 + 1 = 7 + (1 + i * 5 + 1) by omega]; exact this
  · have := h.fz (j := 1 + i * 5 + 2) (by omega); rw [show 8 + i * 5 + 2 = 7 + (1 + i * 5 + 2) by omega]; exact this
  · have := h.fz (j := 1 + i * 5 + 3) (by omega); rw [show 8 + i * 5 + 3 = 7 + (1 + i * 5 + 3) by omega]; exact this
  · have := h.fz (j := 1 + i * 5 + 4) (by omega); rw [show 8 + i * 5 + 4 = 7 + (1 + i * 5 + 4) by omega]; exact this
end Go.Proofs.Ytmohffibkpecpaa

namespace Go.Proofs.Ytmohffibkpecpaa
open Go.RowKit

/-- a whole struct is read in a region that draws its order, quietly -/
theorem quiet_load_mid {P : Program} {ops : Array Oper} {C : World → Prop} {Q : Act → Prop} {o : Oper} {rest : List Oper} {a : Act} (hg : o.guard = none) (ty : TypeId) (x : Operand) (ho : o.op = .load ty x) (b off : Nat) (hx : a.eval x = .pointer (some ⟨b, off, none⟩)) (cs : List Value) (d : TypeDesc) (hS : ∀ w, C w → w.rangeAt b off cs)
    (hu : P.underlying ty = some d) (hd : d.isRow = true) (hi : (P.info? ty).map (·.size) = some cs.length) (h : wpQuiet P ops C Q rest (a.put o.dst (.agg cs.toArray))) : wpQuiet P ops C Q (o :: rest) a := by
  refine wpQuiet_step fun K hK => ?_
  simp only [Region.wanted, hg, if_true]
  refine ⟨.agg cs.toArray, fun w hw => ?_, hK _ h⟩
  unfold Oper.quietAt execOp
  simp only [ho, hx, Instr.loadAt, Instr.sureAddr, Sem.run_bind, Sem.run_pure, Result.andThen_ok, run_loadVar_mid w b off ty cs d (hS w hw) hu hd hi]
  exact ⟨rfl, rfl⟩

structure WkAt (w : World) (wk ag m : Nat) (d : ProgD) (A : Nat → Option SD) : Prop where
  k1 : w.cell? ⟨wk, 1, none⟩ = some (.slice d.tabs.a d.tabs.n d.tabs.c)
  k2 : w.cell? ⟨wk, 2, none⟩ = some (.slice d.code.a d.code.n d.code.c)
  k3 : w.cell? ⟨wk, 3, none⟩ = some (.slice (some ⟨ag, 0, none⟩) m m)
  st : ∀ j, j < m → w.rangeAt ag (j * 147) (stO (A j))
  th : ∀ j, j < m → w.there ag (j * 147) 147
  lie : d.lie w
  ne : wk ≠ ag
  ft : ∀ ad, d.tabs.a = some ad → 0 < d.tabs.n → ad.block ≠ ag ∧ ad.block < w.heap.size
  fc : ∀ ad, d.code.a = some ad → 0 < d.code.n → ad.block ≠ ag ∧ ad.block < w.heap.size
theorem WkAt.step {w w' : World} {wk ag m : Nat} {d : ProgD} {A : Nat → Option SD} (h : WkAt w wk ag m d A) (b : Below w.heap.size w w') : WkAt w' wk ag m d A :=
  ⟨cell_keep h.k1 b, cell_keep h.k2 b, cell_keep h.k3 b, fun j hj => range_step (h.st j hj) b, fun j hj => there_step (h.th j hj) b, h.lie.step b, h.ne, fun ad e n0 => ⟨(h.ft ad e n0).1, Nat.lt_of_lt_of_le (h.ft ad e n0).2 b.size⟩, fun ad e n0 => ⟨(h.fc ad e n0).1, Nat.lt_of_lt_of_le (h.fc ad e n0).2 b.size⟩⟩
theorem WkAt.put {w : World} {wk ag m : Nat} {d : ProgD} {A : Nat → Option SD} (h : WkAt w wk ag m d A) {i : Nat} (hi : i < m) (s : SD) : WkAt (w.setCells ag (i * 147) (stO (some s))) wk ag m d (putA A i s) := by
  have hr := HRn.puts ag (stO (some s)) (i * 147) w
  refine ⟨hr.cell h.ne h.k1, hr.cell h.ne h.k2, hr.cell h.ne h.k3, fun j hj => ?_, fun j hj => World.there_setCells (h.th j hj) _ _ _, hr.lie h.lie h.ft h.fc, h.ne, fun ad e n0 => ⟨(h.ft ad e n0).1, Nat.lt_of_lt_of_le (h.ft ad e n0).2 hr.size⟩, fun ad e n0 => ⟨(h.fc ad e n0).1, Nat.lt_of_lt_of_le (h.fc ad e n0).2 hr.size⟩⟩
  by_cases e : j = i
  · subst e
    rw [show putA A j s j = some s by simp [putA]]
    exact World.rangeAt_setCells_same _ _ _ _ (by rw [stO_len]; exact h.th j hj)
  · rw [show putA A i s j = A j by simp [putA, e]]
    refine World.rangeAt_setCells_apart (h.st j hj) ag _ _ (.inr ?_)
    rw [stO_len, stO_len]
    omega

/-- what lead does -/
def LeadIs (w : World) (wk ag m : Nat) (d : ProgD) (A : Nat → Option SD) (e : Ending) (w' : World) : Prop := e = .returned (.tuple #[]) ∧ WkAt w' wk ag m d A ∧ HRn ag w w'

set_option maxHeartbeats 4000000 in
set_option maxRecDepth 20000 in
theorem hlead {w : World} {wk ag m : Nat} {d : ProgD} {A : Nat → Option SD} (h : WkAt w wk ag m d A) (i : Nat) (hi : i < m) (s : SD) : Calls Try.prog 23 #[vptr wk, .int .i64 (i : Int), .agg (stO (some s)).toArray] w (LeadIs w wk ag m d (putA A i (joinO (A i) s))) := by
  obtain ⟨B, hB⟩ : ∃ A, A = stO (some s) := ⟨_, rfl⟩
  obtain ⟨Z, hZ⟩ : ∃ Z, Z = stO (A i) := ⟨_, rfl⟩
  obtain ⟨R, hR⟩ : ∃ Z, Z = stO (some (joinO (A i) s)) := ⟨_, rfl⟩
  obtain ⟨W1, hW1⟩ : ∃ W, W = w.alloc (.cells B.toArray 47) := ⟨_, rfl⟩
  obtain ⟨b, hb⟩ : ∃ b, b = w.heap.size := ⟨_, rfl⟩
  have b1 : Below w.heap.size w W1 := by rw [hW1]; exact bl_alloc (Below.refl _ _)
  have h1 := h.step b1
  have k3 := h1.k3
  have lb : B.length = 147 := by rw [hB]; exact stO_len _
  have lz : Z.length = 147 := by rw [hZ]; exact stO_len _
  have rb : W1.rangeAt b 0 B := by rw [hW1, hb]; exact range_new _ _ _
  have rz : W1.rangeAt ag (i * 147) Z := by rw [hZ]; exact h1.st i hi
  have HRB : Hid (∀ p : BelowBy W1, p.to.rangeAt b 0 B) := fun p => range_step rb p.h
  have HRZ : Hid (∀ p : BelowBy W1, p.to.rangeAt ag (i * 147) Z) := fun p => range_step rz p.h
  have HLB := hid lb
  have HLZ := hid lz
  have HC : Hid (∀ q : BelowBy W1, Calls Try.prog 39 #[.agg Z.toArray, .agg B.toArray] q.to fun e w' => e = .returned (.agg R.toArray) ∧ Below q.to.heap.size q.to w') := fun q => by
    rw [hZ, hB, hR]
    exact hst (A i) s q.to
  have HN : Hid (∀ wq, Below W1.heap.size W1 wq → WkAt (wq.setCells ag (i * 147) R) wk ag m d (putA A i (joinO (A i) s)) ∧ HRn ag w (wq.setCells ag (i * 147) R)) := fun wq hq => by
    rw [hR]
    exact ⟨(h1.step hq).put hi _, (HRn.of (bl_step b1 hq)).trans (HRn.puts ag _ _ _)⟩
  have HT : Hid (∀ wq, Below W1.heap.size W1 wq → wq.there ag (i * 147) 147) := fun wq hq => there_step (h1.th i hi) hq
  have HLR : Hid (R.length = 147) := by rw [hR]; exact stO_len _
  have HOR : Hid (∀ v ∈ R, v.oneCell' = true) := by rw [hR]; exact stO_one _
  have hwl : wk < W1.heap.size := World.block_lt_of_cell? _ _ k3
  have k3' := cell_by k3
  have hii : (i : Int) < (m : Int) := by omega
  have EW := hid hW1
  have EB := hid hb
  rw [← hB]
  generalize putA A i (joinO (A i) s) = A' at *
  clear hB hZ hR hW1 hb b1 h h1 lb lz rb rz hi
  haveI inhB : ∀ w : World, Inhabited (BelowBy w) := fun w => ⟨⟨w, Below.refl _ _⟩⟩
  go_enter Try.func23, Try.ntmps23
  go_upto_region 1 with fail
  rw [← EW.out, ← EB.out]
  clear EW EB
  refine wp_region_cutQ 15 (by kernel_rfl) (by kernel_rfl) ?_
  simp only [List.take_succ_cons, List.take_zero]
  iterate 11 go_big_quiet_step (fail)
  refine quiet_load_mid rfl 47 (.tmp 16) rfl ag (i * 147) rfl Z _ (by rintro _ ⟨p, rfl⟩; exact HRZ.out p) Try.underlying47 rfl (by rw [HLZ.out]; exact Try.sizeSt) ?_
  refine quiet_load_mid rfl 47 (.tmp 5) rfl b 0 rfl B _ (by rintro _ ⟨p, rfl⟩; exact HRB.out p) Try.underlying47 rfl (by rw [HLB.out]; exact Try.sizeSt) ?_
  simp only [Act.put, List.setIfInBounds_toArray, List.set_cons_succ, List.set_cons_zero]
  repeat (go_big_quiet_step (first | (go_at_call 39; exact calls_below _ (HC.out _))))
  refine wpQuiet_nil ?_
  intro wq hw'
  obtain ⟨⟨_, hwq⟩, hw''⟩ := hw'
  subst hw''
  simp only [List.drop_succ_cons, List.drop_zero]
  refine wpList_store_mid rfl 47 (.tmp 20) (.tmp 19) rfl ag (i * 147) R.toArray rfl rfl (by rw [List.size_toArray, HLR.out]; exact HT.out wq hwq) (by rw [List.size_toArray, HLR.out]; exact Try.sizeSt) (all_oneCell_toArray HOR.out) ?_
  refine wpList_nil ?_
  have HE := hid (HN.out wq hwq)
  exact bodyPost_end (v := .tuple #[]) (results_none Try.results23 _ _ _) rfl ⟨rfl, HE.out.1, HE.out.2⟩
end Go.Proofs.Ytmohffibkpecpaa
