/- guard's walker: as it lies; lead. -/
import Derived.Test.YtjmlkaciibdpaaaHBeh0
namespace Go.Proofs.Ytjmlkaciibdpaaa
open Go.RowKit

/-- a whole struct is read in a region that draws its order, quietly -/
theorem quiet_load_mid {P : Program} {ops : Array Oper} {C : World → Prop} {Q : Act → Prop} {o : Oper} {rest : List Oper} {a : Act} (hg : o.guard = none) (ty : TypeId) (x : Operand) (ho : o.op = .load ty x) (b off : Nat) (hx : a.eval x = .pointer (some ⟨b, off, none⟩)) (cs : List Value) (d : TypeDesc) (hS : ∀ w, C w → w.rangeAt b off cs)
    (hu : P.underlying ty = some d) (hd : d.isRow = true) (hi : (P.info? ty).map (·.size) = some cs.length) (h : wpQuiet P ops C Q rest (a.put o.dst (.agg cs.toArray))) : wpQuiet P ops C Q (o :: rest) a := by
  refine wpQuiet_step fun K hK => ?_
  simp only [Region.wanted, hg, if_true]
  refine ⟨.agg cs.toArray, fun w hw => ?_, hK _ h⟩
  unfold Oper.quietAt execOp
  simp only [ho, hx, Instr.loadAt, Instr.sureAddr, Sem.run_bind, Sem.run_pure, Result.andThen_ok, run_loadVar_mid w b off ty cs d (hS w hw) hu hd hi]
  exact ⟨rfl, rfl⟩

structure WkAt (w : World) (wk ag m : Nat) (d : ProgD) (A : Nat → Option SD) : Prop where
  k1 : w.cell? ⟨wk, 1, none⟩ = some (.slice d.tabs.a d.tabs.n d.tabs.c)
  k2 : w.cell? ⟨wk, 2, none⟩ = some (.slice d.code.a d.code.n d.code.c)
  k3 : w.cell? ⟨wk, 3, none⟩ = some (.slice (some ⟨ag, 0, none⟩) m m)
  st : ∀ j, j < m → w.rangeAt ag (j * 147) (stO (A j))
  th : ∀ j, j < m → w.there ag (j * 147) 147
  lie : d.lie w
  ne : wk ≠ ag
  ft : ∀ ad, d.tabs.a = some ad → 0 < d.tabs.n → ad.block ≠ ag ∧ ad.block < w.heap.size
  fc : ∀ ad, d.code.a = some ad → 0 < d.code.n → ad.block ≠ ag ∧ ad.block < w.heap.size
theorem WkAt.step {w w' : World} {wk ag m : Nat} {d : ProgD} {A : Nat → Option SD} (h : WkAt w wk ag m d A) (b : Below w.heap.size w w') : WkAt w' wk ag m d A :=
  ⟨cell_keep h.k1 b, cell_keep h.k2 b, cell_keep h.k3 b, fun j hj => range_step (h.st j hj) b, fun j hj => there_step (h.th j hj) b, h.lie.step b, h.ne, fun ad e n0 => ⟨(h.ft ad e n0).1, Nat.lt_of_lt_of_le (h.ft ad e n0).2 b.size⟩, fun ad e n0 => ⟨(h.fc ad e n0).1, Nat.lt_of_lt_of_le (h.fc ad e n0).2 b.size⟩⟩
theorem WkAt.put {w : World} {wk ag m : Nat} {d : ProgD} {A : Nat → Option SD} (h : WkAt w wk ag m d A) {i : Nat} (hi : i < m) (s : SD) : WkAt (w.setCells ag (i * 147) (stO (some s))) wk ag m d (putA A i s) := by
  have hr := HRn.puts ag (stO (some s)) (i * 147) w
  refine ⟨hr.cell h.ne h.k1, hr.cell h.ne h.k2, hr.cell h.ne h.k3, fun j hj => ?_, fun j hj => World.there_setCells (h.th j hj) _ _ _, hr.lie h.lie h.ft h.fc, h.ne, fun ad e n0 => ⟨(h.ft ad e n0).1, Nat.lt_of_lt_of_le (h.ft ad e n0).2 hr.size⟩, fun ad e n0 => ⟨(h.fc ad e n0).1, Nat.lt_of_lt_of_le (h.fc ad e n0).2 hr.size⟩⟩
  by_cases e : j = i
  · subst e
    rw [show putA A j s j = some s by simp [putA]]
    exact World.rangeAt_setCells_same _ _ _ _ (by rw [stO_len]; exact h.th j hj)
  · rw [show putA A i s j = A j by simp [putA, e]]
    refine World.rangeAt_setCells_apart (h.st j hj) ag _ _ (.inr ?_)
    rw [stO_len, stO_len]
    omega

/-- what lead does -/
def LeadIs (w : World) (wk ag m : Nat) (d : ProgD) (A : Nat → Option SD) (e : Ending) (w' : World) : Prop := e = .returned (.tuple #[]) ∧ WkAt w' wk ag m d A ∧ HRn ag w w'

set_option maxHeartbeats 4000000 in
set_option maxRecDepth 20000 in
theorem hlead {w : World} {wk ag m : Nat} {d : ProgD} {A : Nat → Option SD} (h : WkAt w wk ag m d A) (i : Nat) (hi : i < m) (s : SD) : Calls Try.prog 24 #[vptr wk, .int .i64 (i : Int), .agg (stO (some s)).toArray] w (LeadIs w wk ag m d (putA A i (joinO (A i) s))) := by
  obtain ⟨B, hB⟩ : ∃ A, A = stO (some s) := ⟨_, rfl⟩
  obtain ⟨Z, hZ⟩ : ∃ Z, Z = stO (A i) := ⟨_, rfl⟩
  obtain ⟨R, hR⟩ : ∃ Z, Z = stO (some (joinO (A i) s)) := ⟨_, rfl⟩
  obtain ⟨W1, hW1⟩ : ∃ W, W = w.alloc (.cells B.toArray 49) := ⟨_, rfl⟩
  obtain ⟨b, hb⟩ : ∃ b, b = w.heap.size := ⟨_, rfl⟩
  have b1 : Below w.heap.size w W1 := by rw [hW1]; exact bl_alloc (Below.refl _ _)
  have h1 := h.step b1
  have k3 := h1.k3
  have lb : B.length = 147 := by rw [hB]; exact stO_len _
  have lz : Z.length = 147 := by rw [hZ]; exact stO_len _
  have rb : W1.rangeAt b 0 B := by rw [hW1, hb]; exact range_new _ _ _
  have rz : W1.rangeAt ag (i * 147) Z := by rw [hZ]; exact h1.st i hi
  have HRB : Hid (∀ p : BelowBy W1, p.to.rangeAt b 0 B) := fun p => range_step rb p.h
  have HRZ : Hid (∀ p : BelowBy W1, p.to.rangeAt ag (i * 147) Z) := fun p => range_step rz p.h
  have HLB := hid lb
  have HLZ := hid lz
  have HC : Hid (∀ q : BelowBy W1, Calls Try.prog 40 #[.agg Z.toArray, .agg B.toArray] q.to fun e w' => e = .returned (.agg R.toArray) ∧ Below q.to.heap.size q.to w') := fun q => by
    rw [hZ, hB, hR]
    exact hst (A i) s q.to
  have HN : Hid (∀ wq, Below W1.heap.size W1 wq → WkAt (wq.setCells ag (i * 147) R) wk ag m d (putA A i (joinO (A i) s)) ∧ HRn ag w (wq.setCells ag (i * 147) R)) := fun wq hq => by
    rw [hR]
    exact ⟨(h1.step hq).put hi _, (HRn.of (bl_step b1 hq)).trans (HRn.puts ag _ _ _)⟩
  have HT : Hid (∀ wq, Below W1.heap.size W1 wq → wq.there ag (i * 147) 147) := fun wq hq => there_step (h1.th i hi) hq
  have HLR : Hid (R.length = 147) := by rw [hR]; exact stO_len _
  have HOR : Hid (∀ v ∈ R, v.oneCell' = true) := by rw [hR]; exact stO_one _
  have hwl : wk < W1.heap.size := World.block_lt_of_cell? _ _ k3
  have k3' := cell_by k3
  have hii : (i : Int) < (m : Int) := by omega
  have EW := hid hW1
  have EB := hid hb
  rw [← hB]
  generalize putA A i (joinO (A i) s) = A' at *
  clear hB hZ hR hW1 hb b1 h h1 lb lz rb rz hi
  haveI inhB : ∀ w : World, Inhabited (BelowBy w) := fun w => ⟨⟨w, Below.refl _ _⟩⟩
  go_enter Try.func24, Try.ntmps24
  go_upto_region 1 with fail
  rw [← EW.out, ← EB.out]
  clear EW EB
  refine wp_region_cutQ 15 (by kernel_rfl) (by kernel_rfl) ?_
  simp only [List.take_succ_cons, List.take_zero]
  iterate 11 go_big_quiet_step (fail)
  refine quiet_load_mid rfl 49 (.tmp 16) rfl ag (i * 147) rfl Z _ (by rintro _ ⟨p, rfl⟩; exact HRZ.out p) Try.underlying49 rfl (by rw [HLZ.out]; exact Try.sizeSt) ?_
  refine quiet_load_mid rfl 49 (.tmp 5) rfl b 0 rfl B _ (by rintro _ ⟨p, rfl⟩; exact HRB.out p) Try.underlying49 rfl (by rw [HLB.out]; exact Try.sizeSt) ?_
  simp only [Act.put, List.setIfInBounds_toArray, List.set_cons_succ, List.set_cons_zero]
  repeat (go_big_quiet_step (first | (go_at_call 40; exact calls_below _ (HC.out _))))
  refine wpQuiet_nil ?_
  intro wq hw'
  obtain ⟨⟨_, hwq⟩, hw''⟩ := hw'
  subst hw''
  simp only [List.drop_succ_cons, List.drop_zero]
  refine wpList_store_mid rfl 49 (.tmp 20) (.tmp 19) rfl ag (i * 147) R.toArray rfl rfl (by rw [List.size_toArray, HLR.out]; exact HT.out wq hwq) (by rw [List.size_toArray, HLR.out]; exact Try.sizeSt) (all_oneCell_toArray HOR.out) ?_
  refine wpList_nil ?_
  have HE := hid (HN.out wq hwq)
  exact bodyPost_end (v := .tuple #[]) (results_none Try.results24 _ _ _) rfl ⟨rfl, HE.out.1, HE.out.2⟩
end Go.Proofs.Ytjmlkaciibdpaaa
