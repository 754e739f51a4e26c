/- Texts of one chain, joined: WWalk, WWalk2. -/
import Derived.Test.YtajelgjbgehahaaGreatJ16
import Derived.Test.YtajelgjbgehahaaGreatJ15
namespace Go.Proofs.YtajelgjbgehahaaGreat
open Go.RowKit

theorem Tryz.infoSets : (Tryz.prog.info? 129).map (fun i => (i.zero, i.size, i.bytes)) = some (some (.agg #[.int .u64 0, .int .u64 0, .int .i64 0, .int .i64 0, .bool false]), 5, 40) := by kernel_rfl

/-- cells of sets that are none -/
@[reducible] def zCells (n : Nat) : Array Value := madeCells #[.int .u64 0, .int .u64 0, .int .i64 0, .int .i64 0, .bool false] (n * 5)

theorem zcell (n i k : Nat) (hi : i < n) (hk : k < 5) : (zCells n)[i * 5 + k]? = (#[.int .u64 0, .int .u64 0, .int .i64 0, .int .i64 0, .bool false] : Array Value)[k]? := by
  unfold zCells madeCells
  have h1 : i * 5 + k < n * 5 := by omega
  rw [Array.getElem?_map, Array.getElem?_range, if_pos h1]
  have h2 : (i * 5 + k) % 5 = k := by omega
  show some ((#[.int .u64 0, .int .u64 0, .int .i64 0, .int .i64 0, .bool false] : Array Value)[(i * 5 + k) % 5]!) = _
  rw [h2]
  rcases (show k = 0 ∨ k = 1 ∨ k = 2 ∨ k = 3 ∨ k = 4 by omega) with rfl | rfl | rfl | rfl | rfl <;> rfl

theorem ahd_made (w : World) (n : Nat) (T : TypeId) : Ahd w.heap.size (List.replicate n Wk.zero) (w.alloc (.cells (zCells n) T)) := by
  refine ⟨fun i s hs => ?_, fun o => World.frozen?_alloc_at _ _ _ _ rfl, by simp⟩
  have hi : i < n := by have := (List.getElem?_eq_some_iff.1 hs).1; simpa using this
  rw [List.getElem?_replicate, if_pos hi] at hs
  cases hs
  have c : ∀ k, k < 5 → (w.alloc (.cells (zCells n) T)).cell? ⟨w.heap.size, i * 5 + k, none⟩ = (#[.int .u64 0, .int .u64 0, .int .i64 0, .int .i64 0, .bool false] : Array Value)[k]? := fun k hk => (World.cell?_alloc_at _ _ _ _ rfl).trans (zcell n i k hi hk)
  exact ⟨c 0 (by decide), c 1 (by decide), c 2 (by decide), c 3 (by decide), c 4 (by decide)⟩

/-- There of the first one -/
theorem ahd_start {g n : Nat} {w : World} (h : Ahd g (List.replicate (n + 1) Wk.zero) w) : Ahd g (Wk.start n) (w.setCell ⟨g, 4, none⟩ (.bool true)) := by
  have h0 := h.cs 0 Wk.zero (by simp)
  rw [Nat.zero_mul] at h0
  refine ⟨fun i s hs => ?_, fun o => by rw [World.frozen?_setCell]; exact h.fz o, by rw [World.size_setCell]; exact h.lt⟩
  unfold Wk.start at hs
  rw [List.getElem?_set] at hs
  by_cases e : 0 = i
  · subst e
    rw [if_pos rfl, if_pos (by simp)] at hs
    cases hs
    rw [Nat.zero_mul]
    exact ⟨cell_other h0.c0 (by omega), cell_other h0.c1 (by omega), cell_other h0.c2 (by omega), cell_other h0.c3 (by omega), World.cell?_setCell_same _ _ _ h0.c4⟩
  · rw [if_neg e] at hs
    have hf := h.cs i s hs
    exact ⟨cell_other hf.c0 (by omega), cell_other hf.c1 (by omega), cell_other hf.c2 (by omega), cell_other hf.c3 (by omega), cell_other hf.c4 (by omega)⟩

/-- the sets when so many states have been gone over -/
def APp (p : PPlan) (h : (chkP p).1 = 0) (m : Nat) : List Wk.Sets := Wk.AP (parOf p h) m

theorem ap_inv {p : PPlan} (h : (chkP p).1 = 0) {m : Nat} (hm : m ≤ p.ss.length) : Wk.Inv (parOf p h) m (APp p h m) := Wk.inv_AP _ m hm

theorem ap_few {p : PPlan} (h : (chkP p).1 = 0) {m : Nat} (hm : m ≤ p.ss.length) : ∀ s ∈ APp p h m, s.must < 2 ^ 6 ∧ s.may < 2 ^ 6 ∧ s.least ≤ 256 ∧ s.most ≤ 256 := fun s hs => by
  obtain ⟨i, hi, rfl⟩ := List.getElem_of_mem hs
  have hinv := ap_inv h hm
  have hl : (APp p h m).length = p.ss.length + 1 := hinv.1
  have ha := hinv.2 i (by show i ≤ p.ss.length; omega)
  have e : (APp p h m).getD i Wk.zero = (APp p h m)[i] := by rw [List.getD_eq_getElem?_getD, List.getElem?_eq_getElem hi]; rfl
  rw [e] at ha
  have h8 : (p.ss.length : Int) ≤ 8 := (chk_zero h 2 (by decide)).2.1
  exact ha.small fun t b hw => by
    have := Wk.wyN_small (K := 6) (Z := 32) (bitN_lt h) (szP_le h) hm hw
    exact ⟨this.1, by omega⟩

/-- what is told of a plan's ways -/
def WalkIs (p : PPlan) (C A : Int) : Prop := ((chkP p).1 ≠ 0 ∧ C = (chkP p).1 ∧ A = (chkP p).2) ∨ ∃ h : (chkP p).1 = 0, FirstW p (APp p h p.ss.length) C A

/-- sets in a list, as they lie -/
def SetsRow (w : World) (a : Option Addr) (n : Nat) (S : List Wk.Sets) : Prop := S.length = n ∧ ∃ g, a = some ⟨g, 0, none⟩ ∧ ∀ i s, S[i]? = some s → Five w g (i * 5) s

theorem SetsRow.step {w w' : World} {a : Option Addr} {n : Nat} {S : List Wk.Sets} (h : SetsRow w a n S) (b : Below w.heap.size w w') : SetsRow w' a n S := by
  obtain ⟨h1, g, e, h2⟩ := h
  exact ⟨h1, g, e, fun i s hs => (h2 i s hs).step b⟩

def WalkDone (p : PPlan) (w : World) (e : Ending) (w' : World) : Prop := ∃ (C A : Int) (a : Option Addr) (n c : Nat), e = .returned (.tuple #[.slice a n c, .agg #[.int .i64 C, .int .i64 A]]) ∧ WalkIs p C A ∧ (C ≠ 0 → a = none ∧ n = 0 ∧ c = 0) ∧ (∀ h : (chkP p).1 = 0, C = 0 → SetsRow w' a n (APp p h p.ss.length)) ∧ Below w.heap.size w w'
/-- the plan's block and the fault's, as Walk lays them -/
structure WlkAt (d : PlanD) (w W2 : World) (s f : Nat) : Prop where
  cs : W2.cell? ⟨s, 0, none⟩ = some (.slice d.heads.a d.heads.n d.heads.c) ∧ W2.cell? ⟨s, 1, none⟩ = some (.slice d.mta.a d.mta.n d.mta.c) ∧ W2.cell? ⟨s, 2, none⟩ = some (.slice d.states.a d.states.n d.states.c) ∧ W2.cell? ⟨s, 3, none⟩ = some (.slice d.acts.a d.acts.n d.acts.c) ∧ W2.cell? ⟨s, 4, none⟩ = some (.slice d.tabs.a d.tabs.n d.tabs.c) ∧ W2.cell? ⟨s, 5, none⟩ = some (.slice d.nodes.a d.nodes.n d.nodes.c) ∧ W2.cell? ⟨s, 6, none⟩ = some (.slice d.out.a d.out.n d.out.c)
  f0 : W2.cell? ⟨f, 0, none⟩ = some (.int .i64 0)
  f1 : W2.cell? ⟨f, 1, none⟩ = some (.int .i64 0)
  fz : ∀ o, W2.frozen? ⟨f, o, none⟩ = false
  fl : f < W2.heap.size
  wf : w.heap.size ≤ f
  sl : s < f

theorem wlk_at (d : PlanD) (w : World) : WlkAt d w ((w.alloc (.cells #[.slice d.heads.a d.heads.n d.heads.c, .slice d.mta.a d.mta.n d.mta.c, .slice d.states.a d.states.n d.states.c, .slice d.acts.a d.acts.n d.acts.c, .slice d.tabs.a d.tabs.n d.tabs.c, .slice d.nodes.a d.nodes.n d.nodes.c, .slice d.out.a d.out.n d.out.c] 38)).alloc (.cells #[.int .i64 0, .int .i64 0] 28)) w.heap.size (w.heap.size + 1) := by
  refine ⟨⟨?_, ?_, ?_, ?_, ?_, ?_, ?_⟩, ?_, ?_, fun o => ?_, by simp, by omega, by omega⟩
  · exact (World.cell?_alloc_past _ _ _ (by simp)).trans ((World.cell?_alloc_at _ _ _ _ rfl).trans rfl)
  · exact (World.cell?_alloc_past _ _ _ (by simp)).trans ((World.cell?_alloc_at _ _ _ _ rfl).trans rfl)
  · exact (World.cell?_alloc_past _ _ _ (by simp)).trans ((World.cell?_alloc_at _ _ _ _ rfl).trans rfl)
  · exact (World.cell?_alloc_past _ _ _ (by simp)).trans ((World.cell?_alloc_at _ _ _ _ rfl).trans rfl)
  · exact (World.cell?_alloc_past _ _ _ (by simp)).trans ((World.cell?_alloc_at _ _ _ _ rfl).trans rfl)
  · exact (World.cell?_alloc_past _ _ _ (by simp)).trans ((World.cell?_alloc_at _ _ _ _ rfl).trans rfl)
  · exact (World.cell?_alloc_past _ _ _ (by simp)).trans ((World.cell?_alloc_at _ _ _ _ rfl).trans rfl)
  · exact (World.cell?_alloc_at _ _ _ _ (by simp)).trans rfl
  · exact (World.cell?_alloc_at _ _ _ _ (by simp)).trans rfl
  · exact World.frozen?_alloc_at _ _ _ _ (by simp)

theorem WlkAt.step {d : PlanD} {w W2 W3 : World} {s f : Nat} (h : WlkAt d w W2 s f) (b : Below W2.heap.size W2 W3) : WlkAt d w W3 s f :=
  ⟨keep7 h.cs b, cell_keep h.f0 b, cell_keep h.f1 b, fun o => (b.frozen (p := ⟨f, o, none⟩) h.fl).trans (h.fz o), Nat.lt_of_lt_of_le h.fl b.size, h.wf, h.sl⟩

set_option maxHeartbeats 8000000 in
set_option maxRecDepth 20000 in
theorem walk_bad (d : PlanD) (w : World) (hl : d.lie w) (hs : d.small) (hc : (chkP d.p).1 ≠ 0) : Calls Tryz.prog 42 #[d.v] w (WalkDone d.p w) := by
  obtain ⟨W2, hW⟩ : ∃ W2, W2 = ((w.alloc (.cells #[.slice d.heads.a d.heads.n d.heads.c, .slice d.mta.a d.mta.n d.mta.c, .slice d.states.a d.states.n d.states.c, .slice d.acts.a d.acts.n d.acts.c, .slice d.tabs.a d.tabs.n d.tabs.c, .slice d.nodes.a d.nodes.n d.nodes.c, .slice d.out.a d.out.n d.out.c] 38)).alloc (.cells #[.int .i64 0, .int .i64 0] 28)) := ⟨_, rfl⟩
  obtain ⟨s, es⟩ : ∃ s, s = w.heap.size := ⟨_, rfl⟩
  obtain ⟨f, ef⟩ : ∃ f, f = w.heap.size + 1 := ⟨_, rfl⟩
  have HA : Hid (WlkAt d w W2 s f) := by rw [hW, es, ef]; exact wlk_at d w
  have HB : Hid (Below w.heap.size w W2) := by rw [hW]; exact bl_alloc (bl_alloc (Below.refl _ _))
  have HCK := hid (check_told d W2 (hl.step HB.out) hs)
  have HE : Hid (∀ w', Below w.heap.size w w' → WalkDone d.p w (.returned (.tuple #[.slice none 0 0, .agg #[.int .i64 (chkP d.p).1, .int .i64 (chkP d.p).2]])) w') := fun w' h => ⟨_, _, none, 0, 0, rfl, .inl ⟨hc, rfl, rfl⟩, fun _ => ⟨rfl, rfl, rfl⟩, fun h' => absurd h' hc, h⟩
  have hne : ((chkP d.p).1 != 0) = true := by rw [bne_iff_ne]; exact hc
  have EW := hid hW
  have ES := hid es
  have EF := hid ef
  clear hl hs hc hW es ef
  generalize (chkP d.p).1 = C at *
  generalize (chkP d.p).2 = A at *
  go_enter Tryz.func42, Tryz.ntmps42
  go_wp2_with fail
  rw [← EW.out, ← EF.out, ← ES.out]
  refine HCK.out.mono ?_
  rintro e w1 ⟨rfl, hb1⟩
  clear HCK EW ES EF
  have HA1 := hid (HA.out.step hb1)
  have HB1 := hid (bl_step HB.out hb1)
  have c0 := HA1.out.f0
  have c1 := HA1.out.f1
  have z0 := HA1.out.fz 0
  have z1 := HA1.out.fz 1
  have hfl : f < w1.heap.size := HA1.out.fl
  have HX : Hid (∀ o, WalkDone d.p w (.returned (.tuple #[.slice none 0 0, .agg #[.int .i64 C, .int .i64 A]])) (((w1.setCell ⟨f, 0, none⟩ (.int .i64 C)).setCell ⟨f, 1, none⟩ (.int .i64 A)).alloc o).drew) := fun o => HE.out _ (bl_alloc ((HB1.out.setCell (p := ⟨f, 0, none⟩) HA.out.wf _).setCell (p := ⟨f, 1, none⟩) HA.out.wf _)).drew
  clear HA HB HA1 HE HB1 hb1
  go_wp2_with fail
  go_region
  all_goals
    go_wp2
    exact bodyPost_ret (v := .tuple #[.slice none 0 0, .agg #[.int .i64 C, .int .i64 A]]) (by simp [results, Tryz.results42, go_sem, *]) rfl (HX.out _)

/-- one state more -/
theorem ap_next {p : PPlan} (h : (chkP p).1 = 0) {k : Nat} {s : Wk.Sets} {x : PState} (hs : (APp p h k)[k]? = some s) (hx : p.ss.getD k PState.z = x) : APp p h (k + 1) = if s.there = true then Wk.leadTo (APp p h k) (Wk.shiftS (bitN x.head) (szP p x) s) (leadP p.ss.length (outsP x)) else APp p h k := by
  have e : (APp p h k).getD k Wk.zero = s := by rw [List.getD_eq_getElem?_getD, hs]; rfl
  show Wk.goOver (parOf p h) (APp p h k) k = _
  unfold Wk.goOver
  rw [e]
  by_cases ht : s.there = true
  · rw [if_pos ht, if_pos ht]
    show Wk.leadTo (APp p h k) (Wk.shiftS (bitN (p.ss.getD k PState.z).head) (szP p (p.ss.getD k PState.z)) s) (leadP p.ss.length (outsP (p.ss.getD k PState.z))) = _
    rw [hx]
  · rw [if_neg ht, if_neg ht]

/-- when the program comes to a state, its sets are what they will be -/
theorem ap_fix {p : PPlan} (h : (chkP p).1 = 0) {k m : Nat} (hk : k ≤ m) (hm : m ≤ p.ss.length) : (APp p h k).getD k Wk.zero = (APp p h m).getD k Wk.zero :=
  (((ap_inv h (Nat.le_trans hk hm)).2 k (Nat.le_trans hk hm)).congr (Wk.wyN_all (Nat.le_trans hk hm) (Nat.le_refl k))).one (((ap_inv h hm).2 k (Nat.le_trans hk hm)).congr (Wk.wyN_all hm hk))
end Go.Proofs.YtajelgjbgehahaaGreat

namespace Go.Proofs.YtajelgjbgehahaaGreat
open Go.RowKit

theorem go_any {d : PlanD} {w0 w : World} {q g k : Nat} (hl : d.lie w0) (hw : Below w0.heap.size w0 w) (hg : w0.heap.size ≤ g) (hc : (chkP d.p).1 = 0) (hb : WkB d q g w) (ha : Ahd g (APp d.p hc k) w) (hk : k < d.states.n) :
    Calls Tryz.prog 74 #[.pointer (some ⟨q, 0, none⟩), .int .i64 k] w (GoDone g (codeW d.p (APp d.p hc d.p.ss.length) k) (APp d.p hc (k + 1)) w) := by
  have en : d.p.ss.length = d.states.n := by simp [PlanD.p, hl.ss.1]
  have hlen : (APp d.p hc k).length = d.states.n + 1 := by rw [← en]; exact (ap_inv hc (by omega)).1
  have hfe := ap_few hc (m := k) (by omega)
  have hkl : k < (APp d.p hc k).length := by omega
  obtain ⟨x, hx⟩ : ∃ x, d.ss[k]? = some x := ⟨d.ss[k]'(by rw [hl.ss.1]; exact hk), List.getElem?_eq_getElem _⟩
  have hs : (APp d.p hc k)[k]? = some (APp d.p hc k)[k] := List.getElem?_eq_getElem hkl
  generalize (APp d.p hc k)[k] = s at hs
  have hsm : s ∈ APp d.p hc k := List.mem_of_getElem? hs
  have hgd : (APp d.p hc k).getD k Wk.zero = s := by rw [List.getD_eq_getElem?_getD, hs]; rfl
  have hfix := ap_fix hc (k := k) (m := d.p.ss.length) (by omega) (Nat.le_refl _)
  have hcode : codeW d.p (APp d.p hc d.p.ss.length) k = if s.there = true then wrongN x.p s else 0 := by
    unfold codeW
    rw [← hfix, hgd, p_at hx]
  have hnext := ap_next hc hs (p_at hx)
  rw [hcode, hnext]
  cases ht : s.there with
  | false =>
    simp only [Bool.false_eq_true, if_false]
    exact go_no k hb ha hs hlen ht
  | true =>
    simp only [if_true]
    rw [en]
    have hff : Few (APp d.p hc k) := fun y hy => by have := hfe y hy; exact ⟨this.1, this.2.1, by omega, by omega⟩
    exact go_yes (hl.step hw) hc hb ha hff hlen hk hx hs ht (by have := hfe s hsm; omega) fun w' h => hl.step (hw.trans (h.low.mono hg))

set_option maxHeartbeats 16000000 in
set_option maxRecDepth 20000 in
theorem walk_good (d : PlanD) (w : World) (hl : d.lie w) (hs : d.small) (hc : (chkP d.p).1 = 0) : Calls Tryz.prog 42 #[d.v] w (WalkDone d.p w) := by
  obtain ⟨W2, hW⟩ : ∃ W2, W2 = ((w.alloc (.cells #[.slice d.heads.a d.heads.n d.heads.c, .slice d.mta.a d.mta.n d.mta.c, .slice d.states.a d.states.n d.states.c, .slice d.acts.a d.acts.n d.acts.c, .slice d.tabs.a d.tabs.n d.tabs.c, .slice d.nodes.a d.nodes.n d.nodes.c, .slice d.out.a d.out.n d.out.c] 38)).alloc (.cells #[.int .i64 0, .int .i64 0] 28)) := ⟨_, rfl⟩
  obtain ⟨s, es⟩ : ∃ s, s = w.heap.size := ⟨_, rfl⟩
  obtain ⟨f, ef⟩ : ∃ f, f = w.heap.size + 1 := ⟨_, rfl⟩
  have HA : Hid (WlkAt d w W2 s f) := by rw [hW, es, ef]; exact wlk_at d w
  have HB : Hid (Below w.heap.size w W2) := by rw [hW]; exact bl_alloc (bl_alloc (Below.refl _ _))
  have HCK := hid (check_told d W2 (hl.step HB.out) hs)
  have en : d.p.ss.length = d.states.n := by simp [PlanD.p, hl.ss.1]
  have hn8 : d.states.n ≤ 8 := by have : (d.p.ss.length : Int) ≤ 8 := (chk_zero hc 2 (by decide)).2.1; omega
  obtain ⟨m, hm⟩ : ∃ m, m = d.states.n + 1 := ⟨_, rfl⟩
  obtain ⟨i0, hi, hz0, hz1, hz2⟩ := info_parts Tryz.infoSets
  have hmk : ∀ W : World, (Instr.makeSlice 122 (.int .i64 (IntKind.i64.wrap ((d.states.n : Int) + 1))) (.int .i64 (IntKind.i64.wrap ((d.states.n : Int) + 1)))).run Tryz.prog W = .ok (.slice (some ⟨W.heap.size, 0, none⟩) m m) (W.alloc (.cells (zCells m) 129)) := fun W => by
    rw [wrap_small _ (by omega) (by omega)]
    have h := run_make (P := Tryz.prog) W 122 129 i0 _ Tryz.underlying122 hi hz0 .i64 .i64 ((d.states.n : Int) + 1) ((d.states.n : Int) + 1) (by omega) (by omega) (by rw [hz2]; omega) (by omega)
    rw [show ((d.states.n : Int) + 1).toNat = m by omega, hz1] at h
    exact h
  have HMK := hid hmk
  have EW := hid hW
  have ES := hid es
  have EF := hid ef
  have HL := hid hl
  have HC := hid hc
  have EN := hid en
  have HN8 := hid hn8
  have HM := hid hm
  clear hl hs hc hW es ef hi hz0 hz1 hz2 en hn8 hm hmk
  go_enter Tryz.func42, Tryz.ntmps42
  go_wp2_with fail
  rw [← EW.out, ← EF.out, ← ES.out]
  refine HCK.out.mono ?_
  rintro e w1 ⟨rfl, hb1⟩
  rw [HC.out]
  clear HCK EW ES EF
  generalize (chkP d.p).2 = A
  obtain ⟨W3, hW3⟩ : ∃ W3, W3 = w1.alloc (.cells #[.int .i64 0, .int .i64 A] 28) := ⟨_, rfl⟩
  have b3 : Below W2.heap.size W2 W3 := by rw [hW3]; exact bl_alloc hb1
  have HA3 := hid (HA.out.step b3)
  have HB3 := hid (bl_step HB.out b3)
  have EW3 := hid hW3
  clear hb1 b3 HA HB hW3
  go_wp2_with fail
  rw [← EW3.out]
  clear EW3
  obtain ⟨z0, z1, z2, z3, z4, z5, z6⟩ := HA3.out.cs
  have hmk := HMK.out
  clear HMK
  go_region_held3 (fun w' => w'.cell? ⟨s, 0, none⟩ = some (.slice d.heads.a d.heads.n d.heads.c) ∧ w'.cell? ⟨s, 1, none⟩ = some (.slice d.mta.a d.mta.n d.mta.c) ∧ w'.cell? ⟨s, 2, none⟩ = some (.slice d.states.a d.states.n d.states.c) ∧ w'.cell? ⟨s, 3, none⟩ = some (.slice d.acts.a d.acts.n d.acts.c) ∧ w'.cell? ⟨s, 4, none⟩ = some (.slice d.tabs.a d.tabs.n d.tabs.c) ∧ w'.cell? ⟨s, 5, none⟩ = some (.slice d.nodes.a d.nodes.n d.nodes.c) ∧ w'.cell? ⟨s, 6, none⟩ = some (.slice d.out.a d.out.n d.out.c))
    (first
      | (go_split_ands; with_reducible exact keep7 ⟨by assumption, by assumption, by assumption, by assumption, by assumption, by assumption, by assumption⟩ (bl_alloc (Below.refl _ _)))
      | go_keep)
    (fail)
  clear hmk z0 z1 z2 z3 z4 z5 z6
  obtain ⟨g, hg⟩ : ∃ g, g = W3.heap.size := ⟨_, rfl⟩
  obtain ⟨q, hq⟩ : ∃ q, q = W3.heap.size + 1 := ⟨_, rfl⟩
  obtain ⟨W5, hW5⟩ : ∃ W5, W5 = ((W3.alloc (.cells (zCells m) 129)).alloc (.cells #[.slice d.heads.a d.heads.n d.heads.c, .slice d.mta.a d.mta.n d.mta.c, .slice d.states.a d.states.n d.states.c, .slice d.acts.a d.acts.n d.acts.c, .slice d.tabs.a d.tabs.n d.tabs.c, .slice d.nodes.a d.nodes.n d.nodes.c, .slice d.out.a d.out.n d.out.c, .slice (some ⟨W3.heap.size, 0, none⟩) m m] 172)).drew := ⟨_, rfl⟩
  have b5 : Below W3.heap.size W3 W5 := by rw [hW5]; exact (bl_alloc (bl_alloc (Below.refl _ _))).drew
  have a5 : Ahd g (List.replicate (d.states.n + 1) Wk.zero) W5 := by
    rw [hW5, hg, ← HM.out]
    exact ((ahd_made W3 m 129).step (bl_alloc (Below.refl _ _))).step (Below.refl _ _).drew
  have hqg : q ≠ g := by omega
  have k5 : WkB d q g W5 := by
    refine ⟨?_, ?_, ?_, hqg⟩
    · rw [hW5, hq]; exact (World.cell?_alloc_at _ _ _ _ (by simp)).trans rfl
    · rw [hW5, hq]; exact (World.cell?_alloc_at _ _ _ _ (by simp)).trans rfl
    · rw [hW5, hq, hg, ← HM.out]; exact (World.cell?_alloc_at _ _ _ _ (by simp)).trans rfl
  rw [← hW5, ← hq, ← hg]
  have HA5 := hid (HA3.out.step b5)
  have hgs : s ≠ g := by
    have h : s < W3.heap.size := World.block_lt_of_cell? W3 _ HA3.out.cs.1
    omega
  have hgf : f ≠ g := by have := HA3.out.fl; omega
  have hwg : w.heap.size ≤ g := by rw [hg]; exact HB3.out.size
  obtain ⟨W6, hW6⟩ : ∃ W6, W6 = W5.setCell ⟨g, 4, none⟩ (.bool true) := ⟨_, rfl⟩
  have B6 : But g W5 W6 := by rw [hW6]; exact set_but
  have HA6 : Hid (Ahd g (APp d.p HC.out 0) W6) := by
    show Ahd g (Wk.start d.p.ss.length) W6
    rw [hW6, EN.out]
    exact ahd_start a5
  have HK6 := hid (k5.but B6)
  have HB6 : Hid (Below w.heap.size w W6) := (bl_step HB3.out b5).trans (B6.low.mono hwg)
  have HS6 : Hid (W6.cell? ⟨s, 2, none⟩ = some (.slice d.states.a d.states.n d.states.c) ∧ W6.cell? ⟨f, 0, none⟩ = some (.int .i64 0) ∧ W6.cell? ⟨f, 1, none⟩ = some (.int .i64 0) ∧ (∀ o, W6.frozen? ⟨f, o, none⟩ = false) ∧ f < W6.heap.size) := ⟨B6.cell hgs HA5.out.cs.2.2.1, B6.cell hgf HA5.out.f0, B6.cell hgf HA5.out.f1, fun o => (B6.frozen hgf HA5.out.fl).trans (HA5.out.fz o), Nat.lt_of_lt_of_le HA5.out.fl B6.size⟩
  have hwf : Hid (w.heap.size ≤ f) := HA5.out.wf
  have c7 := k5.h7
  have hmp : (0 : Int) < (m : Int) := by have := HM.out; omega
  rw [← HM.out] at c7
  have y4 := (a5.cs 0 Wk.zero (by simp)).c4
  simp only [Nat.zero_mul, Nat.zero_add] at y4
  have fz4 := a5.fz 4
  have x2 : W5.cell? ⟨s, 2, none⟩ = some (.slice d.states.a d.states.n d.states.c) := HA5.out.cs.2.2.1
  have E6 := hid hW6
  have HQG := hid hqg
  have HGF := hid hgf
  have HGS := hid hgs
  have HWG := hid hwg
  clear hW5 hq hg b5 a5 k5 HA5 HA3 HB3 B6 hW6 hwg hgf
  go_wp2
  rw [← E6.out]
  have HBT : Hid (∀ k wr, But g W6 wr → Ahd g (APp d.p HC.out k) wr → k < d.states.n → Calls Tryz.prog 74 #[.pointer (some ⟨q, 0, none⟩), .int .i64 k] wr (GoDone g (codeW d.p (APp d.p HC.out d.p.ss.length) k) (APp d.p HC.out (k + 1)) wr)) := fun k wr h1 h2 h3 => go_any HL.out (HB6.out.trans (h1.low.mono HWG.out)) HWG.out HC.out (HK6.out.but h1) h2 h3
  have HFF : Hid (∀ wr, But g W6 wr → wr.cell? ⟨f, 0, none⟩ = some (.int .i64 0) ∧ wr.cell? ⟨f, 1, none⟩ = some (.int .i64 0) ∧ wr.frozen? ⟨f, 0, none⟩ = false ∧ wr.frozen? ⟨f, 1, none⟩ = false ∧ wr.cell? ⟨q, 7, none⟩ = some (.slice (some ⟨g, 0, none⟩) m m)) := fun wr h => ⟨h.cell HGF.out HS6.out.2.1, h.cell HGF.out HS6.out.2.2.1, (h.frozen HGF.out HS6.out.2.2.2.2).trans (HS6.out.2.2.2.1 0), (h.frozen HGF.out HS6.out.2.2.2.2).trans (HS6.out.2.2.2.1 1), by have := (HK6.out.but h).h7; rwa [← HM.out] at this⟩
  have HBL : Hid (∀ wr x y, But g W6 wr → Below w.heap.size w ((wr.setCell ⟨f, 0, none⟩ x).setCell ⟨f, 1, none⟩ y)) := fun wr x y h => ((HB6.out.trans (h.low.mono HWG.out)).setCell (p := ⟨f, 0, none⟩) hwf.out _).setCell (p := ⟨f, 1, none⟩) hwf.out _
  clear E6 c7 y4 fz4 x2 hgs hmp hqg HS6 HK6 HB6
  go_loopw [31, 6, 7] (fun qv _ _ wr => ∃ k : Nat, k ≤ d.states.n ∧ qv = .int .i64 k ∧ Hid (Ahd g (APp d.p HC.out k) wr) ∧ Hid (But g W6 wr) ∧ Hid (∀ j, j < k → codeW d.p (APp d.p HC.out d.p.ss.length) j = 0)) (fun qv _ _ _ => d.states.n - (intOf qv).toNat)
  case atStart => exact ⟨0, Nat.zero_le _, rfl, HA6, But.refl _ _, fun j hj => absurd hj (Nat.not_lt_zero _)⟩
  case round =>
    obtain ⟨k, hk, rfl, HAJ, HBJ, HPJ⟩ := hrel
    by_cases hlt : k < d.states.n
    · have hki : (k : Int) < (d.states.n : Int) := by omega
      have HG := hid (HBT.out k wr HBJ.out HAJ.out hlt)
      have h3k : IntKind.i64.wrap (3000 + (k : Int)) = 3000 + (k : Int) := wrap_small _ (by omega) (by have := HN8.out; omega)
      clear HAJ
      go_wp2_with fail
      refine HG.out.mono ?_
      rintro e w4 ⟨rfl, hb4, ha4⟩
      have HB4 := hid (HBJ.out.trans hb4)
      have HA4 := hid ha4
      obtain ⟨y0, y1, f0, f1, _⟩ := HFF.out w4 HB4.out
      obtain ⟨C, eC⟩ : ∃ C, C = codeW d.p (APp d.p HC.out d.p.ss.length) k := ⟨_, rfl⟩
      rw [← eC]
      by_cases hC : C = 0
      · have RA := hid (HA4.out (by rw [← eC]; exact hC))
        have RP : Hid (∀ j, j < k + 1 → codeW d.p (APp d.p HC.out d.p.ss.length) j = 0) := fun j hj => by
          by_cases e : j = k
          · subst e; rw [← eC]; exact hC
          · exact HPJ.out j (by omega)
        subst hC
        have hn8 := HN8.out
        clear h3k
        clear HG hb4 ha4 HA4 HPJ HBJ eC y0 y1 f0 f1
        go_wp2
        go_roundw
        case rel => exact ⟨k + 1, by omega, by go_num, RA, HB4, RP⟩
        case measure => simp [intOf]; omega
      · have hCn : (C != 0) = true := by rw [bne_iff_ne]; exact hC
        have HE : Hid (WalkDone d.p w (.returned (.tuple #[.slice none 0 0, .agg #[.int .i64 C, .int .i64 (3000 + (k : Int))]])) ((w4.setCell ⟨f, 0, none⟩ (.int .i64 C)).setCell ⟨f, 1, none⟩ (.int .i64 (3000 + (k : Int))))) := ⟨C, 3000 + (k : Int), none, 0, 0, rfl, .inr ⟨HC.out, .inl ⟨k, by rw [EN.out]; exact hlt, by rw [← eC]; exact hC, HPJ.out, eC, rfl⟩⟩, fun _ => ⟨rfl, rfl, rfl⟩, fun _ h => absurd h hC, HBL.out _ _ _ HB4.out⟩
        clear HG hb4 ha4 HA4 HPJ HBJ eC hC
        go_wp2
        exact bodyPost_ret (v := .tuple #[.slice none 0 0, .agg #[.int .i64 C, .int .i64 (3000 + (k : Int))]]) (by simp [results, Tryz.results42, go_sem, *]) rfl HE.out
    · have ek : k = d.states.n := by omega
      have hki : ¬ (k : Int) < (d.states.n : Int) := by omega
      obtain ⟨y0, y1, f0, f1, y7⟩ := HFF.out wr HBJ.out
      have HE : Hid (WalkDone d.p w (.returned (.tuple #[.slice (some ⟨g, 0, none⟩) m m, .agg #[.int .i64 0, .int .i64 0]])) ((wr.setCell ⟨f, 0, none⟩ (.int .i64 0)).setCell ⟨f, 1, none⟩ (.int .i64 0))) := by
        refine ⟨0, 0, _, m, m, rfl, .inr ⟨HC.out, .inr ⟨fun j hj => HPJ.out j (by rw [EN.out] at hj; omega), rfl, rfl⟩⟩, fun h => absurd rfl h, fun h _ => ?_, HBL.out _ _ _ HBJ.out⟩
        have ha := HAJ.out
        rw [ek, ← EN.out] at ha
        refine ⟨by rw [HM.out, ← EN.out]; exact (ap_inv h (Nat.le_refl _)).1, g, rfl, fun i t ht => ?_⟩
        have k1 : But f wr (wr.setCell ⟨f, 0, none⟩ (.int .i64 0)) := set_but
        have k2 : But f (wr.setCell ⟨f, 0, none⟩ (.int .i64 0)) ((wr.setCell ⟨f, 0, none⟩ (.int .i64 0)).setCell ⟨f, 1, none⟩ (.int .i64 0)) := set_but
        exact (k1.trans k2).five (Ne.symm HGF.out) (ha.cs i t ht)
      clear HAJ HBJ HPJ HBT HFF HBL ek
      go_wp2
      exact bodyPost_ret (v := .tuple #[.slice (some ⟨g, 0, none⟩) m m, .agg #[.int .i64 0, .int .i64 0]]) (by simp [results, Tryz.results42, go_sem, *]) rfl HE.out

/-- what Walk does with a plan -/
theorem walk_any (d : PlanD) (w : World) (hl : d.lie w) (hs : d.small) : Calls Tryz.prog 42 #[d.v] w (WalkDone d.p w) := by
  by_cases hc : (chkP d.p).1 = 0
  · exact walk_good d w hl hs hc
  · exact walk_bad d w hl hs hc
end Go.Proofs.YtajelgjbgehahaaGreat
