/- Texts of one chain, joined: FFlow, FBeg. -/
import Derived.Test.YtajelgjbgehahaaGreatJF2
import Derived.Test.YtajelgjbgehahaaGreatJF1
import Derived.Test.YtajelgjbgehahaaGreatJ17
import Derived.Deep.CutRange
import Derived.Test.YtajelgjbgehahaaGreatVWTwo
namespace Go.Proofs.YtajelgjbgehahaaGreat
open Go.RowKit

/-- what stands ahead of node 0 -/
def startN (p : PPlan) (h : (chkP p).1 = 0) : Nat := if ((APp p h p.ss.length).getD p.ss.length Wk.zero).there = true then ((APp p h p.ss.length).getD p.ss.length Wk.zero).must else onesN

theorem startN_lt {p : PPlan} (h : (chkP p).1 = 0) : startN p h < 2 ^ 64 := by
  unfold startN
  split
  · have hl : (APp p h p.ss.length).length = p.ss.length + 1 := (ap_inv h (Nat.le_refl _)).1
    have hm : (APp p h p.ss.length).getD p.ss.length Wk.zero ∈ APp p h p.ss.length := by
      rw [List.getD_eq_getElem?_getD, List.getElem?_eq_getElem (by omega)]
      exact List.getElem_mem _
    exact few64 (ap_few h (Nat.le_refl _) _ hm).1
  · exact ones_lt

def FlowIs (p : PPlan) (C A : Int) : Prop := (WalkIs p C A ∧ C ≠ 0) ∨ ∃ h : (chkP p).1 = 0, WalkIs p 0 0 ∧ FirstF p (startN p h) C A

def FlowDone (p : PPlan) (w : World) (e : Ending) (w' : World) : Prop := ∃ (C A : Int) (a : Option Addr) (n c : Nat), e = .returned (.tuple #[.slice a n c, .agg #[.int .i64 C, .int .i64 A]]) ∧ FlowIs p C A ∧ (C ≠ 0 → a = none ∧ n = 0 ∧ c = 0) ∧ (∀ h : (chkP p).1 = 0, C = 0 → Has .u64 w' a n (flowL p (startN p h))) ∧ Below w.heap.size w w'

theorem walkis_zero {p : PPlan} {A : Int} (h : WalkIs p 0 A) : A = 0 ∧ (chkP p).1 = 0 := by
  rcases h with ⟨h1, h2, _⟩ | ⟨h1, ⟨i, _, hc, _, h2, _⟩ | ⟨_, _, h2⟩⟩
  · exact absurd h2.symm h1
  · exact absurd h2.symm hc
  · exact ⟨h2, h1⟩

theorem ahU_has {g m : Nat} {A : List Nat} {w : World} (h : AhU g A w) (hl : A.length = m) (h64 : ∀ a ∈ A, a < 2 ^ 64) : Has .u64 w (some ⟨g, 0, none⟩) m (A.map fun (n : Nat) => (n : Int)) := by
  refine ⟨by simpa using hl, fun n hn => ?_, .inr ⟨g, 0, rfl, h.lt, fun i hi => ?_⟩⟩
  · obtain ⟨a, ha, rfl⟩ := List.mem_map.1 hn
    have := h64 a ha
    simp [Lit.wf, IntKind.min, IntKind.max, IntKind.bits, IntKind.signed]
    omega
  · have hx : A[i]? = some A[i] := List.getElem?_eq_getElem (by omega)
    rw [Nat.zero_add, h.cs i _ hx, List.getD_eq_getElem?_getD, List.getElem?_map, hx]
    rfl

theorem flow_start {p : PPlan} {st m : Nat} (hm : m = p.ns.length + 1) (hst : st < 2 ^ 64) : (List.replicate m onesN).set 0 (onesN &&& st) = flowA p st 0 := by
  subst hm
  rw [ones_and hst]
  refine List.ext_getElem? fun j => ?_
  rw [List.getElem?_set]
  by_cases hj : j ≤ p.ns.length
  · rw [flowA_at hj]
    by_cases e : 0 = j
    · subst e
      rw [if_pos rfl, if_pos (by simp)]
      rfl
    · rw [if_neg e, List.getElem?_replicate, if_pos (by omega)]
      unfold SN
      rw [if_neg (by omega)]
  · rw [if_neg (by omega), List.getElem?_eq_none (by simp; omega), List.getElem?_eq_none (by rw [flowA_len]; omega)]

theorem flow_start1 {p : PPlan} {m : Nat} (hm : m = p.ns.length + 1) : List.replicate m onesN = flowA p onesN 0 := by
  rw [← flow_start hm ones_lt]
  have e : onesN &&& onesN = onesN := and_ones ones_lt
  rw [e]
  refine (set_same ?_).symm
  rw [List.getElem?_replicate, if_pos (by omega)]

/-- the walker's cells stored -/
@[reducible] def put8 (d : PlanD) (g m v : Nat) (w : World) : World := ((((((((w.setCell ⟨v, 0, none⟩ (.slice d.heads.a d.heads.n d.heads.c)).setCell ⟨v, 1, none⟩ (.slice d.mta.a d.mta.n d.mta.c)).setCell ⟨v, 2, none⟩ (.slice d.states.a d.states.n d.states.c)).setCell ⟨v, 3, none⟩ (.slice d.acts.a d.acts.n d.acts.c)).setCell ⟨v, 4, none⟩ (.slice d.tabs.a d.tabs.n d.tabs.c)).setCell ⟨v, 5, none⟩ (.slice d.nodes.a d.nodes.n d.nodes.c)).setCell ⟨v, 6, none⟩ (.slice d.out.a d.out.n d.out.c)).setCell ⟨v, 7, none⟩ (.slice (some ⟨g, 0, none⟩) m m))

theorem put8_but (d : PlanD) (g m v : Nat) (w : World) : But v w (put8 d g m v w) := (((((((set_but.trans set_but).trans set_but).trans set_but).trans set_but).trans set_but).trans set_but).trans set_but)

theorem put8_wk {d : PlanD} {g m v : Nat} {w : World} (h : ∀ i, i < 8 → w.cell? ⟨v, i, none⟩ = some (.slice none 0 0)) : WkF d g m v (put8 d g m v w) := by
  have c : ∀ {W : World} {i j : Nat} {x : Value} {u : Value}, W.cell? ⟨v, i, none⟩ = some x → (W.setCell ⟨v, j, none⟩ u).cell? ⟨v, i, none⟩ = some (if j = i then u else x) := fun {W i j x u} hx => by
    by_cases e : j = i
    · subst e
      rw [if_pos rfl]
      exact World.cell?_setCell_same _ _ _ hx
    · rw [if_neg e]
      exact cell_other hx e
  intro i x hx
  have hi : i < 8 := (Array.getElem?_eq_some_iff.1 hx).1
  have h0 := h i hi
  refine (c (c (c (c (c (c (c (c h0)))))))).trans ?_
  rcases (show i = 0 ∨ i = 1 ∨ i = 2 ∨ i = 3 ∨ i = 4 ∨ i = 5 ∨ i = 6 ∨ i = 7 by omega) with rfl | rfl | rfl | rfl | rfl | rfl | rfl | rfl
  all_goals
    rw [← hx]
    rfl

theorem WlkAt.but {d : PlanD} {w W W' : World} {s f g : Nat} (h : WlkAt d w W s f) (b : But g W W') (hs : s ≠ g) (hf : f ≠ g) : WlkAt d w W' s f := by
  obtain ⟨⟨c0, c1, c2, c3, c4, c5, c6⟩, f0, f1, fz, fl, wf, sl⟩ := h
  exact ⟨⟨b.cell hs c0, b.cell hs c1, b.cell hs c2, b.cell hs c3, b.cell hs c4, b.cell hs c5, b.cell hs c6⟩, b.cell hf f0, b.cell hf f1, fun o => (b.frozen hf fl).trans (fz o), Nat.lt_of_lt_of_le fl b.size, wf, sl⟩

/-- what Flow has laid when it begins to go -/
structure FlAt (d : PlanD) (W3 : World) (m v g : Nat) (w : World) : Prop where
  wk : WkF d g m v w
  ah : AhU g (List.replicate m onesN) w
  bl : Below W3.heap.size W3 w
  ne : v ≠ g
  gl : W3.heap.size ≤ g
  vl : W3.heap.size ≤ v

theorem flA (d : PlanD) {W3 W wx : World} {m g : Nat} (h3 : Below W3.heap.size W3 W) (hb : Below W.heap.size W wx) (hg : W.heap.size ≤ g) (ha : AhU g (List.replicate m onesN) wx) : FlAt d W3 m wx.heap.size g (wx.alloc (.cells (fwkA d g m) 127)) := by
  have hb3 : Below W3.heap.size W3 wx := bl_step h3 hb
  exact ⟨wkF_new d g m wx, ha.step (bl_alloc (Below.refl _ _)), bl_alloc hb3, by have := ha.lt; omega, Nat.le_trans h3.size hg, hb3.size⟩

theorem flB (d : PlanD) {W3 W wx : World} {m g v : Nat} (h3 : Below W3.heap.size W3 W) (hv : v < W.heap.size) (hv3 : W3.heap.size ≤ v) (hb : Below W.heap.size W wx) (hg : W.heap.size ≤ g) (ha : AhU g (List.replicate m onesN) wx) (hz : ∀ i, i < 8 → W.cell? ⟨v, i, none⟩ = some (.slice none 0 0)) : FlAt d W3 m v g (put8 d g m v wx) := by
  have hn : g ≠ v := by omega
  have hb3 := bl_step h3 hb
  exact ⟨put8_wk fun i hi => cell_keep (hz i hi) hb, ha.but (put8_but d g m v wx) hn, hb3.trans ((put8_but d g m v wx).low.mono hv3), Ne.symm hn, Nat.le_trans h3.size hg, hv3⟩

theorem keep7w {w w' : World} {s v : Nat} {v0 v1 v2 v3 v4 v5 v6 : Value} (hn : s ≠ v) (h : w.cell? ⟨s, 0, none⟩ = some v0 ∧ w.cell? ⟨s, 1, none⟩ = some v1 ∧ w.cell? ⟨s, 2, none⟩ = some v2 ∧ w.cell? ⟨s, 3, none⟩ = some v3 ∧ w.cell? ⟨s, 4, none⟩ = some v4 ∧ w.cell? ⟨s, 5, none⟩ = some v5 ∧ w.cell? ⟨s, 6, none⟩ = some v6) (k : But v w w') : w'.cell? ⟨s, 0, none⟩ = some v0 ∧ w'.cell? ⟨s, 1, none⟩ = some v1 ∧ w'.cell? ⟨s, 2, none⟩ = some v2 ∧ w'.cell? ⟨s, 3, none⟩ = some v3 ∧ w'.cell? ⟨s, 4, none⟩ = some v4 ∧ w'.cell? ⟨s, 5, none⟩ = some v5 ∧ w'.cell? ⟨s, 6, none⟩ = some v6 := by
  obtain ⟨h0, h1, h2, h3, h4, h5, h6⟩ := h
  exact ⟨k.cell hn h0, k.cell hn h1, k.cell hn h2, k.cell hn h3, k.cell hn h4, k.cell hn h5, k.cell hn h6⟩

set_option maxHeartbeats 16000000 in
set_option maxRecDepth 20000 in
theorem flow_any (d : PlanD) (w : World) (hl : d.lie w) (hs : d.small) : Calls Tryz.prog 21 #[d.v] w (FlowDone d.p w) := by
  obtain ⟨W2, hW⟩ : ∃ W2, W2 = ((w.alloc (.cells #[.slice d.heads.a d.heads.n d.heads.c, .slice d.mta.a d.mta.n d.mta.c, .slice d.states.a d.states.n d.states.c, .slice d.acts.a d.acts.n d.acts.c, .slice d.tabs.a d.tabs.n d.tabs.c, .slice d.nodes.a d.nodes.n d.nodes.c, .slice d.out.a d.out.n d.out.c] 38)).alloc (.cells #[.int .i64 0, .int .i64 0] 28)) := ⟨_, rfl⟩
  obtain ⟨s, es⟩ : ∃ s, s = w.heap.size := ⟨_, rfl⟩
  obtain ⟨f, ef⟩ : ∃ f, f = w.heap.size + 1 := ⟨_, rfl⟩
  have HA : Hid (WlkAt d w W2 s f) := by rw [hW, es, ef]; exact wlk_at d w
  have HB : Hid (Below w.heap.size w W2) := by rw [hW]; exact bl_alloc (bl_alloc (Below.refl _ _))
  have HCK := hid (walk_any d W2 (hl.step HB.out) hs)
  have EW := hid hW
  have ES := hid es
  have EF := hid ef
  have HL := hid hl
  clear hl hs hW es ef
  go_enter Tryz.func21, Tryz.ntmps21
  go_wp2_with fail
  rw [← EW.out, ← EF.out, ← ES.out]
  refine HCK.out.mono ?_
  rintro e w1 ⟨C, A, sa, sn, sc, rfl, hi, hne, hro, hb1⟩
  clear HCK EW ES EF
  obtain ⟨W3, hW3⟩ : ∃ W3, W3 = w1.alloc (.cells #[.int .i64 C, .int .i64 A] 28) := ⟨_, rfl⟩
  obtain ⟨f2, ef2⟩ : ∃ f2, f2 = w1.heap.size := ⟨_, rfl⟩
  have b3 : Below w1.heap.size w1 W3 := by rw [hW3]; exact bl_alloc (Below.refl _ _)
  have b23 : Below W2.heap.size W2 W3 := bl_step hb1 b3
  have HA3 := hid (HA.out.step b23)
  have HB3 := hid (bl_step HB.out b23)
  have y0 : W3.cell? ⟨f2, 0, none⟩ = some (.int .i64 C) := by rw [hW3, ef2]; exact (World.cell?_alloc_at _ _ _ _ rfl).trans rfl
  have y1 : W3.cell? ⟨f2, 1, none⟩ = some (.int .i64 A) := by rw [hW3, ef2]; exact (World.cell?_alloc_at _ _ _ _ rfl).trans rfl
  have hff : f2 ≠ f := by have := HA.out.fl; have := hb1.size; omega
  have HRO : Hid (∀ h : (chkP d.p).1 = 0, C = 0 → SetsRow W3 sa sn (APp d.p h d.p.ss.length)) := fun h hc => (hro h hc).step b3
  have HI := hid hi
  have HNE := hid hne
  have EW3 := hid hW3
  have EF2 := hid ef2
  clear hb1 b3 b23 HA HB hW3 ef2 hi hne hro
  by_cases hC : C = 0
  · subst hC
    obtain ⟨rfl, hc⟩ := walkis_zero HI.out
    have HC := hid hc
    have en : d.p.ns.length = d.nodes.n := by simp [PlanD.p, HL.out.ns.1]
    have hn10 : d.nodes.n ≤ 10 := by have : (d.p.ns.length : Int) ≤ 10 := (chk_zero hc 5 (by decide)).2.1; omega
    obtain ⟨hsl, sg, rfl, hsf⟩ := HRO.out HC.out rfl
    obtain ⟨m, hm⟩ : ∃ m, m = d.nodes.n + 1 := ⟨_, rfl⟩
    have hmi : (d.nodes.n : Int) + 1 = (m : Int) := by omega
    have hm11 : m ≤ 11 := by omega
    have hm1 : 1 ≤ m := by omega
    have hwm : IntKind.i64.wrap (m : Int) = (m : Int) := wrap_small _ (by omega) (by omega)
    have HM := hid hm
    have EN := hid en
    have hap : (APp d.p HC.out d.p.ss.length).length = d.p.ss.length + 1 := (ap_inv HC.out (Nat.le_refl _)).1
    have hsn : sn = d.p.ss.length + 1 := by omega
    have HSN := hid hsn
    have HSF := hid hsf
    have HRA : Hid (Calls Tryz.prog 43 #[.slice (some ⟨W3.heap.size, 0, none⟩) 1 1, .int .i64 (m : Int)] (W3.alloc (.cells #[.int .u64 18446744073709551615] 22)).drew (RepDone m (W3.alloc (.cells #[.int .u64 18446744073709551615] 22)).drew)) := repeat_any _ m _ ((World.cell?_alloc_at _ _ _ _ rfl).trans rfl) hm1 hm11
    have HRB : Hid (Calls Tryz.prog 43 #[.slice (some ⟨W3.heap.size, 0, none⟩) 1 1, .int .i64 (m : Int)] ((W3.alloc (.cells #[.int .u64 18446744073709551615] 22)).alloc (.cells #[.slice none 0 0, .slice none 0 0, .slice none 0 0, .slice none 0 0, .slice none 0 0, .slice none 0 0, .slice none 0 0, .slice none 0 0] 127)).drew (RepDone m ((W3.alloc (.cells #[.int .u64 18446744073709551615] 22)).alloc (.cells #[.slice none 0 0, .slice none 0 0, .slice none 0 0, .slice none 0 0, .slice none 0 0, .slice none 0 0, .slice none 0 0, .slice none 0 0] 127)).drew)) := repeat_any _ m _ ((World.cell?_alloc_past _ _ _ (by simp)).trans ((World.cell?_alloc_at _ _ _ _ rfl).trans rfl)) hm1 hm11
    have HRC : Hid (Calls Tryz.prog 43 #[.slice (some ⟨W3.heap.size + 1, 0, none⟩) 1 1, .int .i64 (m : Int)] ((W3.alloc (.cells #[.slice none 0 0, .slice none 0 0, .slice none 0 0, .slice none 0 0, .slice none 0 0, .slice none 0 0, .slice none 0 0, .slice none 0 0] 127)).alloc (.cells #[.int .u64 18446744073709551615] 22)).drew (RepDone m ((W3.alloc (.cells #[.slice none 0 0, .slice none 0 0, .slice none 0 0, .slice none 0 0, .slice none 0 0, .slice none 0 0, .slice none 0 0, .slice none 0 0] 127)).alloc (.cells #[.int .u64 18446744073709551615] 22)).drew)) := repeat_any _ m _ ((World.cell?_alloc_at _ _ _ _ (by simp)).trans rfl) hm1 hm11
    have HZB : Hid (∀ i, i < 8 → ((W3.alloc (.cells #[.int .u64 18446744073709551615] 22)).alloc (.cells #[.slice none 0 0, .slice none 0 0, .slice none 0 0, .slice none 0 0, .slice none 0 0, .slice none 0 0, .slice none 0 0, .slice none 0 0] 127)).drew.cell? ⟨W3.heap.size + 1, i, none⟩ = some (.slice none 0 0)) := fun i hi => by
      rcases (show i = 0 ∨ i = 1 ∨ i = 2 ∨ i = 3 ∨ i = 4 ∨ i = 5 ∨ i = 6 ∨ i = 7 by omega) with rfl | rfl | rfl | rfl | rfl | rfl | rfl | rfl <;> exact (World.cell?_alloc_at _ _ _ _ (by simp)).trans rfl
    have HZC : Hid (∀ i, i < 8 → ((W3.alloc (.cells #[.slice none 0 0, .slice none 0 0, .slice none 0 0, .slice none 0 0, .slice none 0 0, .slice none 0 0, .slice none 0 0, .slice none 0 0] 127)).alloc (.cells #[.int .u64 18446744073709551615] 22)).drew.cell? ⟨W3.heap.size, i, none⟩ = some (.slice none 0 0)) := fun i hi => by
      rcases (show i = 0 ∨ i = 1 ∨ i = 2 ∨ i = 3 ∨ i = 4 ∨ i = 5 ∨ i = 6 ∨ i = 7 by omega) with rfl | rfl | rfl | rfl | rfl | rfl | rfl | rfl <;> exact (World.cell?_alloc_past _ _ _ (by simp)).trans ((World.cell?_alloc_at _ _ _ _ rfl).trans rfl)
    have HBA : Hid (Below W3.heap.size W3 (W3.alloc (.cells #[.int .u64 18446744073709551615] 22)).drew) := (bl_alloc (Below.refl _ _)).drew
    have HBB : Hid (Below W3.heap.size W3 ((W3.alloc (.cells #[.int .u64 18446744073709551615] 22)).alloc (.cells #[.slice none 0 0, .slice none 0 0, .slice none 0 0, .slice none 0 0, .slice none 0 0, .slice none 0 0, .slice none 0 0, .slice none 0 0] 127)).drew) := (bl_alloc (bl_alloc (Below.refl _ _))).drew
    have HBC : Hid (Below W3.heap.size W3 ((W3.alloc (.cells #[.slice none 0 0, .slice none 0 0, .slice none 0 0, .slice none 0 0, .slice none 0 0, .slice none 0 0, .slice none 0 0, .slice none 0 0] 127)).alloc (.cells #[.int .u64 18446744073709551615] 22)).drew) := (bl_alloc (bl_alloc (Below.refl _ _))).drew
    have HQB : Hid (∀ wx, Below ((W3.alloc (.cells #[.int .u64 18446744073709551615] 22)).alloc (.cells #[.slice none 0 0, .slice none 0 0, .slice none 0 0, .slice none 0 0, .slice none 0 0, .slice none 0 0, .slice none 0 0, .slice none 0 0] 127)).drew.heap.size ((W3.alloc (.cells #[.int .u64 18446744073709551615] 22)).alloc (.cells #[.slice none 0 0, .slice none 0 0, .slice none 0 0, .slice none 0 0, .slice none 0 0, .slice none 0 0, .slice none 0 0, .slice none 0 0] 127)).drew wx → ∀ i, i < 8 → wx.cell? ⟨W3.heap.size + 1, i, none⟩ = some (.slice none 0 0) ∧ wx.frozen? ⟨W3.heap.size + 1, i, none⟩ = false) := fun wx hb i hi =>
      ⟨cell_keep (HZB.out i hi) hb, (hb.frozen (p := ⟨W3.heap.size + 1, i, none⟩) (by simp)).trans (World.frozen?_alloc_at _ _ _ _ (by simp))⟩
    have HQC : Hid (∀ wx, Below ((W3.alloc (.cells #[.slice none 0 0, .slice none 0 0, .slice none 0 0, .slice none 0 0, .slice none 0 0, .slice none 0 0, .slice none 0 0, .slice none 0 0] 127)).alloc (.cells #[.int .u64 18446744073709551615] 22)).drew.heap.size ((W3.alloc (.cells #[.slice none 0 0, .slice none 0 0, .slice none 0 0, .slice none 0 0, .slice none 0 0, .slice none 0 0, .slice none 0 0, .slice none 0 0] 127)).alloc (.cells #[.int .u64 18446744073709551615] 22)).drew wx → ∀ i, i < 8 → wx.cell? ⟨W3.heap.size, i, none⟩ = some (.slice none 0 0) ∧ wx.frozen? ⟨W3.heap.size, i, none⟩ = false) := fun wx hb i hi =>
      ⟨cell_keep (HZC.out i hi) hb, (hb.frozen (p := ⟨W3.heap.size, i, none⟩) (by simp; omega)).trans ((World.frozen?_alloc_past _ _ _ (by simp)).trans (World.frozen?_alloc_at _ _ _ _ rfl))⟩
    clear hc en hm hsl hap hsn hsf HNE HRO
    go_upto_region 4 with fail
    rw [← EW3.out, ← EF2.out]
    obtain ⟨z0, z1, z2, z3, z4, z5, z6⟩ := HA3.out.cs
    have hs3 : s < W3.heap.size := World.block_lt_of_cell? _ _ z0
    have hsv : s ≠ W3.heap.size := by omega
    have HZD : Hid (W3.drew.cell? ⟨s, 0, none⟩ = some (.slice d.heads.a d.heads.n d.heads.c) ∧ W3.drew.cell? ⟨s, 1, none⟩ = some (.slice d.mta.a d.mta.n d.mta.c) ∧ W3.drew.cell? ⟨s, 2, none⟩ = some (.slice d.states.a d.states.n d.states.c) ∧ W3.drew.cell? ⟨s, 3, none⟩ = some (.slice d.acts.a d.acts.n d.acts.c) ∧ W3.drew.cell? ⟨s, 4, none⟩ = some (.slice d.tabs.a d.tabs.n d.tabs.c) ∧ W3.drew.cell? ⟨s, 5, none⟩ = some (.slice d.nodes.a d.nodes.n d.nodes.c) ∧ W3.drew.cell? ⟨s, 6, none⟩ = some (.slice d.out.a d.out.n d.out.c)) := ⟨z0, z1, z2, z3, z4, z5, z6⟩
    have hsv2 : s ≠ W3.heap.size + 1 := by omega
    go_cut [6] from 18 to 25 (fun v6 wx => ∃ v g, v6 = .pointer (some ⟨v, 0, none⟩) ∧ Hid (FlAt d W3 m v g wx))
    case first =>
      go_region_held3 (fun w' => w'.cell? ⟨s, 0, none⟩ = some (.slice d.heads.a d.heads.n d.heads.c) ∧ w'.cell? ⟨s, 1, none⟩ = some (.slice d.mta.a d.mta.n d.mta.c) ∧ w'.cell? ⟨s, 2, none⟩ = some (.slice d.states.a d.states.n d.states.c) ∧ w'.cell? ⟨s, 3, none⟩ = some (.slice d.acts.a d.acts.n d.acts.c) ∧ w'.cell? ⟨s, 4, none⟩ = some (.slice d.tabs.a d.tabs.n d.tabs.c) ∧ w'.cell? ⟨s, 5, none⟩ = some (.slice d.nodes.a d.nodes.n d.nodes.c) ∧ w'.cell? ⟨s, 6, none⟩ = some (.slice d.out.a d.out.n d.out.c))
        (first
          | with_reducible exact HT7
          | with_reducible exact keep7w hsv2 HT7 (put8_but d g m v wx)
          | with_reducible exact keep7w hsv HT7 (put8_but d g m v wx)
          | with_reducible exact HZD.out
          | with_reducible exact keep7 HT7 (bl_alloc (Below.refl _ _))
          | (go_split_ands; with_reducible exact keep7 ⟨by assumption, by assumption, by assumption, by assumption, by assumption, by assumption, by assumption⟩ (bl_alloc (Below.refl _ _))))
        (first
          | (go_at_call 43; (with_reducible refine HRA.out.mono ?_); rintro e wx ⟨g, rfl, hgx, hax, hbx⟩; have HT7 := keep7 ⟨z0, z1, z2, z3, z4, z5, z6⟩ (bl_step HBA.out hbx))
          | (go_at_call 43; (with_reducible refine HRB.out.mono ?_); rintro e wx ⟨g, rfl, hgx, hax, hbx⟩; have HT7 := keep7 ⟨z0, z1, z2, z3, z4, z5, z6⟩ (bl_step HBB.out hbx); have qz := HQB.out wx hbx; have q0 := (qz 0 (by decide)).1; have r0 := (qz 0 (by decide)).2; have q1 := (qz 1 (by decide)).1; have r1 := (qz 1 (by decide)).2; have q2 := (qz 2 (by decide)).1; have r2 := (qz 2 (by decide)).2; have q3 := (qz 3 (by decide)).1; have r3 := (qz 3 (by decide)).2; have q4 := (qz 4 (by decide)).1; have r4 := (qz 4 (by decide)).2; have q5 := (qz 5 (by decide)).1; have r5 := (qz 5 (by decide)).2; have q6 := (qz 6 (by decide)).1; have r6 := (qz 6 (by decide)).2; have q7 := (qz 7 (by decide)).1; have r7 := (qz 7 (by decide)).2; clear qz hwm hmi z0 z1 z2 z3 z4 z5 z6 y0 y1 HRA HRB HRC HQB HQC HZC HBA HBC HSF HSN HA3 HB3 HL EW3 EF2 HZD HM EN hff hn10 hm11 hm1; obtain ⟨v, hv⟩ : ∃ v, v = W3.heap.size + 1 := ⟨_, rfl⟩; rw [← hv] at q0 r0 q1 r1 q2 r2 q3 r3 q4 r4 q5 r5 q6 r6 q7 r7 hsv2; rw [← hv]; have EV := hid hv; clear hv)
          | (go_at_call 43; (with_reducible refine HRC.out.mono ?_); rintro e wx ⟨g, rfl, hgx, hax, hbx⟩; have HT7 := keep7 ⟨z0, z1, z2, z3, z4, z5, z6⟩ (bl_step HBC.out hbx); have qz := HQC.out wx hbx; have q0 := (qz 0 (by decide)).1; have r0 := (qz 0 (by decide)).2; have q1 := (qz 1 (by decide)).1; have r1 := (qz 1 (by decide)).2; have q2 := (qz 2 (by decide)).1; have r2 := (qz 2 (by decide)).2; have q3 := (qz 3 (by decide)).1; have r3 := (qz 3 (by decide)).2; have q4 := (qz 4 (by decide)).1; have r4 := (qz 4 (by decide)).2; have q5 := (qz 5 (by decide)).1; have r5 := (qz 5 (by decide)).2; have q6 := (qz 6 (by decide)).1; have r6 := (qz 6 (by decide)).2; have q7 := (qz 7 (by decide)).1; have r7 := (qz 7 (by decide)).2; clear qz hwm hmi z0 z1 z2 z3 z4 z5 z6 y0 y1 HRA HRB HRC HQB HQC HZB HBA HBB HSF HSN HA3 HB3 HL EW3 EF2 HZD HM EN hff hn10 hm11 hm1; obtain ⟨v, hv⟩ : ∃ v, v = W3.heap.size := ⟨_, rfl⟩; rw [← hv] at q0 r0 q1 r1 q2 r2 q3 r3 q4 r4 q5 r5 q6 r6 q7 r7 hsv; rw [← hv]; have EV := hid hv; clear hv))
      · go_wp2_with fail
        go_meet
        exact ⟨_, g, rfl, flA d HBA.out hbx hgx hax⟩
      · go_wp2_with fail
        go_meet
        exact ⟨v, g, rfl, by show FlAt d W3 m v g _; rw [EV.out]; exact flB d HBB.out (by simp) (by omega) hbx hgx hax HZB.out⟩
      · go_wp2_with fail
        go_meet
        exact ⟨v, g, rfl, by show FlAt d W3 m v g _; rw [EV.out]; exact flB d HBC.out (by simp; omega) (Nat.le_refl _) hbx hgx hax HZC.out⟩
    case rest =>
      obtain ⟨v, g, rfl, HF⟩ := hcut
      clear HRA HRB HRC HZB HZC HBA HBB HBC HQB HQC HZD hsv hsv2 z0 z1 z2 z3 z4 z5 z6 y0 y1 EW3 EF2 hwm hmi
      have hap : (APp d.p HC.out d.p.ss.length).length = d.p.ss.length + 1 := (ap_inv HC.out (Nat.le_refl _)).1
      obtain ⟨S, hS⟩ : ∃ S, S = (APp d.p HC.out d.p.ss.length).getD d.p.ss.length Wk.zero := ⟨_, rfl⟩
      have hSx : (APp d.p HC.out d.p.ss.length)[d.p.ss.length]? = some S := by
        rw [hS, List.getD_eq_getElem?_getD, List.getElem?_eq_getElem (by omega)]; rfl
      have hSm : S.must < 2 ^ 64 := few64 (ap_few HC.out (Nat.le_refl _) S (List.mem_of_getElem? hSx)).1
      obtain ⟨t0, t1, t2, t3, t4⟩ := (HSF.out _ S hSx).step HF.out.bl
      obtain ⟨k, hk⟩ : ∃ k, k = d.p.ss.length := ⟨_, rfl⟩
      rw [← hk] at t0 t1 t2 t3 t4
      have hki : (sn : Int) - 1 = (k : Int) := by have := HSN.out; omega
      have hkw : IntKind.i64.wrap (k : Int) = (k : Int) := wrap_small _ (by omega) (by have : (d.p.ss.length : Int) ≤ 8 := (chk_zero HC.out 2 (by decide)).2.1; omega)
      have hks : (k : Int) < (sn : Int) := by omega
      have hk0 : (0 : Int) ≤ (k : Int) := by omega
      have hvg := HF.out.ne
      have hsg3 : sg < W3.heap.size := World.block_lt_of_cell? _ _ (HSF.out _ S hSx).c0
      have HST : Hid (startN d.p HC.out = if S.there = true then S.must else onesN) := by show startN d.p HC.out = _; unfold startN; rw [← hS]
      obtain ⟨st, hst⟩ : ∃ st, st = startN d.p HC.out := ⟨_, rfl⟩
      have HSL : Hid (st < 2 ^ 64) := by rw [hst]; exact startN_lt HC.out
      have EST := hid hst
      have hmn : m = d.p.ns.length + 1 := by have := HM.out; have := EN.out; omega
      have HMN := hid hmn
      have HWG : Hid (w.heap.size ≤ g) := Nat.le_trans HB3.out.size HF.out.gl
      have HWV : Hid (w.heap.size ≤ v) := Nat.le_trans HB3.out.size HF.out.vl
      have hgs : s ≠ g := by have := HF.out.gl; omega
      have hgf : g ≠ f := by have := HA3.out.fl; have := HF.out.gl; omega
      clear hS hSx hap hk hst hmn
      obtain ⟨W4, hW4⟩ : ∃ W4, W4 = wc.alloc (.cells #[.int .u64 (S.must : Int), .int .u64 (S.may : Int), .int .i64 (S.least : Int), .int .i64 (S.most : Int), .bool S.there] 129) := ⟨_, rfl⟩
      obtain ⟨u, hu⟩ : ∃ u, u = wc.heap.size := ⟨_, rfl⟩
      have b4 : Below wc.heap.size wc W4 := by rw [hW4]; exact bl_alloc (Below.refl _ _)
      have u0 : W4.cell? ⟨u, 0, none⟩ = some (.int .u64 (S.must : Int)) := by rw [hW4, hu]; exact (World.cell?_alloc_at _ _ _ _ rfl).trans rfl
      have u4 : W4.cell? ⟨u, 4, none⟩ = some (.bool S.there) := by rw [hW4, hu]; exact (World.cell?_alloc_at _ _ _ _ rfl).trans rfl
      have HA4 := hid (HF.out.ah.step b4)
      have HK4 := hid (HF.out.wk.step b4)
      have HX4 := hid (HA3.out.step (bl_step HF.out.bl b4))
      have HB4 := hid (bl_step HB3.out (bl_step HF.out.bl b4))
      have EW4 := hid hW4
      have EU := hid hu
      clear hW4 hu b4
      cases hT : S.there
      case' true =>
        rw [hT] at u4 t4
        have HST2 : Hid (st = S.must) := by show st = _; rw [EST.out, HST.out, if_pos hT]
        rw [hT] at EW4
        have HLD := hid (flead_any d 0 S.must onesN HA4.out (m := m) (by omega) (by rw [List.getElem?_replicate, if_pos (by omega)]) hSm ones_lt)
        rw [flow_start HMN.out hSm, ← HST2.out] at HLD
        obtain ⟨x0, x1, x2, x3, x4, x5, x6, x7⟩ := HK4.out.all
        unfold fwkV at HLD
        clear hT HST
        go_upto_region 7 with fail
        rw [← EW4.out, ← EU.out]
        clear EW4 EU
        rw [← HST2.out] at u0
        go_wp2_with fail
        refine HLD.out.mono ?_
        rintro e W5 ⟨rfl, ha5, hb5⟩
        have HA5 := hid ha5
        have HK5 := hid (HK4.out.but hb5 hvg)
        have HB5 : Hid (Below w.heap.size w W5) := HB4.out.trans (hb5.low.mono HWG.out)
        have HA6 : Hid (WlkAt d w W5 s f) := HX4.out.but hb5 hgs (Ne.symm hgf)
        clear ha5 hb5 HLD x0 x1 x2 x3 x4 x5 x6 x7 HK4 HA4 HX4 HB4 u0 u4 hSm
      case' false =>
        rw [hT] at u4 t4
        have HST2 : Hid (st = onesN) := by show st = _; rw [EST.out, HST.out, if_neg (by rw [hT]; decide)]
        rw [hT] at EW4
        obtain ⟨W5, hW5⟩ : ∃ W5, W5 = W4 := ⟨_, rfl⟩
        have HA5 : Hid (AhU g (flowA d.p st 0) W5) := by
          have := HA4.out
          rw [flow_start1 HMN.out, ← HST2.out] at this
          rw [hW5]; exact this
        rw [← hW5] at EW4 u0 u4
        have HK5 : Hid (WkF d g m v W5) := by rw [hW5]; exact HK4.out
        have HB5 : Hid (Below w.heap.size w W5) := by rw [hW5]; exact HB4.out
        have HA6 : Hid (WlkAt d w W5 s f) := by rw [hW5]; exact HX4.out
        clear hW5 hT HST
        go_upto_region 8 with fail
        rw [← EW4.out, ← EU.out]
        clear EW4 EU HK4 HA4 HX4 HB4 hSm u0
      all_goals
        have HFF : Hid (∀ wr, But g W5 wr → wr.cell? ⟨f, 0, none⟩ = some (.int .i64 0) ∧ wr.cell? ⟨f, 1, none⟩ = some (.int .i64 0) ∧ wr.frozen? ⟨f, 0, none⟩ = false ∧ wr.frozen? ⟨f, 1, none⟩ = false) := fun wr h => ⟨h.cell (Ne.symm hgf) HA6.out.f0, h.cell (Ne.symm hgf) HA6.out.f1, (h.frozen (Ne.symm hgf) HA6.out.fl).trans (HA6.out.fz 0), (h.frozen (Ne.symm hgf) HA6.out.fl).trans (HA6.out.fz 1)⟩
        have HBL : Hid (∀ wr x y, But g W5 wr → Below w.heap.size w ((wr.setCell ⟨f, 0, none⟩ x).setCell ⟨f, 1, none⟩ y)) := fun wr x y h => ((HB5.out.trans (h.low.mono HWG.out)).setCell (p := ⟨f, 0, none⟩) HA6.out.wf _).setCell (p := ⟨f, 1, none⟩) HA6.out.wf _
        have c5 := HA6.out.cs.2.2.2.2.2.1
        clear HA6 HA3 HB3 HF HSF HSN HWV hsg3 t0 t1 t2 t3 t4
        go_wp2
        go_loopw [41, 8] (fun qv _ wr => ∃ j : Nat, j ≤ d.nodes.n ∧ qv = .int .i64 j ∧ Hid (AhU g (flowA d.p st j) wr) ∧ Hid (But g W5 wr) ∧ Hid (∀ i, i < j → ¬ badAt d.p st i)) (fun qv _ _ => d.nodes.n - (intOf qv).toNat)
        case atStart => exact ⟨0, Nat.zero_le _, rfl, HA5, But.refl _ _, fun i hi => absurd hi (Nat.not_lt_zero _)⟩
        case round =>
          obtain ⟨j, hj, rfl, HAJ, HBJ, HPJ⟩ := hrel
          clear HA5
          obtain ⟨x0, x1, x2, x3, x4, x5, x6, x7⟩ := (HK5.out.but HBJ.out hvg).all
          obtain ⟨f0, f1, g0, g1⟩ := HFF.out wr HBJ.out
          by_cases hlt : j < d.nodes.n
          · have hji : (j : Int) < (d.nodes.n : Int) := by omega
            have h6k : IntKind.i64.wrap (6000 + (j : Int)) = 6000 + (j : Int) := wrap_small _ (by omega) (by omega)
            have HG := hid (fover_any d st j (m := m) HL.out (HB5.out.trans (HBJ.out.low.mono HWG.out)) HWG.out HC.out HSL.out HAJ.out HMN.out hlt)
            unfold fwkV at HG
            clear HAJ
            go_wp2_with fail
            refine HG.out.mono ?_
            rintro e w4 ⟨ok, rfl, hb4, ht4, hf4⟩
            have HB4 := hid (HBJ.out.trans hb4)
            clear x0 x1 x2 x3 x4 x5 x6 x7 f0 f1 g0 g1 HG hb4
            cases ok with
            | true =>
              have RA := hid (ht4 rfl).2
              have RP : Hid (∀ i, i < j + 1 → ¬ badAt d.p st i) := fun i hi => by
                by_cases e : i = j
                · subst e; exact (ht4 rfl).1
                · exact HPJ.out i (by omega)
              clear ht4 hf4 HPJ HBJ h6k
              go_wp2
              go_roundw
              case rel => exact ⟨j + 1, by omega, by go_num, RA, HB4, RP⟩
              case measure => simp [intOf]; omega
            | false =>
              have HE : Hid (FlowDone d.p w (.returned (.tuple #[.slice none 0 0, .agg #[.int .i64 12, .int .i64 (6000 + (j : Int))]])) ((w4.setCell ⟨f, 0, none⟩ (.int .i64 12)).setCell ⟨f, 1, none⟩ (.int .i64 (6000 + (j : Int))))) := by
                refine ⟨12, 6000 + (j : Int), none, 0, 0, rfl, .inr ⟨HC.out, HI.out, .inl ⟨j, by rw [EN.out]; exact hlt, ?_, ?_, rfl, rfl⟩⟩, fun _ => ⟨rfl, rfl, rfl⟩, fun _ h => absurd h (by decide), HBL.out _ _ _ HB4.out⟩
                · rw [← EST.out]; exact hf4 rfl
                · rw [← EST.out]; exact HPJ.out
              obtain ⟨f0, f1, g0, g1⟩ := HFF.out w4 HB4.out
              clear ht4 hf4 HPJ HBJ HBL HFF
              go_wp2
              exact bodyPost_ret (v := .tuple #[.slice none 0 0, .agg #[.int .i64 12, .int .i64 (6000 + (j : Int))]]) (by simp [results, Tryz.results21, go_sem, *]) rfl HE.out
          · have ej : j = d.nodes.n := by omega
            have hji : ¬ (j : Int) < (d.nodes.n : Int) := by omega
            have HE : Hid (FlowDone d.p w (.returned (.tuple #[.slice (some ⟨g, 0, none⟩) m m, .agg #[.int .i64 0, .int .i64 0]])) ((wr.setCell ⟨f, 0, none⟩ (.int .i64 0)).setCell ⟨f, 1, none⟩ (.int .i64 0))) := by
              refine ⟨0, 0, _, m, m, rfl, .inr ⟨HC.out, HI.out, .inr ⟨fun i hi => ?_, rfl, rfl⟩⟩, fun h => absurd rfl h, fun h _ => ?_, HBL.out _ _ _ HBJ.out⟩
              · rw [← EST.out]; exact HPJ.out i (by rw [EN.out] at hi; omega)
              · have k1 : But f wr ((wr.setCell ⟨f, 0, none⟩ (.int .i64 0)).setCell ⟨f, 1, none⟩ (.int .i64 0)) := set_but.trans set_but
                have ha := HAJ.out.but k1 hgf
                rw [ej, ← EN.out] at ha
                have := ahU_has ha (m := m) (by rw [flowA_len]; exact HMN.out.symm) (flowA_64 HSL.out)
                rw [flowA_end HC.out HSL.out] at this
                rw [← EST.out]
                exact this
            clear HAJ HBJ HPJ HFF HBL ej
            go_wp2
            exact bodyPost_ret (v := .tuple #[.slice (some ⟨g, 0, none⟩) m m, .agg #[.int .i64 0, .int .i64 0]]) (by simp [results, Tryz.results21, go_sem, *]) rfl HE.out
  · have hCn : (C != 0) = true := by rw [bne_iff_ne]; exact hC
    have HE : Hid (∀ w', Below W3.heap.size W3 w' → FlowDone d.p w (.returned (.tuple #[.slice none 0 0, .agg #[.int .i64 C, .int .i64 A]])) ((w'.setCell ⟨f, 0, none⟩ (.int .i64 C)).setCell ⟨f, 1, none⟩ (.int .i64 A))) := fun w' h =>
      ⟨C, A, none, 0, 0, rfl, .inl ⟨HI.out, hC⟩, fun _ => ⟨rfl, rfl, rfl⟩, fun _ h0 => absurd h0 hC, ((bl_step HB3.out h).setCell (p := ⟨f, 0, none⟩) HA3.out.wf _).setCell (p := ⟨f, 1, none⟩) HA3.out.wf _⟩
    have f0 := HA3.out.f0
    have f1 := HA3.out.f1
    have g0 := HA3.out.fz 0
    have g1 := HA3.out.fz 1
    clear HI HNE HRO hC HB3 HA3
    go_wp2_with fail
    rw [← EW3.out, ← EF2.out]
    clear EW3 EF2
    go_region
    all_goals
      go_wp2
      exact bodyPost_ret (v := .tuple #[.slice none 0 0, .agg #[.int .i64 C, .int .i64 A]]) (by simp [results, Tryz.results21, go_sem, *]) rfl (HE.out _ (Below.refl _ _).drew)
end Go.Proofs.YtajelgjbgehahaaGreat

namespace Go.Proofs.YtajelgjbgehahaaGreat
open Go.RowKit

theorem fwalkis_one {p : PPlan} {C A C' A' : Int} (h : WalkIs p C A) (h' : WalkIs p C' A') : C = C' ∧ A = A' := by
  rcases h with ⟨h0, rfl, rfl⟩ | ⟨h0, hf⟩
  · rcases h' with ⟨_, rfl, rfl⟩ | ⟨h1, _⟩
    · exact ⟨rfl, rfl⟩
    · exact absurd h1 h0
  · rcases h' with ⟨h1, _⟩ | ⟨_, hf'⟩
    · exact absurd h0 h1
    · exact firstW_one hf hf'

theorem flowis_one {p : PPlan} {C A C' A' : Int} (h : FlowIs p C A) (h' : FlowIs p C' A') : C = C' ∧ A = A' := by
  rcases h with ⟨h1, h2⟩ | ⟨h0, h1, h2⟩
  · rcases h' with ⟨h3, _⟩ | ⟨_, h3, _⟩
    · exact fwalkis_one h1 h3
    · exact absurd (fwalkis_one h1 h3).1 h2
  · rcases h' with ⟨h3, h4⟩ | ⟨_, _, h4⟩
    · exact absurd (fwalkis_one h3 h1).1 h4
    · exact firstF_one h2 h4

def CheckF (p : PPlan) (w : World) (e : Ending) (w' : World) : Prop := ∃ C A : Int, e = .returned (.agg #[.int .i64 C, .int .i64 A]) ∧ FlowIs p C A ∧ Below w.heap.size w w'

set_option maxHeartbeats 4000000 in
set_option maxRecDepth 20000 in
theorem fcheck_any (d : PlanD) (w : World) (hl : d.lie w) (hs : d.small) : Calls Tryz.prog 12 #[d.v] w (CheckF d.p w) := by
  obtain ⟨W2, hW⟩ : ∃ W2, W2 = ((w.alloc (.cells #[.slice d.heads.a d.heads.n d.heads.c, .slice d.mta.a d.mta.n d.mta.c, .slice d.states.a d.states.n d.states.c, .slice d.acts.a d.acts.n d.acts.c, .slice d.tabs.a d.tabs.n d.tabs.c, .slice d.nodes.a d.nodes.n d.nodes.c, .slice d.out.a d.out.n d.out.c] 38)).alloc (.cells #[.int .i64 0, .int .i64 0] 28)) := ⟨_, rfl⟩
  obtain ⟨s, es⟩ : ∃ s, s = w.heap.size := ⟨_, rfl⟩
  obtain ⟨f, ef⟩ : ∃ f, f = w.heap.size + 1 := ⟨_, rfl⟩
  have HA : Hid (WlkAt d w W2 s f) := by rw [hW, es, ef]; exact wlk_at d w
  have HB : Hid (Below w.heap.size w W2) := by rw [hW]; exact bl_alloc (bl_alloc (Below.refl _ _))
  have HCK := hid (flow_any d W2 (hl.step HB.out) hs)
  have EW := hid hW
  have ES := hid es
  have EF := hid ef
  clear hl hs hW es ef
  go_enter Tryz.func12, Tryz.ntmps12
  go_wp2_with fail
  rw [← EW.out, ← EF.out, ← ES.out]
  refine HCK.out.mono ?_
  rintro e w1 ⟨C, A, sa, sn, sc, rfl, hi, _, _, hb1⟩
  clear HCK EW ES EF
  have f0 := cell_keep HA.out.f0 hb1
  have f1 := cell_keep HA.out.f1 hb1
  have g0 := (hb1.frozen (p := ⟨f, 0, none⟩) HA.out.fl).trans (HA.out.fz 0)
  have g1 := (hb1.frozen (p := ⟨f, 1, none⟩) HA.out.fl).trans (HA.out.fz 1)
  have hfl : f < w1.heap.size := World.block_lt_of_cell? _ _ f0
  have HE : Hid (∀ o, CheckF d.p w (.returned (.agg #[.int .i64 C, .int .i64 A])) (((w1.setCell ⟨f, 0, none⟩ (.int .i64 C)).setCell ⟨f, 1, none⟩ (.int .i64 A)).alloc o)) := fun o => ⟨C, A, rfl, hi, bl_alloc (((bl_step HB.out hb1).setCell (p := ⟨f, 0, none⟩) HA.out.wf _).setCell (p := ⟨f, 1, none⟩) HA.out.wf _)⟩
  clear hb1 HA HB hi
  go_wp2
  exact bodyPost_ret (v := .agg #[.int .i64 C, .int .i64 A]) (by simp [results, Tryz.results12, go_sem, *]) rfl (HE.out _)

@[reducible] def FP1 : PPlan := ⟨[[8], [16]], [], [⟨0, ⟨0, 0⟩, [⟨1, 1, 1⟩], 1000⟩, ⟨1, ⟨0, 0⟩, [], 1000⟩], [], [], [⟨4, 1, [], 1, 2⟩, ⟨3, 0, [⟨2, ⟨1, 0⟩, 0⟩], 2, 2⟩], [0, 1]⟩
@[reducible] def FP2 : PPlan := ⟨[[8], [16]], [], [⟨0, ⟨0, 0⟩, [⟨1, 1, 1⟩], 1000⟩, ⟨1, ⟨0, 0⟩, [], 1000⟩], [], [], [⟨3, 0, [⟨2, ⟨1, 0⟩, 0⟩], 1, 1⟩], [0, 1]⟩

theorem FP1.chk : chkP FP1 = (0, 0) := by decide +kernel
theorem FP2.chk : chkP FP2 = (0, 0) := by decide +kernel
theorem FP1.ok : (chkP FP1).1 = 0 := by rw [FP1.chk]
theorem FP2.ok : (chkP FP2).1 = 0 := by rw [FP2.chk]

theorem FP1.end_ (h : (chkP FP1).1 = 0) : APp FP1 h FP1.ss.length = [⟨0, 0, 0, 0, true⟩, ⟨1, 1, 1, 1, true⟩, ⟨1, 3, 1, 3, true⟩] := by
  show Wk.AP (parOf FP1 h) 2 = _
  kernel_rfl
theorem FP2.end_ (h : (chkP FP2).1 = 0) : APp FP2 h FP2.ss.length = [⟨0, 0, 0, 0, true⟩, ⟨1, 1, 1, 1, true⟩, ⟨1, 3, 1, 3, true⟩] := by
  show Wk.AP (parOf FP2 h) 2 = _
  kernel_rfl

theorem FP1.walk : WalkIs FP1 0 0 := .inr ⟨FP1.ok, .inr ⟨fun j hj => by
  rw [FP1.end_ FP1.ok]
  have : j = 0 ∨ j = 1 := by have : j < 2 := hj; omega
  rcases this with rfl | rfl <;> decide +kernel, rfl, rfl⟩⟩
theorem FP2.walk : WalkIs FP2 0 0 := .inr ⟨FP2.ok, .inr ⟨fun j hj => by
  rw [FP2.end_ FP2.ok]
  have : j = 0 ∨ j = 1 := by have : j < 2 := hj; omega
  rcases this with rfl | rfl <;> decide +kernel, rfl, rfl⟩⟩

theorem FP1.start (h : (chkP FP1).1 = 0) : startN FP1 h = 1 := by unfold startN; rw [FP1.end_ h]; rfl
theorem FP2.start (h : (chkP FP2).1 = 0) : startN FP2 h = 1 := by unfold startN; rw [FP2.end_ h]; rfl

theorem FP1.list (h : (chkP FP1).1 = 0) : flowL FP1 (startN FP1 h) = [1, 3, 1] := by rw [FP1.start h]; decide +kernel

theorem FP1.flow : FlowIs FP1 0 0 := .inr ⟨FP1.ok, FP1.walk, .inr ⟨fun j hj => by
  rw [FP1.start FP1.ok]
  unfold badAt
  have : j = 0 ∨ j = 1 := by have : j < 2 := hj; omega
  rcases this with rfl | rfl <;> decide +kernel, rfl, rfl⟩⟩

theorem FP2.flow : FlowIs FP2 12 6000 := .inr ⟨FP2.ok, FP2.walk, .inl ⟨0, by decide, by
  rw [FP2.start FP2.ok]
  unfold badAt
  decide +kernel, fun j hj => absurd hj (Nat.not_lt_zero _), rfl, rfl⟩⟩
end Go.Proofs.YtajelgjbgehahaaGreat
