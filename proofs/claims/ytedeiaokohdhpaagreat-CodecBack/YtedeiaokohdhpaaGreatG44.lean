/- Texts of one chain, joined: ZDec, ZDec2. -/
import Derived.Test.YtedeiaokohdhpaaGreatG13
import Derived.Test.YtedeiaokohdhpaaGreatG29
import Derived.Test.YtedeiaokohdhpaaGreatG41
import Derived.Test.YtedeiaokohdhpaaGreatG43
namespace Go.Proofs.YtedeiaokohdhpaaGreat
open Go.RowKit
def DecDone (zs : List Int) (w : World) (e : Ending) (w' : World) : Prop := Below w.heap.size w w' ∧ match decX zs with
  | none => ∃ C A : Int, C ≠ 0 ∧ e = .returned (.tuple #[noPlan, .agg #[.int .i64 C, .int .i64 A]])
  | some x => ∃ v, PlanV w x w' v ∧ e = .returned (.tuple #[v, .agg #[.int .i64 0, .int .i64 0]])
theorem small_few {M : Nat} {x : PlanX} (h : x.few M) (hM : M ≤ 10000) {d : PlanD} {w : World} (hl : d.lie w) (hp : d.p = planP x) : d.small ∧ d.wfew := by
  have hM5 : M ≤ 100000 := by omega
  have e0 : d.hs.map HeadD.ws = x.heads := congrArg PPlan.hs hp
  have e1 : d.ms = x.mt := congrArg PPlan.ms hp
  have e2 : d.ss.map StateD.p = x.states.map stateP := congrArg PPlan.ss hp
  have e3 : d.al.map ActD.p = x.acts.map actP := congrArg PPlan.al hp
  have e4 : d.ts.map TabD.p = x.tabs.map tabP := congrArg PPlan.ts hp
  have e5 : d.ns.map NodeD.p = x.nodes.map nodeP := congrArg PPlan.ns hp
  have e6 : d.os = x.out := congrArg PPlan.os hp
  have l0 : d.heads.n ≤ M := by rw [← hl.hs.1]; have := congrArg List.length e0; rw [List.length_map] at this; rw [this]; exact h.hs.1
  have l1 : d.mta.n ≤ M := by rw [← hl.ms.1, e1]; exact h.ms
  have l2 : d.states.n ≤ M := by rw [← hl.ss.1]; have := congrArg List.length e2; rw [List.length_map, List.length_map] at this; rw [this]; exact h.ss.1
  have l3 : d.acts.n ≤ M := by rw [← hl.al.1]; have := congrArg List.length e3; rw [List.length_map, List.length_map] at this; rw [this]; exact h.al.1
  have l4 : d.tabs.n ≤ M := by rw [← hl.ts.1]; have := congrArg List.length e4; rw [List.length_map, List.length_map] at this; rw [this]; exact h.ts.1
  have l5 : d.nodes.n ≤ M := by rw [← hl.ns.1]; have := congrArg List.length e5; rw [List.length_map, List.length_map] at this; rw [this]; exact h.ns.1
  have l6 : d.out.n ≤ M := by rw [← hl.os.1, e6]; exact h.os
  have hh : ∀ y ∈ d.hs, y.w.n ≤ M := fun y hy => by
    obtain ⟨g, o, hq⟩ := qmem hl.hs y hy
    have hm : y.ws ∈ x.heads := by rw [← e0]; exact List.mem_map.2 ⟨y, hy, rfl⟩
    rw [← hq.2.1]
    exact h.hs.2 _ hm
  have hs : ∀ y ∈ d.ss, y.cases.n ≤ M := fun y hy => by
    obtain ⟨g, o, hq⟩ := qmem hl.ss y hy
    have hm : y.p ∈ x.states.map stateP := by rw [← e2]; exact List.mem_map.2 ⟨y, hy, rfl⟩
    obtain ⟨z, hz, ez⟩ := List.mem_map.1 hm
    have e : z.cs.map caseP = y.cs := congrArg PState.cs ez
    rw [← hq.2.2.2.2.2.1, ← e, List.length_map]
    exact h.ss.2 z hz
  have ha : ∀ y ∈ d.al, y.w.n ≤ M ∧ y.ops.n ≤ M ∧ ∀ o ∈ y.os, o.e.n ≤ M := fun y hy => by
    obtain ⟨g, o, hq⟩ := qmem hl.al y hy
    have hm : y.p ∈ x.acts.map actP := by rw [← e3]; exact List.mem_map.2 ⟨y, hy, rfl⟩
    obtain ⟨z, hz, ez⟩ := List.mem_map.1 hm
    have hf := h.al.2 z hz
    have ew : z.w = y.ws := congrArg PAct.ws ez
    have eo : z.ops.map deedP = y.os.map OpD.p := congrArg PAct.os ez
    refine ⟨by rw [← hq.2.2.1.1, ← ew]; exact hf.1, ?_, fun o ho => ?_⟩
    · rw [← hq.2.2.2.1]
      have := congrArg List.length eo
      rw [List.length_map, List.length_map] at this
      rw [← this]
      exact hf.2.1
    · obtain ⟨g', o', hq'⟩ := qmem hq.2.2.2 o ho
      have hm' : o.p ∈ z.ops.map deedP := by rw [eo]; exact List.mem_map.2 ⟨o, ho, rfl⟩
      obtain ⟨q, hq2, eq⟩ := List.mem_map.1 hm'
      have ee : treeP q.e = o.es := congrArg POp.es eq
      rw [← hq'.2.2.2.2.2.1, ← ee]
      exact hf.2.2 q hq2
  have ht : ∀ y ∈ d.ts, y.keys.n ≤ M ∧ y.acts.n ≤ M ∧ y.args.n ≤ M := fun y hy => by
    obtain ⟨g, o, hq⟩ := qmem hl.ts y hy
    have hm : y.p ∈ x.tabs.map tabP := by rw [← e4]; exact List.mem_map.2 ⟨y, hy, rfl⟩
    obtain ⟨z, hz, ez⟩ := List.mem_map.1 hm
    have hf := h.ts.2 z hz
    have ek : z.keys.map refP = y.ks := congrArg PTab.ks ez
    have ea : z.acts = y.al := congrArg PTab.al ez
    have eg : z.args = y.zs := congrArg PTab.zs ez
    refine ⟨?_, ?_, ?_⟩
    · rw [← hq.2.2.2.2.2.2.1.1, ← ek, List.length_map]; exact hf.1
    · rw [← hq.2.2.2.2.2.2.2.1.1, ← ea]; exact hf.2.1
    · rw [← hq.2.2.2.2.2.2.2.2.1, ← eg]; exact hf.2.2
  have hn : ∀ y ∈ d.ns, y.e.n ≤ M := fun y hy => by
    obtain ⟨g, o, hq⟩ := qmem hl.ns y hy
    have hm : y.p ∈ x.nodes.map nodeP := by rw [← e5]; exact List.mem_map.2 ⟨y, hy, rfl⟩
    obtain ⟨z, hz, ez⟩ := List.mem_map.1 hm
    have ee : treeP z.e = y.es := congrArg PNode.es ez
    rw [← hq.2.2.2.2.2.1, ← ee]
    exact h.ns.2 z hz
  refine ⟨⟨by omega, fun y hy => by have := (ha y hy).1; omega, fun y hy => by have := ht y hy; omega, by omega⟩, ⟨⟨by omega, fun y hy => by have := hh y hy; omega⟩, by omega, ⟨by omega, fun y hy => by have := hs y hy; omega⟩, ⟨by omega, fun y hy => ⟨by have := (ha y hy).1; omega, by have := (ha y hy).2.1; omega, fun o ho => by have := (ha y hy).2.2 o ho; omega⟩⟩, ⟨by omega, fun y hy => by have := ht y hy; omega⟩, ⟨by omega, fun y hy => by have := hn y hy; omega⟩, by omega⟩⟩
structure DcAt (w W : World) (s f b6 b7 : Nat) (vs : List Value) (C A : Int) : Prop where
  s0 : ∀ k, k < 7 → W.cell? ⟨s, k, none⟩ = some (.slice none 0 0)
  f0 : W.cell? ⟨f, 0, none⟩ = some (.int .i64 0)
  f1 : W.cell? ⟨f, 1, none⟩ = some (.int .i64 0)
  zs : ∀ o, W.frozen? ⟨s, o, none⟩ = false
  zf : ∀ o, W.frozen? ⟨f, o, none⟩ = false
  c6 : ∀ (k : Nat) (v : Value), vs[k]? = some v → W.cell? ⟨b6, k, none⟩ = some v
  c7 : W.cell? ⟨b7, 0, none⟩ = some (.int .i64 C)
  d7 : W.cell? ⟨b7, 1, none⟩ = some (.int .i64 A)
  z7 : ∀ o, W.frozen? ⟨b7, o, none⟩ = false
  bel : Below w.heap.size w W
  lo : w.heap.size ≤ s
  o1 : s < f
  o2 : f < b6
  o3 : b6 < b7
  o4 : b7 < W.heap.size
theorem DcAt.step {w W W' : World} {s f b6 b7 : Nat} {vs : List Value} {C A : Int} (h : DcAt w W s f b6 b7 vs C A) (b : Below W.heap.size W W') : DcAt w W' s f b6 b7 vs C A :=
  ⟨fun k hk => cell_keep (h.s0 k hk) b, cell_keep h.f0 b, cell_keep h.f1 b, fun o => (b.frozen (p := ⟨s, o, none⟩) (by have := h.o1; have := h.o2; have := h.o3; have := h.o4; show s < _; omega)).trans (h.zs o), fun o => (b.frozen (p := ⟨f, o, none⟩) (by have := h.o2; have := h.o3; have := h.o4; show f < _; omega)).trans (h.zf o), fun k v hv => cell_keep (h.c6 k v hv) b, cell_keep h.c7 b, cell_keep h.d7 b, fun o => (b.frozen (p := ⟨b7, o, none⟩) h.o4).trans (h.z7 o), bl_step h.bel b, h.lo, h.o1, h.o2, h.o3, Nat.lt_of_lt_of_le h.o4 b.size⟩
theorem DcAt.put {w W : World} {s f b6 b7 : Nat} {vs : List Value} {C A : Int} (h : DcAt w W s f b6 b7 vs C A) (C' A' : Int) : DcAt w ((W.setCell ⟨b7, 0, none⟩ (.int .i64 C')).setCell ⟨b7, 1, none⟩ (.int .i64 A')) s f b6 b7 vs C' A' := by
  have h0 := h.lo
  have h1 := h.o1
  have h2 := h.o2
  have h3 := h.o3
  have st : ∀ (g o : Nat) (v : Value), g < b7 → W.cell? ⟨g, o, none⟩ = some v → ((W.setCell ⟨b7, 0, none⟩ (.int .i64 C')).setCell ⟨b7, 1, none⟩ (.int .i64 A')).cell? ⟨g, o, none⟩ = some v := fun g o v hg hc => (World.cell?_setCell_other _ _ _ _ (by simp only [ne_eq, Addr.mk.injEq]; omega)).trans ((World.cell?_setCell_other _ _ _ _ (by simp only [ne_eq, Addr.mk.injEq]; omega)).trans hc)
  have fz : ∀ a, ((W.setCell ⟨b7, 0, none⟩ (.int .i64 C')).setCell ⟨b7, 1, none⟩ (.int .i64 A')).frozen? a = W.frozen? a := fun a => (World.frozen?_setCell _ _ _ _).trans (World.frozen?_setCell _ _ _ _)
  exact ⟨fun k hk => st _ _ _ (by omega) (h.s0 k hk), st _ _ _ (by omega) h.f0, st _ _ _ (by omega) h.f1, fun o => (fz _).trans (h.zs o), fun o => (fz _).trans (h.zf o), fun k v hv => st _ _ _ (by omega) (h.c6 k v hv), (World.cell?_setCell_other _ _ _ _ (by simp)).trans (World.cell?_setCell_same _ _ _ h.c7), World.cell?_setCell_same _ _ _ ((World.cell?_setCell_other _ _ _ _ (by simp)).trans h.d7), fun o => (fz _).trans (h.z7 o), (h.bel.setCell (p := ⟨b7, 0, none⟩) (by show w.heap.size ≤ b7; omega) _).setCell (p := ⟨b7, 1, none⟩) (by show w.heap.size ≤ b7; omega) _, h.lo, h.o1, h.o2, h.o3, by have := h.o4; simpa [World.setCell] using this⟩
theorem dc_new {w W3 w4 : World} {s f : Nat} (hs0 : ∀ k, k < 7 → W3.cell? ⟨s, k, none⟩ = some (.slice none 0 0)) (hf0 : W3.cell? ⟨f, 0, none⟩ = some (.int .i64 0)) (hf1 : W3.cell? ⟨f, 1, none⟩ = some (.int .i64 0)) (hzs : ∀ o, W3.frozen? ⟨s, o, none⟩ = false) (hzf : ∀ o, W3.frozen? ⟨f, o, none⟩ = false) (hbel : Below w.heap.size w W3) (hlo : w.heap.size ≤ s) (ho : s < f) (b : Below W3.heap.size W3 w4) (v1 v2 v3 v4 v5 v6 v7 : Value) (C A : Int) : DcAt w ((w4.alloc (.cells #[v1, v2, v3, v4, v5, v6, v7] 29)).alloc (.cells #[.int .i64 C, .int .i64 A] 35)) s f w4.heap.size (w4.heap.size + 1) [v1, v2, v3, v4, v5, v6, v7] C A := by
  have hf : f < W3.heap.size := World.block_lt_of_cell? _ _ hf0
  have b2 : Below W3.heap.size W3 ((w4.alloc (.cells #[v1, v2, v3, v4, v5, v6, v7] 29)).alloc (.cells #[.int .i64 C, .int .i64 A] 35)) := bl_alloc (bl_alloc b)
  refine ⟨fun k hk => cell_keep (hs0 k hk) b2, cell_keep hf0 b2, cell_keep hf1 b2, fun o => (b2.frozen (p := ⟨s, o, none⟩) (by show s < _; omega)).trans (hzs o), fun o => (b2.frozen (p := ⟨f, o, none⟩) hf).trans (hzf o), fun k v hv => ?_, (World.cell?_alloc_at _ _ _ _ (by simp)).trans rfl, (World.cell?_alloc_at _ _ _ _ (by simp)).trans rfl, fun o => World.frozen?_alloc_at _ _ _ _ (by simp), bl_step hbel b2, hlo, ho, Nat.lt_of_lt_of_le hf b.size, by omega, by simp⟩
  refine (World.cell?_alloc_past _ _ _ (by simp)).trans ((World.cell?_alloc_at _ _ _ _ rfl).trans ?_)
  have : ([v1, v2, v3, v4, v5, v6, v7].toArray)[k]? = some v := by rw [List.getElem?_toArray]; exact hv
  exact this
end Go.Proofs.YtedeiaokohdhpaaGreat

namespace Go.Proofs.YtedeiaokohdhpaaGreat
open Go.RowKit
set_option maxHeartbeats 8000000 in
set_option maxRecDepth 20000 in
theorem decode_good (a : Option Addr) (n c : Nat) (zs : List Int) (w : World) (hnc : n ≤ c) (hz : Has .u8 w a n zs) (hb : (frameF zs).1 = 0) :
    Calls Tryz.prog 10 #[.slice a n c] w (DecDone zs w) := by
  have hfd : ∀ (W : World) (x y : Int), (Instr.field 35 (.agg #[.int .i64 x, .int .i64 y]) 0).run Tryz.prog W = .ok (.int .i64 x) W := fun _ _ _ => by kernel_rfl
  obtain ⟨hfr, h7, h8, -, -⟩ := frame_ok hb
  have hnl := hz.1
  obtain ⟨W2, hW⟩ : ∃ W2, W2 = ((w.alloc (.cells #[.slice none 0 0, .slice none 0 0, .slice none 0 0, .slice none 0 0, .slice none 0 0, .slice none 0 0, .slice none 0 0] 29)).alloc (.cells #[.int .i64 0, .int .i64 0] 35)) := ⟨_, rfl⟩
  obtain ⟨s, es⟩ : ∃ s, s = w.heap.size := ⟨_, rfl⟩
  obtain ⟨f, ef⟩ : ∃ f, f = w.heap.size + 1 := ⟨_, rfl⟩
  have HB : Hid (Below w.heap.size w W2) := by rw [hW]; exact bl_alloc (bl_alloc (Below.refl _ _))
  have hc : (∀ k, k < 7 → W2.cell? ⟨s, k, none⟩ = some (.slice none 0 0)) ∧ W2.cell? ⟨f, 0, none⟩ = some (.int .i64 0) ∧ W2.cell? ⟨f, 1, none⟩ = some (.int .i64 0) ∧ (∀ o, W2.frozen? ⟨s, o, none⟩ = false) ∧ ∀ o, W2.frozen? ⟨f, o, none⟩ = false := by
    rw [hW, es, ef]
    refine ⟨fun k hk => ?_, ?_, ?_, fun o => ?_, fun o => ?_⟩
    · rcases (show k = 0 ∨ k = 1 ∨ k = 2 ∨ k = 3 ∨ k = 4 ∨ k = 5 ∨ k = 6 by omega) with rfl | rfl | rfl | rfl | rfl | rfl | rfl <;> exact (World.cell?_alloc_past _ _ _ (by simp)).trans ((World.cell?_alloc_at _ _ _ _ rfl).trans rfl)
    · exact (World.cell?_alloc_at _ _ _ _ (by simp)).trans rfl
    · exact (World.cell?_alloc_at _ _ _ _ (by simp)).trans rfl
    · exact (World.frozen?_alloc_past _ _ _ (by simp)).trans (World.frozen?_alloc_at _ _ _ _ rfl)
    · exact World.frozen?_alloc_at _ _ _ _ (by simp)
  have HF := hid (frame_any a n c zs W2 (by omega) hnc (hz.step HB.out))
  have hsf : s < f ∧ f < W2.heap.size ∧ w.heap.size ≤ s := by rw [hW, es, ef]; simp
  have HZ := hid hz
  have EW := hid hW
  have ES := hid es
  have EF := hid ef
  have HC := hid hc
  have HSF := hid hsf
  have HFR := hid hfr
  unfold FrameDone at HF
  rw [hfr] at HF
  obtain ⟨ys, eys⟩ : ∃ ys, ys = zs.take (zs.length - 4) := ⟨_, rfl⟩
  have hyl : ys.length = n - 4 := by rw [eys, List.length_take]; omega
  have EY := hid eys
  have HYL := hid hyl
  obtain ⟨m, em⟩ : ∃ m : Nat, m = n - 4 := ⟨_, rfl⟩
  have hm4 : (n : Int) - 4 = (m : Int) := by omega
  have hw4 : IntKind.i64.wrap ((n : Int) - 4) = (m : Int) := by rw [hm4]; exact wrap_small _ (by omega) (by omega)
  have HM : Hid (3 ≤ m ∧ m ≤ 8000 ∧ m ≤ n ∧ n ≤ c ∧ ys.length = m ∧ m = zs.length - 4) := ⟨by omega, by omega, by omega, hnc, by omega, by omega⟩
  have hmc : (m : Int) ≤ (c : Int) := by omega
  have HW4 := hid hw4
  clear hz hW es ef hc hb hsf hfr h7 h8 hnl eys hyl em hm4 hnc hw4
  go_enter Tryz.func10, Tryz.ntmps10
  go_wp2_with fail
  rw [← EW.out, ← EF.out, ← ES.out]
  refine HF.out.mono ?_
  rintro e w1 ⟨rfl, hb1⟩
  clear HF EW ES EF
  obtain ⟨W3, eW3⟩ : ∃ W3, W3 = w1.alloc (.cells #[.int .i64 0, .int .i64 0] 35) := ⟨_, rfl⟩
  have hb3 : Below W2.heap.size W2 W3 := by rw [eW3]; exact bl_alloc hb1
  have HB3 := hid hb3
  have HB3w := hid (bl_step HB.out hb3)
  have HZ3 : Hid (Has .u8 W3 a ys.length ys) := by
    have := zhas_take (HZ.out.step HB3w.out) m HM.out.2.2.1
    show Has .u8 W3 a ys.length ys
    rw [HM.out.2.2.2.2.1, EY.out, ← HM.out.2.2.2.2.2]
    exact this
  have HRP := hid (rreadPlan a c ys W3 HZ3.out (by rw [HM.out.2.2.2.2.1]; exact HM.out.1) (by rw [HM.out.2.2.2.2.1]; have := HM.out.2.1; omega) (fun ad had => by
    obtain ⟨g, o, e, hg, _⟩ := HZ3.out.some (by rw [HM.out.2.2.2.2.1]; have := HM.out.1; omega)
    rw [e] at had
    cases had
    exact hg))
  rw [HM.out.2.2.2.2.1] at HRP
  have EW3 := hid eW3
  have t0 : W3.cell? ⟨w1.heap.size, 0, none⟩ = some (.int .i64 0) := by rw [eW3]; exact (World.cell?_alloc_at _ _ _ _ rfl).trans rfl
  clear eW3 hb3 hb1
  have hw4 := HW4.out
  go_upto_region 5 with fail
  rw [← EW3.out]
  have HS3 : Hid ((∀ k, k < 7 → W3.cell? ⟨s, k, none⟩ = some (.slice none 0 0)) ∧ W3.cell? ⟨f, 0, none⟩ = some (.int .i64 0) ∧ W3.cell? ⟨f, 1, none⟩ = some (.int .i64 0) ∧ (∀ o, W3.frozen? ⟨s, o, none⟩ = false) ∧ ∀ o, W3.frozen? ⟨f, o, none⟩ = false) := ⟨fun k hk => cell_keep (HC.out.1 k hk) HB3.out, cell_keep HC.out.2.1 HB3.out, cell_keep HC.out.2.2.1 HB3.out, fun o => (HB3.out.frozen (p := ⟨s, o, none⟩) (Nat.lt_trans HSF.out.1 HSF.out.2.1)).trans (HC.out.2.2.2.1 o), fun o => (HB3.out.frozen (p := ⟨f, o, none⟩) HSF.out.2.1).trans (HC.out.2.2.2.2 o)⟩
  have HFS : Hid (f < W3.heap.size ∧ s < W3.heap.size) := ⟨World.block_lt_of_cell? _ _ HS3.out.2.1, World.block_lt_of_cell? _ _ (HS3.out.1 0 (by decide))⟩
  have HW3 : Hid (w.heap.size ≤ W3.heap.size) := HB3w.out.size
  clear EW3 t0 HC HB HZ HZ3 hw4 HW4
  go_wp2_with fail
  refine HRP.out.mono ?_
  rintro e w4 ⟨hb4, hr⟩
  clear HRP
  have key : ∃ (a1 a2 a3 a4 a5 a6 a7 : Option Addr) (n1 n2 n3 n4 n5 n6 n7 : Nat) (C A : Int), e = .returned (.tuple #[.agg #[.slice a1 n1 n1, .slice a2 n2 n2, .slice a3 n3 n3, .slice a4 n4 n4, .slice a5 n5 n5, .slice a6 n6 n6, .slice a7 n7 n7], .agg #[.int .i64 C, .int .i64 A]]) ∧ ((C ≠ 0 ∧ decX zs = none) ∨ (C = 0 ∧ ∃ x, PlanV W3 x w4 (.agg #[.slice a1 n1 n1, .slice a2 n2 n2, .slice a3 n3 n3, .slice a4 n4 n4, .slice a5 n5 n5, .slice a6 n6 n6, .slice a7 n7 n7]) ∧ planR ys 3 = .ok (x, ys.length))) := by
    cases hq : planR ys 3 with
    | error er =>
      obtain ⟨code, at_⟩ := er
      rw [hq] at hr
      obtain ⟨v, ⟨a1, a2, a3, a4, a5, a6, a7, n1, n2, n3, n4, n5, n6, n7, rfl⟩, he⟩ := hr
      refine ⟨a1, a2, a3, a4, a5, a6, a7, n1, n2, n3, n4, n5, n6, n7, code, at_, he, .inl ⟨noz_plan ys 3 code at_ hq, ?_⟩⟩
      unfold decX
      rw [HFR.out, if_neg (by decide), ← EY.out, hq]
    | ok y =>
      obtain ⟨x, u⟩ := y
      rw [hq] at hr
      rcases hr with ⟨hul, v, ⟨a1, a2, a3, a4, a5, a6, a7, n1, n2, n3, n4, n5, n6, n7, rfl⟩, he⟩ | ⟨rfl, v, hv, he⟩
      · refine ⟨a1, a2, a3, a4, a5, a6, a7, n1, n2, n3, n4, n5, n6, n7, 4, (u : Int), he, .inl ⟨by decide, ?_⟩⟩
        unfold decX
        rw [HFR.out, if_neg (by decide), ← EY.out, hq]
        dsimp only
        rw [if_pos hul]
      · obtain ⟨a1, a2, a3, a4, a5, a6, a7, n1, n2, n3, n4, n5, n6, n7, rfl⟩ := hv.sl
        exact ⟨a1, a2, a3, a4, a5, a6, a7, n1, n2, n3, n4, n5, n6, n7, 0, 0, he, .inr ⟨rfl, x, hv, rfl⟩⟩
  obtain ⟨a1, a2, a3, a4, a5, a6, a7, n1, n2, n3, n4, n5, n6, n7, C, A, rfl, hk⟩ := key
  have HK := hid hk
  have HD : Hid (DcAt w ((w4.alloc (.cells #[.slice a1 n1 n1, .slice a2 n2 n2, .slice a3 n3 n3, .slice a4 n4 n4, .slice a5 n5 n5, .slice a6 n6 n6, .slice a7 n7 n7] 29)).alloc (.cells #[.int .i64 C, .int .i64 A] 35)) s f w4.heap.size (w4.heap.size + 1) [.slice a1 n1 n1, .slice a2 n2 n2, .slice a3 n3 n3, .slice a4 n4 n4, .slice a5 n5 n5, .slice a6 n6 n6, .slice a7 n7 n7] C A) := dc_new HS3.out.1 HS3.out.2.1 HS3.out.2.2.1 HS3.out.2.2.2.1 HS3.out.2.2.2.2 HB3w.out HSF.out.2.2 HSF.out.1 hb4 (.slice a1 n1 n1) (.slice a2 n2 n2) (.slice a3 n3 n3) (.slice a4 n4 n4) (.slice a5 n5 n5) (.slice a6 n6 n6) (.slice a7 n7 n7) C A
  obtain ⟨W5, e5⟩ : ∃ W5, W5 = (w4.alloc (.cells #[.slice a1 n1 n1, .slice a2 n2 n2, .slice a3 n3 n3, .slice a4 n4 n4, .slice a5 n5 n5, .slice a6 n6 n6, .slice a7 n7 n7] 29)).alloc (.cells #[.int .i64 C, .int .i64 A] 35) := ⟨_, rfl⟩
  obtain ⟨b6, e6⟩ : ∃ b6, b6 = w4.heap.size := ⟨_, rfl⟩
  obtain ⟨b7, e7⟩ : ∃ b7, b7 = w4.heap.size + 1 := ⟨_, rfl⟩
  rw [← e5, ← e7, ← e6] at HD
  have HB5 : Hid (Below w4.heap.size w4 W5) := by rw [e5]; exact bl_alloc (bl_alloc (Below.refl _ _))
  have HB4 := hid hb4
  have E5 := hid e5
  have E6 := hid e6
  have E7 := hid e7
  clear hr hk e5 e6 e7 hb4 HS3 HB3 HB3w HSF
  dsimp only
  go_upto_region 6 with fail
  rw [← E5.out, ← E7.out, ← E6.out]
  clear E5
  rcases HK.out with ⟨hC, hdec⟩ | ⟨hC, x, hv, hpl⟩
  · have HE : Hid (∀ w', Below w.heap.size w w' → DecDone zs w (.returned (.tuple #[noPlan, .agg #[.int .i64 C, .int .i64 A]])) w') := fun w' hbw => by
      unfold DecDone
      rw [hdec]
      exact ⟨hbw, C, A, hC, rfl⟩
    have hce : (C == 0) = false := by simpa using hC
    have hcn : (C != 0) = true := by simpa using hC
    clear HK hdec hC
    have c0 := HD.out.s0 0 (by decide)
    have c1 := HD.out.s0 1 (by decide)
    have c2 := HD.out.s0 2 (by decide)
    have c3 := HD.out.s0 3 (by decide)
    have c4 := HD.out.s0 4 (by decide)
    have c5 := HD.out.s0 5 (by decide)
    have c6 := HD.out.s0 6 (by decide)
    have y0 := HD.out.f0
    have y1 := HD.out.f1
    have z := HD.out.zs
    have zf := HD.out.zf
    have q0 := HD.out.c7
    have q1 := HD.out.d7
    have hfl : f < W5.heap.size := World.block_lt_of_cell? _ _ y0
    have hsl : s < W5.heap.size := World.block_lt_of_cell? _ _ c0
    have hsf : s ≠ f := Nat.ne_of_lt HD.out.o1
    have hs7 : s ≠ b7 := by have := HD.out.o1; have := HD.out.o2; have := HD.out.o3; omega
    have hf7 : f ≠ b7 := by have := HD.out.o2; have := HD.out.o3; omega
    have hws : w.heap.size ≤ s := HD.out.lo
    have hwf : w.heap.size ≤ f := Nat.le_trans hws (Nat.le_of_lt HD.out.o1)
    have HWS := hid hws
    have HWF := hid hwf
    have HBL := hid HD.out.bel
    have set7 : Hid (∀ x : World, Below w.heap.size w x → Below w.heap.size w (((((((x.setCell ⟨s, 0, none⟩ (.slice none 0 0)).setCell ⟨s, 1, none⟩ (.slice none 0 0)).setCell ⟨s, 2, none⟩ (.slice none 0 0)).setCell ⟨s, 3, none⟩ (.slice none 0 0)).setCell ⟨s, 4, none⟩ (.slice none 0 0)).setCell ⟨s, 5, none⟩ (.slice none 0 0)).setCell ⟨s, 6, none⟩ (.slice none 0 0))) := fun x h => ((((((h.setCell (p := ⟨s, 0, none⟩) hws _).setCell (p := ⟨s, 1, none⟩) hws _).setCell (p := ⟨s, 2, none⟩) hws _).setCell (p := ⟨s, 3, none⟩) hws _).setCell (p := ⟨s, 4, none⟩) hws _).setCell (p := ⟨s, 5, none⟩) hws _).setCell (p := ⟨s, 6, none⟩) hws _
    clear HD hws hwf
    go_wp2_with fail
    go_region
    all_goals
      go_wp2
      exact bodyPost_ret (v := .tuple #[noPlan, .agg #[.int .i64 C, .int .i64 A]]) (by simp [results, Tryz.results10, go_sem, *]) rfl (HE.out _ (((set7.out _ HBL.out).setCell (p := ⟨f, 0, none⟩) HWF.out _).setCell (p := ⟨f, 1, none⟩) HWF.out _).drew)
  · subst hC
    obtain ⟨d, ed, hdl, hd0, hdp⟩ := plan_of hv
    have HPV := hid hv
    have hfew := tls_plan 8000 ys 3 x ys.length (by rw [HM.out.2.2.2.2.1]; exact HM.out.2.1) hpl
    obtain ⟨hsm, -⟩ := small_few hfew (by decide) hdl hdp
    have HCK := hid (check_told d W5 (hdl.step HB5.out) hsm)
    rw [hdp] at HCK
    rw [← ed] at HCK
    have HDX : Hid (decX zs = if (chkP (planP x)).1 ≠ 0 then none else some x) := by
      show decX zs = _
      unfold decX
      rw [HFR.out, if_neg (by decide), ← EY.out, hpl]
      dsimp only
      rw [if_neg (Nat.lt_irrefl _)]
    clear HK hdl hd0 hdp hsm hfew ed d hv hpl
    have r0 := HD.out.c6 0 _ rfl
    have r1 := HD.out.c6 1 _ rfl
    have r2 := HD.out.c6 2 _ rfl
    have r3 := HD.out.c6 3 _ rfl
    have r4 := HD.out.c6 4 _ rfl
    have r5 := HD.out.c6 5 _ rfl
    have r6 := HD.out.c6 6 _ rfl
    have q0 := HD.out.c7
    generalize hKC : (chkP (planP x)).1 = K at HCK HDX
    generalize (chkP (planP x)).2 = KA at HCK
    clear hKC
    go_wp2_with fail
    refine HCK.out.mono ?_
    rintro e w6 ⟨rfl, hb6⟩
    clear HCK r0 r1 r2 r3 r4 r5 r6 q0
    have HD6 := hid (HD.out.step hb6)
    have HB6 := hid hb6
    clear hb6 HD
    by_cases hK : K = 0
    · subst hK
      have HE : Hid (∀ (w' : World), (∀ g, W3.heap.size ≤ g → w'.heap[g]? = w6.heap[g]? ∨ w6.heap.size ≤ g) → Below w.heap.size w w' → DecDone zs w (.returned (.tuple #[.agg #[.slice a1 n1 n1, .slice a2 n2 n2, .slice a3 n3 n3, .slice a4 n4 n4, .slice a5 n5 n5, .slice a6 n6 n6, .slice a7 n7 n7], .agg #[.int .i64 0, .int .i64 0]])) w') := fun w' hg hbw => by
        unfold DecDone
        rw [HDX.out, if_neg (by decide)]
        refine ⟨hbw, _, ((HPV.out.keep (w2 := w6) fun g hg' => ?_).keep hg).low HW3.out, rfl⟩
        rcases Nat.lt_or_ge g w4.heap.size with h | h
        · exact .inl ((HB6.out.block g (Nat.lt_of_lt_of_le h HB5.out.size)).trans (HB5.out.block g h))
        · exact .inr h
      have c0 := HD6.out.s0 0 (by decide)
      have c1 := HD6.out.s0 1 (by decide)
      have c2 := HD6.out.s0 2 (by decide)
      have c3 := HD6.out.s0 3 (by decide)
      have c4 := HD6.out.s0 4 (by decide)
      have c5 := HD6.out.s0 5 (by decide)
      have c6 := HD6.out.s0 6 (by decide)
      have r0 := HD6.out.c6 0 _ rfl
      have r1 := HD6.out.c6 1 _ rfl
      have r2 := HD6.out.c6 2 _ rfl
      have r3 := HD6.out.c6 3 _ rfl
      have r4 := HD6.out.c6 4 _ rfl
      have r5 := HD6.out.c6 5 _ rfl
      have r6 := HD6.out.c6 6 _ rfl
      have y0 := HD6.out.f0
      have y1 := HD6.out.f1
      have z := HD6.out.zs
      have zf := HD6.out.zf
      have q0 := HD6.out.c7
      have hsf : s ≠ f := Nat.ne_of_lt HD6.out.o1
      have hfl : f < w6.heap.size := World.block_lt_of_cell? _ _ y0
      have hsl : s < w6.heap.size := World.block_lt_of_cell? _ _ c0
      have HFIN : Hid (DecDone zs w (.returned (.tuple #[.agg #[.slice a1 n1 n1, .slice a2 n2 n2, .slice a3 n3 n3, .slice a4 n4 n4, .slice a5 n5 n5, .slice a6 n6 n6, .slice a7 n7 n7], .agg #[.int .i64 0, .int .i64 0]])) (((((((((w6.setCell ⟨s, 0, none⟩ (.slice a1 n1 n1)).setCell ⟨s, 1, none⟩ (.slice a2 n2 n2)).setCell ⟨s, 2, none⟩ (.slice a3 n3 n3)).setCell ⟨s, 3, none⟩ (.slice a4 n4 n4)).setCell ⟨s, 4, none⟩ (.slice a5 n5 n5)).setCell ⟨s, 5, none⟩ (.slice a6 n6 n6)).setCell ⟨s, 6, none⟩ (.slice a7 n7 n7)).setCell ⟨f, 0, none⟩ (.int .i64 0)).setCell ⟨f, 1, none⟩ (.int .i64 0))) := by
        have hws : w.heap.size ≤ s := HD6.out.lo
        have hwf : w.heap.size ≤ f := Nat.le_trans hws (Nat.le_of_lt HD6.out.o1)
        refine HE.out _ (fun g hg => .inl ?_) ?_
        · have hgs : g ≠ s := by have := HFS.out.2; omega
          have hgf : g ≠ f := by have := HFS.out.1; omega
          have st : ∀ (X : World) (k : Nat) (u : Value), (X.setCell ⟨s, k, none⟩ u).heap[g]? = X.heap[g]? := fun X k u => Below.heap_setCell _ _ _ _ hgs
          have sf : ∀ (X : World) (k : Nat) (u : Value), (X.setCell ⟨f, k, none⟩ u).heap[g]? = X.heap[g]? := fun X k u => Below.heap_setCell _ _ _ _ hgf
          rw [sf, sf, st, st, st, st, st, st, st]
        · exact ((((((((HD6.out.bel.setCell (p := ⟨s, 0, none⟩) hws _).setCell (p := ⟨s, 1, none⟩) hws _).setCell (p := ⟨s, 2, none⟩) hws _).setCell (p := ⟨s, 3, none⟩) hws _).setCell (p := ⟨s, 4, none⟩) hws _).setCell (p := ⟨s, 5, none⟩) hws _).setCell (p := ⟨s, 6, none⟩) hws _).setCell (p := ⟨f, 0, none⟩) hwf _).setCell (p := ⟨f, 1, none⟩) hwf _
      clear HD6 HE HPV HDX
      dsimp only
      go_upto_region 10 with fail
      go_wp2
      exact bodyPost_ret (v := .tuple #[.agg #[.slice a1 n1 n1, .slice a2 n2 n2, .slice a3 n3 n3, .slice a4 n4 n4, .slice a5 n5 n5, .slice a6 n6 n6, .slice a7 n7 n7], .agg #[.int .i64 0, .int .i64 0]]) (by simp [results, Tryz.results10, go_sem, *]) rfl HFIN.out
    · have hKn : (K != 0) = true := by simpa using hK
      have HE : Hid (∀ w', Below w.heap.size w w' → DecDone zs w (.returned (.tuple #[noPlan, .agg #[.int .i64 5, .int .i64 (m : Int)]])) w') := fun w' hbw => by
        unfold DecDone
        rw [HDX.out, if_pos hK]
        exact ⟨hbw, 5, _, by decide, rfl⟩
      have HD7 := hid (HD6.out.put 5 (m : Int))
      obtain ⟨w7, e7⟩ : ∃ w7, w7 = (w6.setCell ⟨b7, 0, none⟩ (.int .i64 5)).setCell ⟨b7, 1, none⟩ (.int .i64 (m : Int)) := ⟨_, rfl⟩
      rw [← e7] at HD7
      have EW7 := hid e7
      have q0 := HD6.out.c7
      have q1 := HD6.out.d7
      have zq := HD6.out.z7
      clear e7 HDX hK HD6 HPV
      dsimp only
      go_upto_region 8 with fail
      rw [← EW7.out]
      clear EW7 q0 q1 zq
      have c0 := HD7.out.s0 0 (by decide)
      have c1 := HD7.out.s0 1 (by decide)
      have c2 := HD7.out.s0 2 (by decide)
      have c3 := HD7.out.s0 3 (by decide)
      have c4 := HD7.out.s0 4 (by decide)
      have c5 := HD7.out.s0 5 (by decide)
      have c6 := HD7.out.s0 6 (by decide)
      have y0 := HD7.out.f0
      have y1 := HD7.out.f1
      have z := HD7.out.zs
      have zf := HD7.out.zf
      have q0 := HD7.out.c7
      have q1 := HD7.out.d7
      have hfl : f < w7.heap.size := World.block_lt_of_cell? _ _ y0
      have hsl : s < w7.heap.size := World.block_lt_of_cell? _ _ c0
      have hsf : s ≠ f := Nat.ne_of_lt HD7.out.o1
      have hs7 : s ≠ b7 := by have := HD7.out.o1; have := HD7.out.o2; have := HD7.out.o3; omega
      have hf7 : f ≠ b7 := by have := HD7.out.o2; have := HD7.out.o3; omega
      have hws : w.heap.size ≤ s := HD7.out.lo
      have hwf : w.heap.size ≤ f := Nat.le_trans hws (Nat.le_of_lt HD7.out.o1)
      have HWS := hid hws
      have HWF := hid hwf
      have HBL := hid HD7.out.bel
      have set7 : Hid (∀ x : World, Below w.heap.size w x → Below w.heap.size w (((((((x.setCell ⟨s, 0, none⟩ (.slice none 0 0)).setCell ⟨s, 1, none⟩ (.slice none 0 0)).setCell ⟨s, 2, none⟩ (.slice none 0 0)).setCell ⟨s, 3, none⟩ (.slice none 0 0)).setCell ⟨s, 4, none⟩ (.slice none 0 0)).setCell ⟨s, 5, none⟩ (.slice none 0 0)).setCell ⟨s, 6, none⟩ (.slice none 0 0))) := fun x h => ((((((h.setCell (p := ⟨s, 0, none⟩) hws _).setCell (p := ⟨s, 1, none⟩) hws _).setCell (p := ⟨s, 2, none⟩) hws _).setCell (p := ⟨s, 3, none⟩) hws _).setCell (p := ⟨s, 4, none⟩) hws _).setCell (p := ⟨s, 5, none⟩) hws _).setCell (p := ⟨s, 6, none⟩) hws _
      clear HD7 hws hwf
      go_wp2_with fail
      go_region
      all_goals
        go_wp2
        exact bodyPost_ret (v := .tuple #[noPlan, .agg #[.int .i64 5, .int .i64 (m : Int)]]) (by simp [results, Tryz.results10, go_sem, *]) rfl (HE.out _ (((set7.out _ HBL.out).setCell (p := ⟨f, 0, none⟩) HWF.out _).setCell (p := ⟨f, 1, none⟩) HWF.out _).drew)
theorem decode_any (a : Option Addr) (n c : Nat) (zs : List Int) (w : World) (hn : n ≤ 10000000) (hnc : n ≤ c) (hz : Has .u8 w a n zs) : Calls Tryz.prog 10 #[.slice a n c] w (DecDone zs w) := by
  by_cases hb : (frameF zs).1 = 0
  · exact decode_good a n c zs w hnc hz hb
  · refine (decode_bad a n c zs w hn hnc hz hb).mono fun e w' h => ?_
    unfold DecDone decX
    rw [if_pos hb]
    exact ⟨h.2, _, _, hb, h.1⟩
end Go.Proofs.YtedeiaokohdhpaaGreat
