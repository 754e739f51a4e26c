/- Texts of one chain, joined: ZEnc, ZEnc2. -/
import Derived.Test.YtedeiaokohdhpaaGreatG28
import Derived.Test.YtedeiaokohdhpaaGreatG39
import Derived.Test.YtedeiaokohdhpaaGreatG33
import Derived.Lib.SlBytesConst
namespace Go.Proofs.YtedeiaokohdhpaaGreat
open Go.RowKit
def bodyL (x : PlanD) : List Int := [83, 89, 1] ++ planL x
def encL (x : PlanD) : List Int := bodyL x ++ Mth.four (Mth.crc (bodyL x))
theorem wr_new {w : World} : Wr w.heap.size (w.heap.size + 1) [83, 89, 1] ((w.alloc (.cells #[.int .u8 83, .int .u8 89, .int .u8 1] 5 (3, 4))).alloc (.cells #[.slice (some ⟨w.heap.size, 0, none⟩) 3 3] 70)) := by
  refine ⟨⟨some ⟨w.heap.size, 0, none⟩, 3, ?_, .inr ⟨w.heap.size, #[.int .u8 83, .int .u8 89, .int .u8 1], (3, 4), rfl, Nat.le_refl _, ?_, rfl, by decide⟩⟩, by omega, ?_⟩
  · have := alloc_at (w.alloc (.cells #[.int .u8 83, .int .u8 89, .int .u8 1] 5 (3, 4))) #[.slice (some ⟨w.heap.size, 0, none⟩) 3 3] 70
    simpa using this
  · have hb : Below (w.alloc (.cells #[.int .u8 83, .int .u8 89, .int .u8 1] 5 (3, 4))).heap.size (w.alloc (.cells #[.int .u8 83, .int .u8 89, .int .u8 1] 5 (3, 4))) ((w.alloc (.cells #[.int .u8 83, .int .u8 89, .int .u8 1] 5 (3, 4))).alloc (.cells #[.slice (some ⟨w.heap.size, 0, none⟩) 3 3] 70)) := bl_alloc (Below.refl _ _)
    exact (hb.block w.heap.size (by simp)).trans (heap_alloc_new w _)
  · intro x hx
    simp only [List.mem_cons, List.not_mem_nil, or_false] at hx
    rcases hx with rfl | rfl | rfl <;> decide
theorem Wr.push4 {B p : Nat} {bs : List Int} {w : World} (h : Wr B p bs w) {a : Option Addr} {c : Nat} (hc : w.cell? ⟨p, 0, none⟩ = some (.slice a bs.length c)) {ad : Option Addr} {c4 : Nat} {zs : List Int} (hz : Has .u8 w ad 4 zs) (hn : bs.length ≤ 9000000) (hB : B ≤ w.heap.size) :
    ∃ g cap w6, (Builtin.append_ #[30, 30] 30 #[.slice a bs.length c, .slice ad 4 c4]).run Tryz.prog w = .ok (.slice (some ⟨g, 0, none⟩) (bs.length + 4) cap) w6 ∧ w6.ownsRow B 5 1 (.slice (some ⟨g, 0, none⟩) (bs.length + 4) cap) (bs.length + 4) (BB (bs ++ zs)) ∧ Below B w w6 ∧ Fram p w w6 := by
  obtain ⟨a', c', h1, h2⟩ := h.ex
  have e : (.slice a bs.length c : Value) = .slice a' bs.length c' := by
    have : w.cell? ⟨p, 0, none⟩ = some (.slice a' bs.length c') := by simp [World.cell?, h1]
    rw [hc] at this
    exact Option.some.inj this
  simp only [Value.slice.injEq, true_and] at e
  obtain ⟨rfl, rfl⟩ := e
  have hz' := hz
  obtain ⟨b, off, rfl, _, _⟩ := hz.some (by decide)
  obtain ⟨g, cap, w6, hrun, ho, hg⟩ := h2.app (ad := ⟨b, off, none⟩) (m := 4) (c2 := c4) (zs := zs) hz'.1 (has_cells hz') (by decide) (by omega) hB
  refine ⟨g, cap, w6, hrun, ho, (Below.refl _ _).grown hg hB fun k hk => (h2.blk hk).1, hg.size, fun k cs T f hkp hT hk => ?_⟩
  have hkl := (Array.getElem?_eq_some_iff.1 hk).1
  have hkn : some k ≠ (Value.slice a bs.length c).ownBlock := fun e => by
    obtain ⟨_, cur, f', hh⟩ := h2.blk e.symm
    rw [hk] at hh
    simp only [Option.some.injEq, Obj.cells.injEq] at hh
    exact hT hh.2.1
  exact (hg.block k hkl hkn).trans hk
def EncDone (d : PlanD) (w : World) (e : Ending) (w' : World) : Prop :=
  ((chkP d.p).1 ≠ 0 ∧ e = .returned (.tuple #[.slice none 0 0, .agg #[.int .i64 (chkP d.p).1, .int .i64 (chkP d.p).2]]) ∧ Below w.heap.size w w') ∨
  ((chkP d.p).1 = 0 ∧ ∃ g cap, e = .returned (.tuple #[.slice (some ⟨g, 0, none⟩) (encL d).length cap, .agg #[.int .i64 0, .int .i64 0]]) ∧ w'.ownsRow w.heap.size 5 1 (.slice (some ⟨g, 0, none⟩) (encL d).length cap) (encL d).length (BB (encL d)) ∧ Below w.heap.size w w')
theorem ekeep7 {w w' : World} {s : Nat} {v0 v1 v2 v3 v4 v5 v6 : Value} (h : w.cell? ⟨s, 0, none⟩ = some v0 ∧ w.cell? ⟨s, 1, none⟩ = some v1 ∧ w.cell? ⟨s, 2, none⟩ = some v2 ∧ w.cell? ⟨s, 3, none⟩ = some v3 ∧ w.cell? ⟨s, 4, none⟩ = some v4 ∧ w.cell? ⟨s, 5, none⟩ = some v5 ∧ w.cell? ⟨s, 6, none⟩ = some v6) (b : Below w.heap.size w w') : w'.cell? ⟨s, 0, none⟩ = some v0 ∧ w'.cell? ⟨s, 1, none⟩ = some v1 ∧ w'.cell? ⟨s, 2, none⟩ = some v2 ∧ w'.cell? ⟨s, 3, none⟩ = some v3 ∧ w'.cell? ⟨s, 4, none⟩ = some v4 ∧ w'.cell? ⟨s, 5, none⟩ = some v5 ∧ w'.cell? ⟨s, 6, none⟩ = some v6 :=
  ⟨cell_keep h.1 b, cell_keep h.2.1 b, cell_keep h.2.2.1 b, cell_keep h.2.2.2.1 b, cell_keep h.2.2.2.2.1 b, cell_keep h.2.2.2.2.2.1 b, cell_keep h.2.2.2.2.2.2 b⟩
structure EncAt (d : PlanD) (w W2 : World) (s f : Nat) : Prop where
  cs : W2.cell? ⟨s, 0, none⟩ = some (.slice d.heads.a d.heads.n d.heads.c) ∧ W2.cell? ⟨s, 1, none⟩ = some (.slice d.mta.a d.mta.n d.mta.c) ∧ W2.cell? ⟨s, 2, none⟩ = some (.slice d.states.a d.states.n d.states.c) ∧ W2.cell? ⟨s, 3, none⟩ = some (.slice d.acts.a d.acts.n d.acts.c) ∧ W2.cell? ⟨s, 4, none⟩ = some (.slice d.tabs.a d.tabs.n d.tabs.c) ∧ W2.cell? ⟨s, 5, none⟩ = some (.slice d.nodes.a d.nodes.n d.nodes.c) ∧ W2.cell? ⟨s, 6, none⟩ = some (.slice d.out.a d.out.n d.out.c)
  f0 : W2.cell? ⟨f, 0, none⟩ = some (.int .i64 0)
  f1 : W2.cell? ⟨f, 1, none⟩ = some (.int .i64 0)
  fz : ∀ o, W2.frozen? ⟨f, o, none⟩ = false
  fl : f < W2.heap.size
  wf : w.heap.size ≤ f
  sl : s < f
theorem enc_at (d : PlanD) (w : World) : EncAt d w ((w.alloc (.cells #[.slice d.heads.a d.heads.n d.heads.c, .slice d.mta.a d.mta.n d.mta.c, .slice d.states.a d.states.n d.states.c, .slice d.acts.a d.acts.n d.acts.c, .slice d.tabs.a d.tabs.n d.tabs.c, .slice d.nodes.a d.nodes.n d.nodes.c, .slice d.out.a d.out.n d.out.c] 29)).alloc (.cells #[.int .i64 0, .int .i64 0] 35)) w.heap.size (w.heap.size + 1) := by
  refine ⟨⟨?_, ?_, ?_, ?_, ?_, ?_, ?_⟩, ?_, ?_, fun o => ?_, by simp, by omega, by omega⟩
  · exact (World.cell?_alloc_past _ _ _ (by simp)).trans ((World.cell?_alloc_at _ _ _ _ rfl).trans rfl)
  · exact (World.cell?_alloc_past _ _ _ (by simp)).trans ((World.cell?_alloc_at _ _ _ _ rfl).trans rfl)
  · exact (World.cell?_alloc_past _ _ _ (by simp)).trans ((World.cell?_alloc_at _ _ _ _ rfl).trans rfl)
  · exact (World.cell?_alloc_past _ _ _ (by simp)).trans ((World.cell?_alloc_at _ _ _ _ rfl).trans rfl)
  · exact (World.cell?_alloc_past _ _ _ (by simp)).trans ((World.cell?_alloc_at _ _ _ _ rfl).trans rfl)
  · exact (World.cell?_alloc_past _ _ _ (by simp)).trans ((World.cell?_alloc_at _ _ _ _ rfl).trans rfl)
  · exact (World.cell?_alloc_past _ _ _ (by simp)).trans ((World.cell?_alloc_at _ _ _ _ rfl).trans rfl)
  · exact (World.cell?_alloc_at _ _ _ _ (by simp)).trans rfl
  · exact (World.cell?_alloc_at _ _ _ _ (by simp)).trans rfl
  · exact World.frozen?_alloc_at _ _ _ _ (by simp)
theorem EncAt.step {d : PlanD} {w W2 W3 : World} {s f : Nat} (h : EncAt d w W2 s f) (b : Below W2.heap.size W2 W3) : EncAt d w W3 s f :=
  ⟨ekeep7 h.cs b, cell_keep h.f0 b, cell_keep h.f1 b, fun o => (b.frozen (p := ⟨f, o, none⟩) h.fl).trans (h.fz o), Nat.lt_of_lt_of_le h.fl b.size, h.wf, h.sl⟩
set_option maxHeartbeats 8000000 in
set_option maxRecDepth 20000 in
theorem enc_bad (d : PlanD) (w : World) (hl : d.lie w) (hs : d.small) (hc : (chkP d.p).1 ≠ 0) : Calls Tryz.prog 8 #[d.v] w (EncDone d w) := by
  obtain ⟨W2, hW⟩ : ∃ W2, W2 = ((w.alloc (.cells #[.slice d.heads.a d.heads.n d.heads.c, .slice d.mta.a d.mta.n d.mta.c, .slice d.states.a d.states.n d.states.c, .slice d.acts.a d.acts.n d.acts.c, .slice d.tabs.a d.tabs.n d.tabs.c, .slice d.nodes.a d.nodes.n d.nodes.c, .slice d.out.a d.out.n d.out.c] 29)).alloc (.cells #[.int .i64 0, .int .i64 0] 35)) := ⟨_, rfl⟩
  obtain ⟨s, es⟩ : ∃ s, s = w.heap.size := ⟨_, rfl⟩
  obtain ⟨f, ef⟩ : ∃ f, f = w.heap.size + 1 := ⟨_, rfl⟩
  have HA : Hid (EncAt d w W2 s f) := by rw [hW, es, ef]; exact enc_at d w
  have HB : Hid (Below w.heap.size w W2) := by rw [hW]; exact bl_alloc (bl_alloc (Below.refl _ _))
  have HCK := hid (check_told d W2 (hl.step HB.out) hs)
  have HE : Hid (∀ w', Below w.heap.size w w' → EncDone d w (.returned (.tuple #[.slice none 0 0, .agg #[.int .i64 (chkP d.p).1, .int .i64 (chkP d.p).2]])) w') := fun w' h => .inl ⟨hc, rfl, h⟩
  have hne : ((chkP d.p).1 != 0) = true := by rw [bne_iff_ne]; exact hc
  have EW := hid hW
  have ES := hid es
  have EF := hid ef
  clear hl hs hc hW es ef
  generalize (chkP d.p).1 = C at *
  generalize (chkP d.p).2 = A at *
  go_enter Tryz.func8, Tryz.ntmps8
  go_wp2_with fail
  rw [← EW.out, ← EF.out, ← ES.out]
  refine HCK.out.mono ?_
  rintro e w1 ⟨rfl, hb1⟩
  clear HCK EW ES EF
  have HA1 := hid (HA.out.step hb1)
  have HB1 := hid (bl_step HB.out hb1)
  have c0 := HA1.out.f0
  have c1 := HA1.out.f1
  have z0 := HA1.out.fz 0
  have z1 := HA1.out.fz 1
  have hfl : f < w1.heap.size := HA1.out.fl
  have HX : Hid (∀ o, EncDone d w (.returned (.tuple #[.slice none 0 0, .agg #[.int .i64 C, .int .i64 A]])) (((w1.setCell ⟨f, 0, none⟩ (.int .i64 C)).setCell ⟨f, 1, none⟩ (.int .i64 A)).alloc o).drew) := fun o => HE.out _ (bl_alloc ((HB1.out.setCell (p := ⟨f, 0, none⟩) HA.out.wf _).setCell (p := ⟨f, 1, none⟩) HA.out.wf _)).drew
  clear HA HB HA1 HE HB1 hb1
  go_wp2_with fail
  go_region
  all_goals
    go_wp2
    exact bodyPost_ret (v := .tuple #[.slice none 0 0, .agg #[.int .i64 C, .int .i64 A]]) (by simp [results, Tryz.results8, go_sem, *]) rfl (HX.out _)
end Go.Proofs.YtedeiaokohdhpaaGreat

namespace Go.Proofs.YtedeiaokohdhpaaGreat
open Go.RowKit
theorem enc_len (d : PlanD) : (encL d).length = (bodyL d).length + 4 := by simp [encL, Mth.four]
set_option maxHeartbeats 8000000 in
set_option maxRecDepth 20000 in
theorem enc_good (d : PlanD) (w : World) (hl : d.lie w) (hs : d.small) (hf : d.wfew) (hn : (bodyL d).length ≤ 9000000) (hc : (chkP d.p).1 = 0) : Calls Tryz.prog 8 #[d.v] w (EncDone d w) := by
  obtain ⟨W2, hW⟩ : ∃ W2, W2 = ((w.alloc (.cells #[.slice d.heads.a d.heads.n d.heads.c, .slice d.mta.a d.mta.n d.mta.c, .slice d.states.a d.states.n d.states.c, .slice d.acts.a d.acts.n d.acts.c, .slice d.tabs.a d.tabs.n d.tabs.c, .slice d.nodes.a d.nodes.n d.nodes.c, .slice d.out.a d.out.n d.out.c] 29)).alloc (.cells #[.int .i64 0, .int .i64 0] 35)) := ⟨_, rfl⟩
  obtain ⟨s, es⟩ : ∃ s, s = w.heap.size := ⟨_, rfl⟩
  obtain ⟨f, ef⟩ : ∃ f, f = w.heap.size + 1 := ⟨_, rfl⟩
  have HA : Hid (EncAt d w W2 s f) := by rw [hW, es, ef]; exact enc_at d w
  have HB : Hid (Below w.heap.size w W2) := by rw [hW]; exact bl_alloc (bl_alloc (Below.refl _ _))
  have hF2 : W2.heap[f]? = some (.cells #[.int .i64 0, .int .i64 0] 35 (0, 0)) := by
    rw [hW, ef]
    have := alloc_at (w.alloc (.cells #[.slice d.heads.a d.heads.n d.heads.c, .slice d.mta.a d.mta.n d.mta.c, .slice d.states.a d.states.n d.states.c, .slice d.acts.a d.acts.n d.acts.c, .slice d.tabs.a d.tabs.n d.tabs.c, .slice d.nodes.a d.nodes.n d.nodes.c, .slice d.out.a d.out.n d.out.c] 29)) #[.int .i64 0, .int .i64 0] 35
    simpa using this
  have HF2 := hid hF2
  have HCK := hid (check_told d W2 (hl.step HB.out) hs)
  have HE : Hid (∀ g cap w', w'.ownsRow w.heap.size 5 1 (.slice (some ⟨g, 0, none⟩) ((bodyL d).length + 4) cap) ((bodyL d).length + 4) (BB (encL d)) → Below w.heap.size w w' → EncDone d w (.returned (.tuple #[.slice (some ⟨g, 0, none⟩) ((bodyL d).length + 4) cap, .agg #[.int .i64 0, .int .i64 0]])) w') := fun g cap w' h1 h2 => .inr ⟨hc, g, cap, by rw [enc_len], by rw [enc_len]; exact h1, h2⟩
  have EW := hid hW
  have ES := hid es
  have EF := hid ef
  have HL := hid hl
  have HFW := hid hf
  have HN := hid hn
  have HC0 := hid hc
  clear hl hs hc hW es ef hf hn hF2
  go_enter Tryz.func8, Tryz.ntmps8
  go_wp2_with fail
  rw [← EW.out, ← EF.out, ← ES.out]
  refine HCK.out.mono ?_
  rintro e w1 ⟨rfl, hb1⟩
  rw [HC0.out]
  clear HCK EW ES EF HC0
  generalize (chkP d.p).2 = A
  obtain ⟨W3, hW3⟩ : ∃ W3, W3 = w1.alloc (.cells #[.int .i64 0, .int .i64 A] 35) := ⟨_, rfl⟩
  obtain ⟨c0, c1, c2, c3, c4, c5, c6⟩ := (HA.out.step hb1).cs
  have hsl : s < w1.heap.size := World.block_lt_of_cell? w1 _ c0
  have b3 : Below W2.heap.size W2 W3 := by rw [hW3]; exact bl_alloc hb1
  have HA1 := hid (HA.out.step b3)
  have HB3 := hid (bl_step HB.out b3)
  have HF3 : Hid (W3.heap[f]? = some (.cells #[.int .i64 0, .int .i64 0] 35 (0, 0))) := (b3.block f HA.out.fl).trans HF2.out
  have EW3 := hid hW3
  clear hb1 b3 HA HB HF2 hW3
  have hs3 : W3.heap.size = w1.heap.size + 1 := by rw [EW3.out]; simp
  obtain ⟨W4, hW4⟩ : ∃ W4, W4 = ((W3.alloc (.cells #[.int .u8 83, .int .u8 89, .int .u8 1] 5 (3, 4))).alloc (.cells #[.slice (some ⟨W3.heap.size, 0, none⟩) 3 3] 70)) := ⟨_, rfl⟩
  obtain ⟨p, hp⟩ : ∃ p, p = W3.heap.size + 1 := ⟨_, rfl⟩
  have HWR : Hid (Wr W3.heap.size p [83, 89, 1] W4) := by rw [hW4, hp]; exact wr_new
  have b4 : Below W3.heap.size W3 W4 := by rw [hW4]; exact bl_alloc (bl_alloc (Below.refl _ _))
  have HA4 := hid (HA1.out.step b4)
  have HF4 : Hid (W4.heap[f]? = some (.cells #[.int .i64 0, .int .i64 0] 35 (0, 0))) := (b4.block f HA1.out.fl).trans HF3.out
  have HPL := hid (plan_wr W3 p [83, 89, 1] d W4 HWR.out b4 (HL.out.step HB3.out) HFW.out HN.out)
  have HB4 := hid (bl_step HB3.out b4)
  have hpf : p ≠ f := by have := HA1.out.fl; omega
  have HW3S : Hid (w.heap.size ≤ W3.heap.size) := HB3.out.size
  rw [EW3.out] at hW4
  have E4 : Hid (((w1.alloc (.cells #[.int .i64 0, .int .i64 A] 35)).alloc (.cells #[.int .u8 83, .int .u8 89, .int .u8 1] 5 (3, 4))).alloc (.cells #[.slice (some ⟨w1.heap.size + 1, 0, none⟩) 3 3] 70) = W4) := by
    show _ = _
    rw [hW4]
    simp
  have EP : Hid (w1.heap.size + 1 + 1 = p) := by show _ = _; omega
  have hcv : (convert 30 30 (.slice (some ⟨w1.heap.size + 1, 0, none⟩) 3 3)).run Tryz.prog ((w1.alloc (.cells #[.int .i64 0, .int .i64 A] 35)).alloc (.cells #[.int .u8 83, .int .u8 89, .int .u8 1] 5)) = .ok (.slice (some ⟨w1.heap.size + 1, 0, none⟩) 3 3) ((w1.alloc (.cells #[.int .i64 0, .int .i64 A] 35)).alloc (.cells #[.int .u8 83, .int .u8 89, .int .u8 1] 5 (3, 4))) := by
    have := Lib.run_convert_bytes_const (P := Tryz.prog) (w1.alloc (.cells #[.int .i64 0, .int .i64 A] 35)) 30 5 #[.int .u8 83, .int .u8 89, .int .u8 1] 3 3 Tryz.underlying30 Tryz.underlying5
    simpa using this
  have m0 : (((w1.alloc (.cells #[.int .i64 0, .int .i64 A] 35)).alloc (.cells #[.int .u8 83, .int .u8 89, .int .u8 1] 5 (3, 4))).alloc (.cells #[.slice (some ⟨w1.heap.size + 1, 0, none⟩) 3 3] 70)).cell? ⟨s, 0, none⟩ = some (.slice d.heads.a d.heads.n d.heads.c) := by rw [E4.out]; exact HA4.out.cs.1
  have m1 : (((w1.alloc (.cells #[.int .i64 0, .int .i64 A] 35)).alloc (.cells #[.int .u8 83, .int .u8 89, .int .u8 1] 5 (3, 4))).alloc (.cells #[.slice (some ⟨w1.heap.size + 1, 0, none⟩) 3 3] 70)).cell? ⟨s, 1, none⟩ = some (.slice d.mta.a d.mta.n d.mta.c) := by rw [E4.out]; exact HA4.out.cs.2.1
  have m2 : (((w1.alloc (.cells #[.int .i64 0, .int .i64 A] 35)).alloc (.cells #[.int .u8 83, .int .u8 89, .int .u8 1] 5 (3, 4))).alloc (.cells #[.slice (some ⟨w1.heap.size + 1, 0, none⟩) 3 3] 70)).cell? ⟨s, 2, none⟩ = some (.slice d.states.a d.states.n d.states.c) := by rw [E4.out]; exact HA4.out.cs.2.2.1
  have m3 : (((w1.alloc (.cells #[.int .i64 0, .int .i64 A] 35)).alloc (.cells #[.int .u8 83, .int .u8 89, .int .u8 1] 5 (3, 4))).alloc (.cells #[.slice (some ⟨w1.heap.size + 1, 0, none⟩) 3 3] 70)).cell? ⟨s, 3, none⟩ = some (.slice d.acts.a d.acts.n d.acts.c) := by rw [E4.out]; exact HA4.out.cs.2.2.2.1
  have m4 : (((w1.alloc (.cells #[.int .i64 0, .int .i64 A] 35)).alloc (.cells #[.int .u8 83, .int .u8 89, .int .u8 1] 5 (3, 4))).alloc (.cells #[.slice (some ⟨w1.heap.size + 1, 0, none⟩) 3 3] 70)).cell? ⟨s, 4, none⟩ = some (.slice d.tabs.a d.tabs.n d.tabs.c) := by rw [E4.out]; exact HA4.out.cs.2.2.2.2.1
  have m5 : (((w1.alloc (.cells #[.int .i64 0, .int .i64 A] 35)).alloc (.cells #[.int .u8 83, .int .u8 89, .int .u8 1] 5 (3, 4))).alloc (.cells #[.slice (some ⟨w1.heap.size + 1, 0, none⟩) 3 3] 70)).cell? ⟨s, 5, none⟩ = some (.slice d.nodes.a d.nodes.n d.nodes.c) := by rw [E4.out]; exact HA4.out.cs.2.2.2.2.2.1
  have m6 : (((w1.alloc (.cells #[.int .i64 0, .int .i64 A] 35)).alloc (.cells #[.int .u8 83, .int .u8 89, .int .u8 1] 5 (3, 4))).alloc (.cells #[.slice (some ⟨w1.heap.size + 1, 0, none⟩) 3 3] 70)).cell? ⟨s, 6, none⟩ = some (.slice d.out.a d.out.n d.out.c) := by rw [E4.out]; exact HA4.out.cs.2.2.2.2.2.2
  clear hW4 hp b4 HA1 HB3 HF3 EW3 HWR c0 c1 c2 c3 c4 c5 c6
  go_wp2_with fail
  rw [E4.out, EP.out]
  refine HPL.out.mono ?_
  rintro e w5 ⟨rfl, h5, hb5, hf5⟩
  clear hcv E4 EP HPL m0 m1 m2 m3 m4 m5 m6 hsl hs3
  have HB5 := hid (HB4.out.trans (hb5.mono HW3S.out))
  have HF5 : Hid (w5.heap[f]? = some (.cells #[.int .i64 0, .int .i64 0] 35 (0, 0))) := hf5.2 f _ _ _ (Ne.symm hpf) (by decide) HF4.out
  have HW5 := hid h5
  have hfw : Hid (w.heap.size ≤ f) := HA4.out.wf
  have HB5S : Hid (W3.heap.size ≤ w5.heap.size) := h5.bl
  clear hf5 h5 hb5 HB4 HF4 HA4
  obtain ⟨a, c, k1, k2, k3, _⟩ := HW5.out.at
  obtain ⟨N, hN⟩ : ∃ N, N = ([83, 89, 1] ++ planL d).length := ⟨_, rfl⟩
  have HHS : Hid (Has .u8 w5 a ([83, 89, 1] ++ planL d).length ([83, 89, 1] ++ planL d)) := by
    obtain ⟨a', c', h1, h2⟩ := HW5.out.ex
    have : w5.cell? ⟨p, 0, none⟩ = some (.slice a' ([83, 89, 1] ++ planL d).length c') := by simp [World.cell?, h1]
    rw [k1] at this
    simp only [Option.some.injEq, Value.slice.injEq, true_and] at this
    obtain ⟨rfl, rfl⟩ := this
    exact h2.has HW5.out.byt
  have HSB : Hid (∀ w', Below w5.heap.size w5 w' → Calls Tryz.prog 21 #[.slice a ([83, 89, 1] ++ planL d).length c] w' (SumDone w' ([83, 89, 1] ++ planL d))) := fun w' h => sumBytes_any a _ c _ w' (by have := HN.out; unfold bodyL at this; omega) (HHS.out.step h)
  have HAP : Hid (∀ w' ad c4, Below w5.heap.size w5 w' → Has .u8 w' ad 4 (Mth.four (Mth.crc (bodyL d))) → ∃ g cap w6, (Builtin.append_ #[30, 30] 30 #[.slice a ([83, 89, 1] ++ planL d).length c, .slice ad 4 c4]).run Tryz.prog w' = .ok (.slice (some ⟨g, 0, none⟩) (([83, 89, 1] ++ planL d).length + 4) cap) w6 ∧ w6.cell? ⟨f, 0, none⟩ = some (.int .i64 0) ∧ w6.cell? ⟨f, 1, none⟩ = some (.int .i64 0) ∧ w6.frozen? ⟨f, 0, none⟩ = false ∧ w6.frozen? ⟨f, 1, none⟩ = false ∧ EncDone d w (.returned (.tuple #[.slice (some ⟨g, 0, none⟩) (([83, 89, 1] ++ planL d).length + 4) cap, .agg #[.int .i64 0, .int .i64 0]])) ((w6.setCell ⟨f, 0, none⟩ (.int .i64 0)).setCell ⟨f, 1, none⟩ (.int .i64 0))) := fun w' ad c4 h hz => by
    obtain ⟨g, cap, w6, hrun, ho, hb6, hf6⟩ := (HW5.out.step h).push4 (cell_keep k1 h) (c4 := c4) hz HN.out (Nat.le_trans HB5S.out h.size)
    have hF6 : w6.heap[f]? = some (.cells #[.int .i64 0, .int .i64 0] 35 (0, 0)) := hf6.2 f _ _ _ (Ne.symm hpf) (by decide) ((h.block f (Array.getElem?_eq_some_iff.1 HF5.out).1).trans HF5.out)
    have hgf : g ≠ f := fun e => by
      rcases ho.2 with ⟨e2, _⟩ | ⟨g2, c2, cur, e2, _, hh, _⟩
      · cases e2
      · simp only [Value.slice.injEq, Option.some.injEq, Addr.mk.injEq, and_true] at e2
        rw [← e2.1, e, hF6] at hh
        simp only [Option.some.injEq, Obj.cells.injEq] at hh
        exact absurd hh.2.1 (by decide)
    refine ⟨g, cap, w6, hrun, by simp [World.cell?, hF6], by simp [World.cell?, hF6], by simp [World.frozen?, hF6], by simp [World.frozen?, hF6], HE.out g cap _ ?_ ?_⟩
    · have h1 := ownsRow_setCell_other ho (a := ⟨f, 0, none⟩) (by simp [Value.ownBlock]; exact hgf) (.int .i64 0)
      have h2 := ownsRow_setCell_other h1 (a := ⟨f, 1, none⟩) (by simp [Value.ownBlock]; exact hgf) (.int .i64 0)
      exact ⟨h2.1, by
        rcases h2.2 with ⟨e2, _⟩ | ⟨g2, c2, cur, e2, hb2, r⟩
        · cases e2
        · exact .inr ⟨g2, c2, cur, e2, Nat.le_trans HW3S.out hb2, r⟩⟩
    · exact ((((bl_step HB5.out h).trans (hb6.mono HW3S.out)).setCell (p := ⟨f, 0, none⟩) hfw.out _).setCell (p := ⟨f, 1, none⟩) hfw.out _)
  have hbd : Below w5.heap.size w5 w5.drew := (Below.refl _ _).drew
  rw [← hN] at k1 HSB HAP
  clear HE HL HFW HN HB5 HF5 HW5 HHS hfw HB5S HW3S hpf hN k2 k3
  unfold bodyL at HAP
  go_wp2_with fail
  go_region_law (first
    | (go_simp; go_at_call 21; refine (HSB.out _ hbd).mono ?_; rintro e w6 ⟨a6, c6, rfl, hh6, hb6⟩; obtain ⟨g7, cap7, w7, hrun7, y0, y1, z0, z1, hE7⟩ := HAP.out w6 a6 c6 (bl_step hbd hb6) hh6; have k6 := cell_keep k1 (bl_step hbd hb6); have HX := hid hE7; clear hh6 hb6 hE7)
    | (refine append_runR rfl _ _ rfl (by simp [Act.eval]) (by simp [Act.eval]) hrun7 ?_))
  all_goals
    clear HAP HSB hbd hrun7
    go_wp2
    exact bodyPost_ret (v := .tuple #[.slice (some ⟨g7, 0, none⟩) (N + 4) cap7, .agg #[.int .i64 0, .int .i64 0]]) (by simp [results, Tryz.results8, go_sem, *]) rfl HX.out
theorem encode_any (d : PlanD) (w : World) (hl : d.lie w) (hs : d.small) (hf : d.wfew) (hn : (bodyL d).length ≤ 9000000) : Calls Tryz.prog 8 #[d.v] w (EncDone d w) := by
  by_cases hc : (chkP d.p).1 = 0
  · exact enc_good d w hl hs hf hn hc
  · exact enc_bad d w hl hs hc
end Go.Proofs.YtedeiaokohdhpaaGreat
