/- The plan of walkBegun, and what Walk says of it. -/
import Derived.Test.YtajelgjbgehahaaGreatJ17
import Derived.Test.YtajelgjbgehahaaGreatVQBegun
namespace Go.Proofs.YtajelgjbgehahaaGreat
open Go.RowKit

/-- the plan of twoHeads: its blocks a0 .. a5 -/
@[reducible] def TD (a0 a1 a2 a3 a4 a5 : Nat) : PlanD := ⟨⟨some ⟨a2, 0, none⟩, 2, 2⟩, [⟨⟨some ⟨a0, 0, none⟩, 1, 1⟩, [8]⟩, ⟨⟨some ⟨a1, 0, none⟩, 1, 1⟩, [16]⟩], ⟨none, 0, 0⟩, [], ⟨some ⟨a4, 0, none⟩, 2, 2⟩, [⟨0, ⟨0, 0⟩, ⟨some ⟨a3, 0, none⟩, 1, 1⟩, [⟨1, 1, 1⟩], 1000⟩, ⟨1, ⟨0, 0⟩, ⟨none, 0, 0⟩, [], 1000⟩], ⟨none, 0, 0⟩, [], ⟨none, 0, 0⟩, [], ⟨none, 0, 0⟩, [], ⟨some ⟨a5, 0, none⟩, 2, 2⟩, [0, 1]⟩

/-- the same in plain numbers -/
@[reducible] def TP : PPlan := ⟨[[8], [16]], [], [⟨0, ⟨0, 0⟩, [⟨1, 1, 1⟩], 1000⟩, ⟨1, ⟨0, 0⟩, [], 1000⟩], [], [], [], [0, 1]⟩

theorem TD.is (a0 a1 a2 a3 a4 a5 : Nat) : (TD a0 a1 a2 a3 a4 a5).p = TP := rfl

theorem TP.chk : chkP TP = (0, 0) := by decide +kernel

theorem TP.ok : (chkP TP).1 = 0 := by rw [TP.chk]

theorem TP.end_ (h : (chkP TP).1 = 0) : APp TP h TP.ss.length = [⟨0, 0, 0, 0, true⟩, ⟨1, 1, 1, 1, true⟩, ⟨1, 3, 1, 3, true⟩] := by
  show Wk.AP (parOf TP h) 2 = _
  kernel_rfl

theorem TP.codes (h : (chkP TP).1 = 0) {C A : Int} (hw : WalkIs TP C A) : C = 0 ∧ A = 0 := by
  rcases hw with ⟨h1, _⟩ | ⟨_, hf⟩
  · exact absurd h h1
  · rw [TP.end_ h] at hf
    exact firstW_one hf (.inr ⟨fun j hj => by
      have : j = 0 ∨ j = 1 := by have : j < 2 := hj; omega
      rcases this with rfl | rfl <;> decide +kernel, rfl, rfl⟩)

theorem has_one {w : World} {a : Nat} {z : Int} (h : w.cell? ⟨a, 0, none⟩ = some (.int .i64 z)) (hz : (Lit.int .i64 z).wf = true) : Has .i64 w (some ⟨a, 0, none⟩) 1 [z] := by
  refine ⟨rfl, ?_, .inr ⟨a, 0, rfl, World.block_lt_of_cell? w _ h, fun i hi => ?_⟩⟩
  · intro n hn
    simp only [List.mem_cons, List.not_mem_nil, or_false] at hn
    subst hn
    exact hz
  · have : i = 0 := by omega
    subst this
    simpa using h

theorem has_pair {w : World} {a : Nat} {z y : Int} (h : w.cell? ⟨a, 0, none⟩ = some (.int .i64 z)) (h1 : w.cell? ⟨a, 1, none⟩ = some (.int .i64 y)) (hz : (Lit.int .i64 z).wf = true) (hy : (Lit.int .i64 y).wf = true) : Has .i64 w (some ⟨a, 0, none⟩) 2 [z, y] := by
  refine ⟨rfl, ?_, .inr ⟨a, 0, rfl, World.block_lt_of_cell? w _ h, fun i hi => ?_⟩⟩
  · intro n hn
    simp only [List.mem_cons, List.not_mem_nil, or_false] at hn
    rcases hn with rfl | rfl
    · exact hz
    · exact hy
  · have : i = 0 ∨ i = 1 := by omega
    rcases this with rfl | rfl
    · simpa using h
    · simpa using h1

set_option maxHeartbeats 4000000 in
set_option maxRecDepth 20000 in
theorem two_lies (w W : World) (n : Nat) (hn : n = w.heap.size) (hW : W = ((((((w.alloc (.cells #[.slice (some ⟨n + 1 + 1 + 1, 0, none⟩) 2 2, .slice none 0 0, .slice (some ⟨n + 1 + 1 + 1 + 1 + 1, 0, none⟩) 2 2, .slice none 0 0, .slice none 0 0, .slice none 0 0, .slice (some ⟨n + 1 + 1 + 1 + 1 + 1 + 1, 0, none⟩) 2 2] 38)).alloc (.cells #[.int .i64 8] 3)).alloc (.cells #[.int .i64 16] 3)).alloc (.cells #[.slice (some ⟨n + 1, 0, none⟩) 1 1, .slice (some ⟨n + 1 + 1, 0, none⟩) 1 1] 63)).alloc (.cells #[.int .u64 1, .int .u64 1, .int .i64 1] 137)).alloc (.cells #[.int .i64 0, .int .i64 0, .int .i64 0, .slice (some ⟨n + 1 + 1 + 1 + 1, 0, none⟩) 1 1, .int .i64 1000, .int .i64 1, .int .i64 0, .int .i64 0, .slice none 0 0, .int .i64 1000] 66)).alloc (.cells #[.int .i64 0, .int .i64 1] 3)) : (TD (n + 1) (n + 1 + 1) (n + 1 + 1 + 1) (n + 1 + 1 + 1 + 1) (n + 1 + 1 + 1 + 1 + 1) (n + 1 + 1 + 1 + 1 + 1 + 1)).lie W ∧ Below w.heap.size w W := by
  have c00 : W.cell? ⟨n + 1, 0, none⟩ = some (.int .i64 8) := by
    rw [hW, hn]
    refine (World.cell?_alloc_past _ _ _ (by simp <;> omega)).trans ?_
    refine (World.cell?_alloc_past _ _ _ (by simp <;> omega)).trans ?_
    refine (World.cell?_alloc_past _ _ _ (by simp <;> omega)).trans ?_
    refine (World.cell?_alloc_past _ _ _ (by simp <;> omega)).trans ?_
    refine (World.cell?_alloc_past _ _ _ (by simp <;> omega)).trans ?_
    exact (World.cell?_alloc_at _ _ _ _ (by simp)).trans rfl
  have c10 : W.cell? ⟨n + 1 + 1, 0, none⟩ = some (.int .i64 16) := by
    rw [hW, hn]
    refine (World.cell?_alloc_past _ _ _ (by simp <;> omega)).trans ?_
    refine (World.cell?_alloc_past _ _ _ (by simp <;> omega)).trans ?_
    refine (World.cell?_alloc_past _ _ _ (by simp <;> omega)).trans ?_
    refine (World.cell?_alloc_past _ _ _ (by simp <;> omega)).trans ?_
    exact (World.cell?_alloc_at _ _ _ _ (by simp)).trans rfl
  have c20 : W.cell? ⟨n + 1 + 1 + 1, 0, none⟩ = some (.slice (some ⟨n + 1, 0, none⟩) 1 1) := by
    rw [hW, hn]
    refine (World.cell?_alloc_past _ _ _ (by simp <;> omega)).trans ?_
    refine (World.cell?_alloc_past _ _ _ (by simp <;> omega)).trans ?_
    refine (World.cell?_alloc_past _ _ _ (by simp <;> omega)).trans ?_
    exact (World.cell?_alloc_at _ _ _ _ (by simp)).trans rfl
  have c21 : W.cell? ⟨n + 1 + 1 + 1, 1, none⟩ = some (.slice (some ⟨n + 1 + 1, 0, none⟩) 1 1) := by
    rw [hW, hn]
    refine (World.cell?_alloc_past _ _ _ (by simp <;> omega)).trans ?_
    refine (World.cell?_alloc_past _ _ _ (by simp <;> omega)).trans ?_
    refine (World.cell?_alloc_past _ _ _ (by simp <;> omega)).trans ?_
    exact (World.cell?_alloc_at _ _ _ _ (by simp)).trans rfl
  have c30 : W.cell? ⟨n + 1 + 1 + 1 + 1, 0, none⟩ = some (.int .u64 1) := by
    rw [hW, hn]
    refine (World.cell?_alloc_past _ _ _ (by simp <;> omega)).trans ?_
    refine (World.cell?_alloc_past _ _ _ (by simp <;> omega)).trans ?_
    exact (World.cell?_alloc_at _ _ _ _ (by simp)).trans rfl
  have c31 : W.cell? ⟨n + 1 + 1 + 1 + 1, 1, none⟩ = some (.int .u64 1) := by
    rw [hW, hn]
    refine (World.cell?_alloc_past _ _ _ (by simp <;> omega)).trans ?_
    refine (World.cell?_alloc_past _ _ _ (by simp <;> omega)).trans ?_
    exact (World.cell?_alloc_at _ _ _ _ (by simp)).trans rfl
  have c32 : W.cell? ⟨n + 1 + 1 + 1 + 1, 2, none⟩ = some (.int .i64 1) := by
    rw [hW, hn]
    refine (World.cell?_alloc_past _ _ _ (by simp <;> omega)).trans ?_
    refine (World.cell?_alloc_past _ _ _ (by simp <;> omega)).trans ?_
    exact (World.cell?_alloc_at _ _ _ _ (by simp)).trans rfl
  have c40 : W.cell? ⟨n + 1 + 1 + 1 + 1 + 1, 0, none⟩ = some (.int .i64 0) := by
    rw [hW, hn]
    refine (World.cell?_alloc_past _ _ _ (by simp <;> omega)).trans ?_
    exact (World.cell?_alloc_at _ _ _ _ (by simp)).trans rfl
  have c41 : W.cell? ⟨n + 1 + 1 + 1 + 1 + 1, 1, none⟩ = some (.int .i64 0) := by
    rw [hW, hn]
    refine (World.cell?_alloc_past _ _ _ (by simp <;> omega)).trans ?_
    exact (World.cell?_alloc_at _ _ _ _ (by simp)).trans rfl
  have c42 : W.cell? ⟨n + 1 + 1 + 1 + 1 + 1, 2, none⟩ = some (.int .i64 0) := by
    rw [hW, hn]
    refine (World.cell?_alloc_past _ _ _ (by simp <;> omega)).trans ?_
    exact (World.cell?_alloc_at _ _ _ _ (by simp)).trans rfl
  have c43 : W.cell? ⟨n + 1 + 1 + 1 + 1 + 1, 3, none⟩ = some (.slice (some ⟨n + 1 + 1 + 1 + 1, 0, none⟩) 1 1) := by
    rw [hW, hn]
    refine (World.cell?_alloc_past _ _ _ (by simp <;> omega)).trans ?_
    exact (World.cell?_alloc_at _ _ _ _ (by simp)).trans rfl
  have c44 : W.cell? ⟨n + 1 + 1 + 1 + 1 + 1, 4, none⟩ = some (.int .i64 1000) := by
    rw [hW, hn]
    refine (World.cell?_alloc_past _ _ _ (by simp <;> omega)).trans ?_
    exact (World.cell?_alloc_at _ _ _ _ (by simp)).trans rfl
  have c45 : W.cell? ⟨n + 1 + 1 + 1 + 1 + 1, 5, none⟩ = some (.int .i64 1) := by
    rw [hW, hn]
    refine (World.cell?_alloc_past _ _ _ (by simp <;> omega)).trans ?_
    exact (World.cell?_alloc_at _ _ _ _ (by simp)).trans rfl
  have c46 : W.cell? ⟨n + 1 + 1 + 1 + 1 + 1, 6, none⟩ = some (.int .i64 0) := by
    rw [hW, hn]
    refine (World.cell?_alloc_past _ _ _ (by simp <;> omega)).trans ?_
    exact (World.cell?_alloc_at _ _ _ _ (by simp)).trans rfl
  have c47 : W.cell? ⟨n + 1 + 1 + 1 + 1 + 1, 7, none⟩ = some (.int .i64 0) := by
    rw [hW, hn]
    refine (World.cell?_alloc_past _ _ _ (by simp <;> omega)).trans ?_
    exact (World.cell?_alloc_at _ _ _ _ (by simp)).trans rfl
  have c48 : W.cell? ⟨n + 1 + 1 + 1 + 1 + 1, 8, none⟩ = some (.slice none 0 0) := by
    rw [hW, hn]
    refine (World.cell?_alloc_past _ _ _ (by simp <;> omega)).trans ?_
    exact (World.cell?_alloc_at _ _ _ _ (by simp)).trans rfl
  have c49 : W.cell? ⟨n + 1 + 1 + 1 + 1 + 1, 9, none⟩ = some (.int .i64 1000) := by
    rw [hW, hn]
    refine (World.cell?_alloc_past _ _ _ (by simp <;> omega)).trans ?_
    exact (World.cell?_alloc_at _ _ _ _ (by simp)).trans rfl
  have c50 : W.cell? ⟨n + 1 + 1 + 1 + 1 + 1 + 1, 0, none⟩ = some (.int .i64 0) := by
    rw [hW, hn]
    exact (World.cell?_alloc_at _ _ _ _ (by simp)).trans rfl
  have c51 : W.cell? ⟨n + 1 + 1 + 1 + 1 + 1 + 1, 1, none⟩ = some (.int .i64 1) := by
    rw [hW, hn]
    exact (World.cell?_alloc_at _ _ _ _ (by simp)).trans rfl
  have hB : Below w.heap.size w W := by rw [hW]; exact bl_alloc (bl_alloc (bl_alloc (bl_alloc (bl_alloc (bl_alloc (bl_alloc (Below.refl _ _)))))))
  refine ⟨?_, hB⟩
  clear hW hB hn
  have wf0 : (Lit.int .i64 0).wf = true := by decide
  have wf1 : (Lit.int .i64 1000).wf = true := by decide
  refine ⟨⟨rfl, fun i d hd => ?_⟩, has_nil _ _, ⟨rfl, fun i d hd => ?_⟩, row_nil, row_nil, row_nil, has_pair c50 c51 (by decide) (by decide), Nat.le_refl _⟩
  · match i, hd with
    | 0, hd =>
      obtain rfl : _ = d := Option.some.inj hd
      exact ⟨n + 1 + 1 + 1, 0, rfl, ⟨c20, by simp [QSl.nil0]⟩, has_one c00 (by decide)⟩
    | 1, hd =>
      obtain rfl : _ = d := Option.some.inj hd
      exact ⟨n + 1 + 1 + 1, 0, rfl, ⟨c21, by simp [QSl.nil0]⟩, has_one c10 (by decide)⟩
  · match i, hd with
    | 0, hd =>
      obtain rfl : _ = d := Option.some.inj hd
      refine ⟨n + 1 + 1 + 1 + 1 + 1, 0, rfl, ⟨c40, wf0⟩, ⟨c41, wf0⟩, ⟨c42, wf0⟩, ⟨c43, by simp [QSl.nil0]⟩, ⟨c44, wf1⟩, ⟨rfl, fun i d hd => ?_⟩⟩
      match i, hd with
      | 0, hd =>
        obtain rfl : _ = d := Option.some.inj hd
        exact ⟨n + 1 + 1 + 1 + 1, 0, rfl, ⟨c30, by decide⟩, ⟨c31, by decide⟩, ⟨c32, by decide⟩⟩
    | 1, hd =>
      obtain rfl : _ = d := Option.some.inj hd
      exact ⟨n + 1 + 1 + 1 + 1 + 1, 0, rfl, ⟨c45, by decide⟩, ⟨c46, wf0⟩, ⟨c47, wf0⟩, ⟨c48, fun _ => ⟨rfl, rfl⟩⟩, ⟨c49, wf1⟩, row_nil⟩

theorem TD.small (a0 a1 a2 a3 a4 a5 : Nat) : (TD a0 a1 a2 a3 a4 a5).small := ⟨Nat.zero_le _, by simp, by simp, (show 2 ≤ 1000 by decide)⟩

end Go.Proofs.YtajelgjbgehahaaGreat
