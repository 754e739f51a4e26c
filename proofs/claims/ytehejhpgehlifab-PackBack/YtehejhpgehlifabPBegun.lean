/- What packBegun does. -/
import Derived.Test.YtehejhpgehlifabPBoth
namespace Go.Proofs.Ytehejhpgehlifab
open Go.RowKit

abbrev OI : Obj := .cells #[.int .i64 4, .int .i64 12, .int .i64 16] 3
abbrev OU : Obj := .cells #[.int .u64 1, .int .u64 2, .int .u64 3] 50
abbrev OB : Obj := .cells #[.int .u8 16, .int .u8 2, .int .u8 0, .int .u8 3] 5

theorem three_ints (w : World) : Has .i64 (w.alloc OI) (some ⟨w.heap.size, 0, none⟩) 3 [4, 12, 16] := by
  refine ⟨rfl, by intro n hn; simp at hn; rcases hn with rfl | rfl | rfl <;> decide, .inr ⟨_, _, rfl, by simp, ?_⟩⟩
  intro i hi
  match i, hi with
  | 0, _ => simp
  | 1, _ => simp
  | 2, _ => simp

theorem three_nums (w : World) : Has .u64 (w.alloc OU) (some ⟨w.heap.size, 0, none⟩) 3 [1, 2, 3] := by
  refine ⟨rfl, by intro n hn; simp at hn; rcases hn with rfl | rfl | rfl <;> decide, .inr ⟨_, _, rfl, by simp, ?_⟩⟩
  intro i hi
  match i, hi with
  | 0, _ => simp
  | 1, _ => simp
  | 2, _ => simp

theorem four_bytes (w : World) : Has .u8 (w.alloc OB) (some ⟨w.heap.size, 0, none⟩) 4 [16, 2, 0, 3] := by
  refine ⟨rfl, by intro n hn; simp at hn; rcases hn with rfl | rfl | rfl | rfl <;> decide, .inr ⟨_, _, rfl, by simp, ?_⟩⟩
  intro i hi
  match i, hi with
  | 0, _ => simp
  | 1, _ => simp
  | 2, _ => simp
  | 3, _ => simp

theorem begun_head : Mth.Head [4, 12, 16] 3 := by
  refine ⟨by decide, by decide, fun j hj => ?_, by decide, by decide⟩
  unfold Mth.Fit
  match j, hj with
  | 0, _ => decide
  | 1, _ => decide
  | 2, _ => decide

theorem begun_write (a b : Option Addr) (c d : Nat) (w : World) (hw : Has .i64 w a 3 [4, 12, 16]) (hv : Has .u64 w b 3 [1, 2, 3]) :
    Calls Try.prog 19 #[HD a 3 c, .slice b 3 d] w fun e w' => ∃ g cap', e = .returned (.tuple #[.slice g 4 cap', .agg #[.int .i64 0, .int .i64 0]]) ∧ Has .u8 w' g 4 [16, 2, 0, 3] ∧ Below w.heap.size w w' := by
  have e1 : (Mth.off [4, 12, 16] 3 + 7) / 8 = 4 := by decide
  have e2 : Mth.jn [1, 2, 3] [4, 12, 16] 4 3 = [16, 2, 0, 3] := by decide
  have h := pwrite_good a b 3 c d _ [1, 2, 3] [4, 12, 16] w (by decide) hv hw (fun j hj => (begun_head.2.2.1 j hj).wide) (fun j hj => by
    unfold Fits
    match j, hj with
    | 0, _ => decide
    | 1, _ => decide
    | 2, _ => decide) (size_good begun_head).1
  rw [e1, e2] at h
  exact h

theorem begun_sum (a b : Option Addr) (c d : Nat) (w : World) (hn : b = none → 3 = 0 ∧ d = 0) (hw : Has .i64 w a 3 [4, 12, 16]) (hv : Has .u64 w b 3 [1, 2, 3]) :
    Calls Try.prog 22 #[HD a 3 c, .slice b 3 d, .int .i64 (-1)] w fun e w' => e = .returned (.tuple #[.int .i64 61434, .agg #[.int .i64 0, .int .i64 0]]) ∧ Below w.heap.size w w' := by
  have e1 : Mth.zap [1, 2, 3] (-1) 3 = [1, 2, 3] := by decide
  have e2 : Mth.less (Mth.whole [16, 2, 0, 3]) = 61434 := by decide
  have h := psum_write a b 3 c 3 d 4 (-1) 0 0 [1, 2, 3] [4, 12, 16] [16, 2, 0, 3] w (by decide) (by decide) hn (by decide) (by decide) hv hw (by
    rw [e1]
    exact fun a c b d w hw hv => begun_write a b c d w hw hv)
  rw [if_pos rfl, e2] at h
  exact h

theorem begun_cell {w w1 : World} (h : Below (((w.alloc OI).alloc (H0 (some ⟨w.heap.size, 0, none⟩) 3 3)).alloc OU).heap.size (((w.alloc OI).alloc (H0 (some ⟨w.heap.size, 0, none⟩) 3 3)).alloc OU) w1) : w1.cell? ⟨w.heap.size + 1, 0, none⟩ = some (.slice (some ⟨w.heap.size, 0, none⟩) 3 3) := by
  rw [h.cell (p := ⟨w.heap.size + 1, 0, none⟩) (by simp)]
  rw [(bl_alloc (o := OU) (Below.refl ((w.alloc OI).alloc (H0 (some ⟨w.heap.size, 0, none⟩) 3 3)).heap.size _)).cell (p := ⟨w.heap.size + 1, 0, none⟩) (by simp)]
  simp

theorem begun_fault {w w1 : World} (h : Below ((w.alloc F0).alloc OU).heap.size ((w.alloc F0).alloc OU) w1) : w1.cell? ⟨w.heap.size, 0, none⟩ = some (.int .i64 0) := by
  rw [h.cell (p := ⟨w.heap.size, 0, none⟩) (by simp; omega)]
  simp

set_option maxHeartbeats 2000000 in
theorem pack_begun (w : World) : Calls Try.prog 13 #[] w fun e w' => e = .returned (.bool true) ∧ Below w.heap.size w w' := by
  have hI : Has .i64 ((w.alloc OI).alloc (H0 (some ⟨w.heap.size, 0, none⟩) 3 3)) (some ⟨w.heap.size, 0, none⟩) 3 [4, 12, 16] := (three_ints w).alloc
  have hU := three_nums ((w.alloc OI).alloc (H0 (some ⟨w.heap.size, 0, none⟩) 3 3))
  simp only [World.size_alloc] at hU
  go_enter Try.func13, Try.ntmps13
  go_wp2_with fail
  refine (begun_write _ _ _ _ _ hI.alloc hU).mono ?_
  rintro e w1 ⟨g1, cp1, rfl, hz1, hb1⟩
  have hs1 : w.heap.size + 1 + 1 + 1 ≤ w1.heap.size := by have := hb1.size; simpa using this
  have hs1a : w.heap.size + 1 < w1.heap.size := by omega
  have hH1 : w1.cell? ⟨w.heap.size + 1, 0, none⟩ = some (.slice (some ⟨w.heap.size, 0, none⟩) 3 3) := begun_cell hb1
  have hI1 := (hI.alloc.step hb1).alloc (o := F0)
  have hU1 := three_nums (w1.alloc F0)
  simp only [World.size_alloc] at hU1
  have HI := hid (hI1.alloc (o := OU))
  have HU := hid hU1
  have HZ := hid hz1
  have B1 := bl_step (bl_alloc (bl_alloc (bl_alloc (Below.refl w.heap.size w)))) hb1
  clear hI hU hI1 hU1 hz1 hb1
  go_wp2_with fail
  refine (begun_sum _ _ _ _ _ (by intro h; cases h) HI.out HU.out).mono ?_
  rintro e w2 ⟨rfl, hb2⟩
  have hs2 : w1.heap.size + 1 + 1 ≤ w2.heap.size := by have := hb2.size; simpa using this
  have hs2a : w1.heap.size < w2.heap.size := by omega
  have hF : w2.cell? ⟨w1.heap.size, 0, none⟩ = some (.int .i64 0) := begun_fault hb2
  have hz2 := (((HZ.out.alloc (o := F0)).alloc (o := OU)).step hb2).alloc (o := F0)
  have hB := four_bytes (w2.alloc F0)
  simp only [World.size_alloc] at hB
  have HZ2 := hid (hz2.alloc (o := OB))
  have HB := hid hB
  have B2 := bl_step (bl_alloc (bl_alloc B1)) hb2
  clear HI HU HZ hz2 hB hb2 B1
  go_wp2_with fail
  refine (same_bytes _ _ HZ2.out HB.out).mono ?_
  rintro e w3 ⟨rfl, rfl⟩
  go_wp2
  go_ret
  exact ⟨rfl, bl_alloc (bl_alloc B2)⟩
end Go.Proofs.Ytehejhpgehlifab
