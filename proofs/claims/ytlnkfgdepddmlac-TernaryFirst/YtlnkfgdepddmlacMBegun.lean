/- What ternaryBegun does. -/
import Derived.Test.YtlnkfgdepddmlacMAll
namespace Go.Proofs.Ytlnkfgdepddmlac
open Go.RowKit Mth

def tb1 : TE := ⟨[16], [240], 2, 1, []⟩
def tb2 : TE := ⟨[18], [255], 1, 2, []⟩

theorem tcode1 : addCM 1 4 [] tb1 = 0 := by decide
theorem tcode2 : addCM 1 4 [tb1] tb2 = 0 := by decide
theorem tadd1 : addTM 1 4 [] tb1 = [tb1] := by unfold addTM; rw [if_pos tcode1]; rfl
theorem tadd2 : addTM 1 4 [tb1] tb2 = [tb2, tb1] := by unfold addTM; rw [if_pos tcode2]; rfl
theorem tfind1 : foundM 1 [tb2, tb1] [18] = some (2, []) := by decide
theorem tfind2 : foundM 1 [tb2, tb1] [19] = some (1, []) := by decide

/-- a list of one number in a block of its own -/
theorem has_one (w : World) (x : Int) (hx : 0 ≤ x ∧ x < 18446744073709551616) : Has .u64 (w.alloc (.cells #[.int .u64 x] 38)) (some ⟨w.heap.size, 0, none⟩) 1 [x] := by
  refine ⟨rfl, ?_, .inr ⟨w.heap.size, 0, rfl, by simp, fun i hi => ?_⟩⟩
  · intro n hn
    simp only [List.mem_cons, List.not_mem_nil, or_false] at hn
    subst hn
    exact wf_u64 _ hx
  · have : i = 0 := by omega
    subst this
    simp

theorem good_two (w : World) (x y pr ac : Int) (hx : 0 ≤ x ∧ x < 18446744073709551616) (hy : 0 ≤ y ∧ y < 18446744073709551616) :
    (MD.mk (some ⟨w.heap.size, 0, none⟩) 1 1 (some ⟨w.heap.size + 1, 0, none⟩) 1 1 0 pr ac none 0 0).good ((w.alloc (.cells #[.int .u64 x] 38)).alloc (.cells #[.int .u64 y] 38)) ⟨[x], [y], pr, ac, []⟩ := by
  have h2 := has_one (w.alloc (.cells #[.int .u64 x] 38)) y hy
  rw [show (w.alloc (.cells #[.int .u64 x] 38)).heap.size = w.heap.size + 1 from by simp] at h2
  exact ⟨by simp, by simp, (has_one w x hx).step (bl_alloc (Below.refl _ _)), by simp, by simp, h2, rfl, rfl, fun _ => ⟨rfl, rfl⟩, by simp, has_nil _ _⟩

set_option maxHeartbeats 2000000 in
set_option maxRecDepth 20000 in
theorem ternary_begun (w : World) : Calls Try.prog 26 #[] w fun e w' => e = .returned (.bool true) ∧ Below w.heap.size w w' := by
  go_enter Try.func26, Try.ntmps26
  go_wp2_with fail
  refine (mnew_any 1 4 _ w.heap.size (Nat.le_refl _)).mono ?_
  rintro e w1 ⟨rfl, t1, hb1⟩
  have T1 := hid t1
  have B1 := hid hb1
  clear t1 hb1
  have h0 : Below w1.heap.size w1 ((w1.alloc (.cells #[.int .u64 16] 38)).alloc (.cells #[.int .u64 240] 38)) := bl_alloc (bl_alloc (Below.refl _ _))
  have A10 := madd_any (T1.out.step h0) (good_two w1 16 240 2 1 (by omega) (by omega)) (by simp)
  dsimp only [MD.ev] at A10
  have A1 := hid A10
  clear A10
  have B1' := hid (bl_step B1.out h0)
  clear h0 T1
  go_wp2_with fail
  refine A1.out.mono ?_
  rintro e w2 ⟨rfl, t2⟩
  rw [show addCM 1 4 [] ⟨[16], [240], 2, 1, []⟩ = 0 from tcode1]
  rw [show addTM 1 4 [] ⟨[16], [240], 2, 1, []⟩ = [tb1] from tadd1] at t2
  have T2 := hid t2.t
  have B2 := hid (B1'.out.trans t2.bel)
  clear t2 A1 B1' B1
  have h0 : Below w2.heap.size w2 ((w2.alloc (.cells #[.int .u64 18] 38)).alloc (.cells #[.int .u64 255] 38)) := bl_alloc (bl_alloc (Below.refl _ _))
  have A20 := madd_any (T2.out.step h0) (good_two w2 18 255 1 2 (by omega) (by omega)) (by simp)
  dsimp only [MD.ev] at A20
  have A2 := hid A20
  clear A20
  have B2' := hid (bl_step B2.out h0)
  clear h0 T2
  go_wp2_with fail
  refine A2.out.mono ?_
  rintro e w3 ⟨rfl, t3⟩
  rw [show addCM 1 4 [tb1] ⟨[18], [255], 1, 2, []⟩ = 0 from tcode2]
  rw [show addTM 1 4 [tb1] ⟨[18], [255], 1, 2, []⟩ = [tb2, tb1] from tadd2] at t3
  have T3 := hid t3.t
  have B3 := hid (B2'.out.trans t3.bel)
  clear t3 A2 B2' B2
  have h0 : Below w3.heap.size w3 (w3.alloc (.cells #[.int .u64 18] 38)) := bl_alloc (Below.refl _ _)
  have A3 := hid (mfind_any (kc := 1) (T3.out.step h0) (has_one w3 18 (by omega)) (by simp))
  have B3' := hid (bl_step B3.out h0)
  have T3' := hid (T3.out.step h0)
  clear h0 T3
  rw [tfind1] at A3
  go_wp2_with fail
  refine A3.out.mono ?_
  rintro e w4 ⟨v, rfl, hs, hb4⟩
  simp only [Option.getD_some, Option.isSome_some] at hs ⊢
  obtain ⟨a, n, c, rfl, _⟩ := hs
  have T4 := hid ((T3'.out.step hb4).step (bl_alloc (o := HC 2 a n c) (Below.refl w4.heap.size w4)))
  have B4 := hid (bl_alloc (o := HC 2 a n c) (bl_step B3'.out hb4))
  have h0 : Below (w4.alloc (HC 2 a n c)).heap.size (w4.alloc (HC 2 a n c)) ((w4.alloc (HC 2 a n c)).alloc (.cells #[.int .u64 19] 38)) := bl_alloc (Below.refl _ _)
  have hh := has_one (w4.alloc (HC 2 a n c)) 19 (by omega)
  rw [show (w4.alloc (HC 2 a n c)).heap.size = w4.heap.size + 1 from by simp] at hh
  have A4 := hid (mfind_any (kc := 1) (T4.out.step h0) hh (by simp))
  clear hh
  have B4' := hid (bl_step B4.out h0)
  have q00 : Hid (((w4.alloc (HC 2 a n c)).alloc (.cells #[.int .u64 19] 38)).cell? ⟨w4.heap.size, 0, none⟩ = some (.int .i64 2)) := (h0.cell (p := ⟨w4.heap.size, 0, none⟩) (by simp)).trans (new_two w4 _ _ _).1
  clear h0 hb4 T3' B3' A3 B3 B4
  rw [tfind2] at A4
  go_wp2_with fail
  refine A4.out.mono ?_
  rintro e w5 ⟨v, rfl, hs, hb5⟩
  simp only [Option.getD_some, Option.isSome_some] at hs ⊢
  obtain ⟨a', n', c', rfl, _⟩ := hs
  have B5 := hid (bl_alloc (o := HC 1 a' n' c') (bl_step B4'.out hb5))
  have l5 : w4.heap.size < w5.heap.size := by have := hb5.size; simp at this; omega
  have q0 : w5.cell? ⟨w4.heap.size, 0, none⟩ = some (.int .i64 2) := (hb5.cell (p := ⟨w4.heap.size, 0, none⟩) (by simp; omega)).trans q00.out
  clear hb5 T4 B4' A4 q00
  go_wp2
  go_ret
  exact ⟨rfl, B5.out⟩
end Go.Proofs.Ytlnkfgdepddmlac
