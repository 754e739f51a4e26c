/- (*machine).leads. -/
import Derived.Test.YtmceifkjmknjcaaVMade
namespace Go.Proofs.Ytmceifkjmknjcaa
open Go.RowKit

set_option maxHeartbeats 4000000 in
set_option maxRecDepth 20000 in
theorem vleads {W : World} {b : Nat} {k : MK} {m : MD} {w : World} (h : MAt W b k m w) (hp : k.pk.n ≤ 600) (x : InsD) (hr : 0 ≤ x.r ∧ x.r < 10) (hs : 0 ≤ x.s ∧ x.s < 10) (hn : 0 ≤ x.n) :
    Calls Try.prog 16 #[mptr b, x.v] w (TellB (leadsB k m x) w) := by
  obtain ⟨op, r, s, kk, tt, n⟩ := x
  dsimp only at hr hs hn
  obtain ⟨r, rfl⟩ : ∃ i : Nat, r = i := ⟨r.toNat, by omega⟩
  obtain ⟨s, rfl⟩ : ∃ i : Nat, s = i := ⟨s.toNat, by omega⟩
  obtain ⟨n, rfl⟩ : ∃ i : Nat, n = i := ⟨n.toNat, by omega⟩
  obtain ⟨W1, hW1⟩ : ∃ W1, W1 = w.alloc (.cells #[.int .i64 op, .int .i64 (r : Int), .int .i64 (s : Int), .int .i64 kk, .int .i64 tt, .int .u64 (n : Int)] 40) := ⟨_, rfl⟩
  obtain ⟨ib, hib⟩ : ∃ b, b = w.heap.size := ⟨_, rfl⟩
  have b1 : Below w.heap.size w W1 := by rw [hW1]; exact bl_alloc (Below.refl _ _)
  have IB : IBox ⟨op, r, s, kk, tt, n⟩ W1 ib := by rw [hW1, hib]; exact ibox_new ⟨op, r, s, kk, tt, n⟩ w
  obtain ⟨i0, i1, i2, i3, i4, i5⟩ := IB
  dsimp only at i0 i1 i2 i3 i4 i5
  have h1 := h.step b1
  have hil : ib < W1.heap.size := World.block_lt_of_cell? _ _ i0
  have HR : Hid (∀ p : BelowBy W1, Calls Try.prog 26 #[mptr b, .int .i64 (r : Int)] p.to fun e w'' => e = .returned (.int .u64 (m.rn r : Int)) ∧ w'' = p.to) := fun p => vreg (h1.step p.h) (by omega)
  have HS : Hid (∀ p : BelowBy W1, Calls Try.prog 26 #[mptr b, .int .i64 (s : Int)] p.to fun e w'' => e = .returned (.int .u64 (m.rn s : Int)) ∧ w'' = p.to) := fun p => vreg (h1.step p.h) (by omega)
  have HH : Hid (∀ p : BelowBy W1, Calls Try.prog 28 #[mptr b, .int .u64 (m.rn r : Int), .int .u64 (n : Int)] p.to fun e w'' => e = .returned (.bool (roomB k.pk.n (m.rn r) n)) ∧ w'' = p.to) := fun p => vroom (h1.step p.h) hp _ _ (h.ok.1 r)
  have HB := hid b1
  have EW := hid hW1
  have EB := hid hib
  have i1' := cell_by i1
  have i2' := cell_by i2
  have i5' := cell_by i5
  dsimp only [InsD.v]
  unfold leadsB
  dsimp only
  rw [Int.toNat_natCast, Int.toNat_natCast, Int.toNat_natCast]
  clear h h1 b1 hW1 hib
  haveI inhB : ∀ w : World, Inhabited (BelowBy w) := fun w => ⟨⟨w, Below.refl _ _⟩⟩
  generalize roomB k.pk.n (m.rn r) n = V at *
  generalize m.rn r = X at *
  generalize m.rn s = Y at *
  by_cases q9 : op = 9
  · subst q9
    rw [if_pos rfl]
    go_enter Try.func16, Try.ntmps16
    go_upto_region 1 with fail
    rw [← EW.out, ← EB.out]
    clear EW EB
    go_wp2_with fail
    refine wp_region_quiet_below (by kernel_rfl) (by kernel_rfl) ?_
    repeat (go_big_quiet_step (first | (go_at_call 26; with_reducible exact calls_same _ (HR.out _)) | (go_at_call 28; with_reducible exact calls_same _ (HH.out _))))
    refine wpQuiet_nil ?_
    intro wq hw'
    obtain ⟨⟨_, hwq⟩, hw''⟩ := hw'
    subst hw''
    have HF := hid (bl_step HB.out hwq)
    clear HB hwq HH HR HS
    go_wp2
    go_ret
    exact ⟨rfl, HF.out⟩
  rw [if_neg q9]
  have d9 : (op == 9) = false := beq_eq_false_iff_ne.2 q9
  by_cases q10 : op = 10
  · subst q10
    rw [if_pos rfl]
    clear q9 HH
    go_enter Try.func16, Try.ntmps16
    go_upto_region 1 with fail
    rw [← EW.out, ← EB.out]
    clear EW EB
    go_wp2_with fail
    refine wp_region_quiet_below (by kernel_rfl) (by kernel_rfl) ?_
    repeat (go_big_quiet_step (first | (go_at_call 26; with_reducible exact calls_same _ (HR.out _)) | (go_at_call 26; with_reducible exact calls_same _ (HS.out _))))
    refine wpQuiet_nil ?_
    intro wq hw'
    obtain ⟨⟨_, hwq⟩, hw''⟩ := hw'
    subst hw''
    have HF := hid (bl_step HB.out hwq)
    clear HB hwq HR HS
    go_wp2
    go_ret
    exact ⟨by simp, HF.out⟩
  rw [if_neg q10]
  have d10 : (op == 10) = false := beq_eq_false_iff_ne.2 q10
  by_cases q11 : op = 11
  · subst q11
    rw [if_pos rfl]
    clear q9 q10 HH
    go_enter Try.func16, Try.ntmps16
    go_upto_region 1 with fail
    rw [← EW.out, ← EB.out]
    clear EW EB
    go_wp2_with fail
    refine wp_region_quiet_below (by kernel_rfl) (by kernel_rfl) ?_
    repeat (go_big_quiet_step (first | (go_at_call 26; with_reducible exact calls_same _ (HR.out _)) | (go_at_call 26; with_reducible exact calls_same _ (HS.out _))))
    refine wpQuiet_nil ?_
    intro wq hw'
    obtain ⟨⟨_, hwq⟩, hw''⟩ := hw'
    subst hw''
    have HF := hid (bl_step HB.out hwq)
    clear HB hwq HR HS
    go_wp2
    go_ret
    refine ⟨?_, HF.out⟩
    by_cases hXY : X = Y
    · simp [hXY]
    · have hXI : ¬ (X : Int) = (Y : Int) := by omega
      simp [hXY, hXI]
  rw [if_neg q11]
  have d11 : (op == 11) = false := beq_eq_false_iff_ne.2 q11
  have HO : Hid ((op == 12) = decide (op = 12)) := by by_cases h : op = 12 <;> simp [h, Hid]
  clear HH HR HS i1' i2' i5' q9 q10 q11
  go_enter Try.func16, Try.ntmps16
  go_upto_region 1 with fail
  rw [← EW.out, ← EB.out]
  clear EW EB
  go_wp2
  go_ret
  refine ⟨?_, HB.out⟩
  by_cases h : op = 12 <;> simp [h]
end Go.Proofs.Ytmceifkjmknjcaa
