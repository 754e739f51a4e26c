/- shuntyardlaw.asmBegun. -/
import Derived.Test.YtkipfppblhkodaaADone2
namespace Go.Proofs.Ytkipfppblhkodaa
open Go.RowKit

def beg2 : List InsD := [⟨12, 0, 0, 0, 0, 0⟩, ⟨1, 0, 0, 0, 0, 0⟩]
def beg1 : List InsD := [⟨17, 0, 0, 0, 0, 0⟩]
theorem beg2_wf : ∀ x ∈ beg2, x.wf := by
  intro x hx
  simp only [beg2, List.mem_cons, List.not_mem_nil, or_false] at hx
  rcases hx with rfl | rfl <;> exact ⟨by decide, by decide, by decide, by decide, by decide, by decide⟩
theorem beg1_wf : ∀ x ∈ beg1, x.wf := by
  intro x hx
  simp only [beg1, List.mem_cons, List.not_mem_nil, or_false] at hx
  subst hx
  exact ⟨by decide, by decide, by decide, by decide, by decide, by decide⟩
theorem beg_done : doneF [2] 0 [] (beg2 ++ beg1) = (0, 0) := by decide
theorem beg_code : doneC [2] 0 [] (beg2 ++ beg1) = [⟨12, 0, 0, 0, 1, 0⟩, ⟨1, 0, 0, 0, 0, 0⟩, ⟨17, 0, 0, 0, 0, 0⟩] := by
  unfold doneC
  rw [beg_done, if_neg (by decide)]
  simp [beg2, beg1, fixL, fixD, toN, hasT, fieldsN]

set_option maxHeartbeats 8000000 in
set_option maxRecDepth 20000 in
theorem abegun (w : World) : Calls Try.prog 4 #[] w (TellB true w) := by
  have hne := fun w => anew w
  have HNEW := hid hne
  clear hne
  go_enter Try.func4, Try.ntmps4
  go_wp2_with fail
  refine (HNEW.out _).mono ?_
  rintro e w1 ⟨rfl, e1⟩
  have h1 : LabAt 49 w.heap.size ⟨w.heap.size, none, 0, none, 0, [], []⟩ w1 := by rw [e1]; exact lab_new _ _ w (Nat.le_refl _)
  have b1 : Below w.heap.size w w1 := by rw [e1]; exact bl_alloc (Below.refl _ _)
  clear e1
  obtain ⟨B, hB⟩ : ∃ b, b = w.heap.size := ⟨_, rfl⟩
  obtain ⟨pa, hpa⟩ : ∃ b, b = w.heap.size := ⟨_, rfl⟩
  have h1 : LabAt 49 B ⟨pa, none, 0, none, 0, [], []⟩ w1 := by rw [hB, hpa]; exact h1
  have s1 : B ≤ w1.heap.size := by rw [hB]; exact b1.size
  have b1 : Below B w w1 := by rw [hB]; exact b1
  have HLB := hid (alabel h1 s1 (Nat.zero_le _))
  have H1 := hid h1
  have B1 := hid b1
  have S1 := hid s1
  have EB := hid hB
  rw [← hpa]
  clear h1 b1 s1 hB hpa HNEW
  dsimp only [lptr] at HLB ⊢
  go_wp2_with fail
  refine HLB.out.mono ?_
  rintro e w2 ⟨d2, rfl, h2, t2, ep2, ec2, em2⟩
  have b2 := B1.out.trans (t2.below H1.out S1.out)
  have s2 := Nat.le_trans S1.out t2.size
  obtain ⟨p2, la, lc, ma, mc, cs2, ms2⟩ := d2
  dsimp only at ep2 ec2 em2
  subst ep2 ec2 em2
  have a2 : Below w2.heap.size w2 (w2.alloc (.cells #[.int .i64 12, .int .i64 0, .int .i64 0, .int .i64 0, .int .i64 0, .int .u64 0, .int .i64 1, .int .i64 0, .int .i64 0, .int .i64 0, .int .i64 0, .int .u64 0] 34)) := bl_alloc (Below.refl _ _)
  have h2 := h2.step a2
  have b2 := b2.trans (a2.mono s2)
  have s2 := Nat.le_trans s2 a2.size
  have HP2 := hid (aput (ad := ⟨w2.heap.size, 0, none⟩) (m := 2) (c := 2) (xs := beg2) h2 s2 rfl (gsrc_of (cs := [.int .i64 12, .int .i64 0, .int .i64 0, .int .i64 0, .int .i64 0, .int .u64 0, .int .i64 1, .int .i64 0, .int .i64 0, .int .i64 0, .int .i64 0, .int .u64 0])) beg2_wf (by decide) (by show 0 + 2 ≤ 100000; decide))
  have H2 := hid h2
  have B2 := hid b2
  have S2 := hid s2
  clear h2 b2 s2 t2 a2 HLB H1 B1 S1
  dsimp only [lptr] at HP2
  go_wp2_with fail
  refine HP2.out.mono ?_
  rintro e w3 ⟨d3, rfl, h3, t3, ep3, ec3, em3⟩
  have b3 := B2.out.trans (t3.below H2.out S2.out)
  have s3 := Nat.le_trans S2.out t3.size
  obtain ⟨p3, la3, lc3, ma3, mc3, cs3, ms3⟩ := d3
  dsimp only at ep3 ec3 em3
  subst ep3 ec3 em3
  have HMK := hid (amark h3 0)
  have EM : Hid (markB ([] ++ [-1]) 0 = true) := by show _ = _; decide
  rw [EM.out, if_pos rfl] at HMK
  have H3 := hid h3
  have B3 := hid b3
  have S3 := hid s3
  clear h3 b3 s3 t3 HP2 H2 B2 S2 EM
  dsimp only [lptr] at HMK
  go_wp2_with fail
  refine HMK.out.mono ?_
  rintro e w4 ⟨d4, rfl, h4, t4, ep4, ec4, em4⟩
  have b4 := B3.out.trans (t4.below H3.out S3.out)
  have s4 := Nat.le_trans S3.out t4.size
  obtain ⟨p4, la4, lc4, ma4, mc4, cs4, ms4⟩ := d4
  dsimp only at ep4 ec4 em4
  have em4 : ms4 = [2] := em4
  have ec4 : cs4 = beg2 := ec4
  subst ep4 ec4 em4
  have a4 : Below w4.heap.size w4 (w4.alloc (.cells #[.int .i64 17, .int .i64 0, .int .i64 0, .int .i64 0, .int .i64 0, .int .u64 0] 34)) := bl_alloc (Below.refl _ _)
  have h4 := h4.step a4
  have b4 := b4.trans (a4.mono s4)
  have s4 := Nat.le_trans s4 a4.size
  have HP4 := hid (aput (ad := ⟨w4.heap.size, 0, none⟩) (m := 1) (c := 1) (xs := beg1) h4 s4 rfl (gsrc_of (cs := [.int .i64 17, .int .i64 0, .int .i64 0, .int .i64 0, .int .i64 0, .int .u64 0])) beg1_wf (by decide) (by show 2 + 1 ≤ 100000; decide))
  have H4 := hid h4
  have B4 := hid b4
  have S4 := hid s4
  clear h4 b4 s4 t4 a4 HMK H3 B3 S3
  dsimp only [lptr] at HP4
  go_wp2_with fail
  refine HP4.out.mono ?_
  rintro e w5 ⟨d5, rfl, h5, t5, ep5, ec5, em5⟩
  have b5 := B4.out.trans (t5.below H4.out S4.out)
  obtain ⟨p5, la5, lc5, ma5, mc5, cs5, ms5⟩ := d5
  dsimp only at ep5 ec5 em5
  subst ep5 ec5 em5
  have HDN := hid (adone h5 (by show (beg2 ++ beg1).length ≤ 60000; decide) 0 (by decide) (s := ⟨none, 0, 0⟩) (ts := []) ⟨rfl, fun i x hx => by simp at hx⟩ (fun _ => ⟨rfl, rfl⟩) (Nat.zero_le _))
  have B5 := hid b5
  clear h5 b5 t5 HP4 H4 B4 S4
  dsimp only [lptr] at HDN
  go_wp2_with fail
  refine HDN.out.mono ?_
  rintro e w6 ⟨q, rfl, _, _, eqc, hlq, _, hb6⟩
  have eqc : q.cs = [⟨12, 0, 0, 0, 1, 0⟩, ⟨1, 0, 0, 0, 0, 0⟩, ⟨17, 0, 0, 0, 0, 0⟩] := eqc.trans beg_code
  have hqn : q.code.n = 3 := by rw [← hlq.c.1, eqc]; rfl
  obtain ⟨g, off, ea, hp⟩ := hlq.c.2 0 ⟨12, 0, 0, 0, 1, 0⟩ (by rw [eqc]; rfl)
  have x4 : w6.cell? ⟨g, off + 4, none⟩ = some (.int .i64 1) := by
    have := hp.2.2.2.2.1.1
    rw [Nat.zero_mul, Nat.add_zero] at this
    exact this
  have EF : Hid (doneF [2] 0 [] (beg2 ++ beg1) = (0, 0)) := beg_done
  have B6 : Hid (Below w.heap.size w w6) := by rw [← EB.out]; exact B5.out.trans (hb6.mono (by rw [EB.out]; exact B5.out.size))
  show _
  dsimp only [ProgD.v]
  rw [ea, hqn, EF.out]
  have gl := World.block_lt_of_cell? _ _ x4
  clear eqc hlq hb6 ea hp hqn HDN B5
  clear ec4 em4 h2 h4 s2 s4 b2 b4 h1 b1
  go_wp2
  go_ret
  exact ⟨rfl, bl_alloc (bl_alloc B6.out)⟩
end Go.Proofs.Ytkipfppblhkodaa
