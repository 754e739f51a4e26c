/- every guard.Check is as the document says: the walk of shuntyardlaw.GuardDoes. -/
import Derived.Test.YtmohffibkpecpaaVHGf3
import Derived.Test.YtmohffibkpecpaaJF
import Derived.Test.YtmohffibkpecpaaVGRefG
import Derived.Test.YtmohffibkpecpaaVGSame
import Derived.Test.YtmohffibkpecpaaVGOwn
namespace Go.Proofs.Ytmohffibkpecpaa
open Go.RowKit

theorem rguard (d : ProgD) (w : World) (hl : d.lie w) (hs : d.small) : Calls Try.prog 8 #[d.v] w (TellF (guardW d.slots d.ts d.cs) w) := by
  have hrf : ∀ w', Below w.heap.size w w' → Calls Try.prog 12 #[d.v] w' (TellF (chkW d.slots d.ts d.cs) w') := fun w' hb => rfault d w' (hl.step hb) hs
  unfold guardW
  by_cases hc : (chkW d.slots d.ts d.cs).1 ≠ 0
  · rw [if_pos hc]
    exact rguard_bad d w hrf hc
  · rw [if_neg hc]
    exact rguard_good d w hl hrf (by simpa using hc)

set_option maxHeartbeats 8000000 in
set_option maxRecDepth 20000 in
theorem guarddoes_main (d : ProgD) (W : World) (hd : d.lie W) : Calls Try.prog 3 #[d.v] W (TellB true W) := by
  obtain ⟨W1, hW1⟩ : ∃ W1, W1 = W.alloc (.cells #[.int .i64 d.slots, .slice d.tabs.a d.tabs.n d.tabs.c, .slice d.code.a d.code.n d.code.c] 25) := ⟨_, rfl⟩
  obtain ⟨pb, hpb⟩ : ∃ b, b = W.heap.size := ⟨_, rfl⟩
  have PB : Hid (PBox d W1 pb) := by rw [hW1, hpb]; exact pbox_new d W
  have b1 : Below W.heap.size W W1 := by rw [hW1]; exact bl_alloc (Below.refl _ _)
  have B1 := hid b1
  have EW := hid hW1
  have EP := hid hpb
  have HBEG := hid (hbegun W1)
  have HGR := hid (fun w => ggreat d w)
  have HD := hid hd
  dsimp only [ProgD.v] at HGR ⊢
  clear hW1 hpb b1 hd
  go_enter Try.func3, Try.ntmps3
  go_wp2_with fail
  rw [← EW.out, ← EP.out]
  refine HBEG.out.mono ?_
  rintro e w2 ⟨rfl, hb2⟩
  have B2 := hid (bl_step B1.out hb2)
  have PB2 := hid (PB.out.step hb2)
  obtain ⟨p0, p1, p2⟩ := PB2.out
  have hpl : pb < w2.heap.size := World.block_lt_of_cell? _ _ p0
  clear HBEG EW EP hb2 B1 PB
  go_wp2_with fail
  refine (HGR.out _).mono ?_
  rintro e w3 ⟨rfl, hb3⟩
  have B3 := hid (bl_step B2.out hb3)
  have PB3 := hid (PB2.out.step hb3)
  clear HGR hb3 B2 PB2 p0 p1 p2 hpl
  by_cases hg : (decide (300 < (d.tabs.n : Int)) || decide (65000 < (d.code.n : Int))) = true
  · rw [hg]
    go_wp2
    go_ret
    exact ⟨rfl, B3.out⟩
  have hg' : (decide (300 < (d.tabs.n : Int)) || decide (65000 < (d.code.n : Int))) = false := by simpa using hg
  rw [hg']
  have hsm : d.small := by
    simp only [Bool.or_eq_true, decide_eq_true_eq, not_or] at hg
    exact ⟨by omega, by omega⟩
  have HSM := hid hsm
  clear hg hg' hsm
  have HOW := hid (rown d w3 (HD.out.step B3.out) HSM.out)
  dsimp only [ProgD.v] at HOW
  obtain ⟨p0, p1, p2⟩ := PB3.out
  have hpl : pb < w3.heap.size := World.block_lt_of_cell? _ _ p0
  go_wp2_with fail
  refine HOW.out.mono ?_
  rintro e w4 ⟨q, rfl, es, et, ec, hlq, hsq, hb4⟩
  obtain ⟨W5, hW5⟩ : ∃ W5, W5 = w4.alloc (.cells #[.int .i64 q.slots, .slice q.tabs.a q.tabs.n q.tabs.c, .slice q.code.a q.code.n q.code.c] 25) := ⟨_, rfl⟩
  obtain ⟨ob, hob⟩ : ∃ b, b = w4.heap.size := ⟨_, rfl⟩
  have b5 : Below w3.heap.size w3 W5 := by rw [hW5]; exact bl_alloc hb4
  have OB5 : BoxC W5 ob #[.int .i64 q.slots, .slice q.tabs.a q.tabs.n q.tabs.c, .slice q.code.a q.code.n q.code.c] 25 := by rw [hW5, hob]; exact boxc_new _ _ _ rfl
  have PB5 := PB3.out.step b5
  have HQ5 := hid (hlq.step (show Below w4.heap.size w4 W5 by rw [hW5]; exact bl_alloc (Below.refl _ _)))
  have B5 := hid (bl_step B3.out b5)
  obtain ⟨F, hF⟩ : ∃ F, F = guardW d.slots d.ts d.cs := ⟨_, rfl⟩
  obtain ⟨fc, fa⟩ := F
  have HCK : Hid (∀ p : BelowBy W5, Calls Try.prog 7 #[.agg #[.int .i64 q.slots, .slice q.tabs.a q.tabs.n q.tabs.c, .slice q.code.a q.code.n q.code.c]] p.to fun e w' => e = .returned (.agg #[.int .i64 fc, .int .i64 fa]) ∧ Below p.to.heap.size p.to w') := fun p => by
    have := hcheck q p.to (HQ5.out.step p.h) hsq
    rw [es, et, ec, ← hF] at this
    exact this
  have HGF : Hid (∀ p : BelowBy W5, Calls Try.prog 8 #[.agg #[.int .i64 d.slots, .slice d.tabs.a d.tabs.n d.tabs.c, .slice d.code.a d.code.n d.code.c]] p.to fun e w' => e = .returned (.agg #[.int .i64 fc, .int .i64 fa]) ∧ Below p.to.heap.size p.to w') := fun p => by
    have := rguard d p.to (HD.out.step (bl_step B5.out p.h)) HSM.out
    rw [← hF] at this
    exact this
  have HSA : Hid (∀ p : BelowBy W5, Calls Try.prog 9 #[.agg #[.int .i64 q.slots, .slice q.tabs.a q.tabs.n q.tabs.c, .slice q.code.a q.code.n q.code.c], .agg #[.int .i64 d.slots, .slice d.tabs.a d.tabs.n d.tabs.c, .slice d.code.a d.code.n d.code.c]] p.to fun e w' => e = .returned (.bool true) ∧ Below p.to.heap.size p.to w') := fun p => gsame q d p.to (HQ5.out.step p.h) (HD.out.step (bl_step B5.out p.h)) es et ec hsq
  have o0 : W5.cell? ⟨ob, 0, none⟩ = some (.int .i64 q.slots) := OB5.cell 0
  have o1 : W5.cell? ⟨ob, 1, none⟩ = some (.slice q.tabs.a q.tabs.n q.tabs.c) := OB5.cell 1
  have o2 : W5.cell? ⟨ob, 2, none⟩ = some (.slice q.code.a q.code.n q.code.c) := OB5.cell 2
  have hol := OB5.lt
  have EW5 := hid hW5
  have EOB := hid hob
  clear HOW hlq hsq hb4 b5 OB5 hW5 hob es et ec hF p0 p1 p2 hpl B3 PB3
  obtain ⟨p0, p1, p2⟩ := PB5
  have hpl : pb < W5.heap.size := World.block_lt_of_cell? _ _ p0
  go_upto_region 6 with fail
  rw [← EW5.out, ← EOB.out]
  clear EW5 EOB
  have o0' := cell_by o0
  have o1' := cell_by o1
  have o2' := cell_by o2
  have p0' := cell_by p0
  have p1' := cell_by p1
  have p2' := cell_by p2
  haveI inhB : ∀ w : World, Inhabited (BelowBy w) := fun w => ⟨⟨w, Below.refl _ _⟩⟩
  have hf1 : (fc == fc) = true := by simp
  have hf2 : (fa == fa) = true := by simp
  refine wp_region_quiet_below (by kernel_rfl) (by kernel_rfl) ?_
  repeat (go_big_quiet_step (first | (go_at_call 7; exact calls_below _ (HCK.out _)) | (go_at_call 8; exact calls_below _ (HGF.out _)) | (go_at_call 9; exact calls_below _ (HSA.out _))))
  refine wpQuiet_nil ?_
  intro wq hw'
  obtain ⟨⟨_, hwq⟩, hw''⟩ := hw'
  subst hw''
  have HBQ := hid (bl_step B5.out hwq)
  clear o0 o1 o2 p0 p1 p2 o0' o1' o2' p0' p1' p2' HCK HGF HSA hwq
  go_wp2
  go_ret
  exact ⟨rfl, HBQ.out⟩
end Go.Proofs.Ytmohffibkpecpaa
