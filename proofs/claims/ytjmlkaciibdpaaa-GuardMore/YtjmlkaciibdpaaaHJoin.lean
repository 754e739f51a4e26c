/- guard's registers: join. -/
import Derived.Test.YtjmlkaciibdpaaaHReg2
namespace Go.Proofs.Ytjmlkaciibdpaaa
open Go.RowKit

set_option maxHeartbeats 4000000 in
set_option maxRecDepth 20000 in
theorem hjoinX (s ji ri s' ki ri' : Bool) (jn rn kn rn' : Int) (j1 : Bool) (j2 : Int) (m1 : Bool) (m2 : Int) (HS : ∀ w, Calls Try.prog 52 #[mayR ji jn, mayR ki kn] w (TellV (mayR j1 j2) w)) (HM : ∀ w, Calls Try.prog 53 #[mayR ri rn, mayR ri' rn'] w (TellV (mayR m1 m2) w)) (w : World) :
    Calls Try.prog 49 #[regR s ji jn ri rn, regR s' ki kn ri' rn'] w (TellV (regR (s && s') j1 j2 m1 m2) w) := by
  obtain ⟨W4, hW4⟩ : ∃ W, W = (((w.alloc (.cells #[.bool s, .bool ji, .int .u64 jn, .bool ri, .int .u64 rn] 45)).alloc (.cells #[.bool s', .bool ki, .int .u64 kn, .bool ri', .int .u64 rn'] 45)).alloc (.cells zero5 45)) := ⟨_, rfl⟩
  obtain ⟨a, ha⟩ : ∃ rb, rb = w.heap.size := ⟨_, rfl⟩
  obtain ⟨b, hb⟩ : ∃ rb, rb = w.heap.size + 1 := ⟨_, rfl⟩
  obtain ⟨r, hr⟩ : ∃ rb, rb = w.heap.size + 1 + 1 := ⟨_, rfl⟩
  have HB4 : Hid (Below w.heap.size w W4) := by rw [hW4]; exact bl_alloc (bl_alloc (bl_alloc (Below.refl _ _)))
  have XA : BoxC W4 a #[.bool s, .bool ji, .int .u64 jn, .bool ri, .int .u64 rn] 45 := by
    rw [hW4, ha]
    exact BoxC.step (boxc_new _ _ _ rfl) (bl_alloc (bl_alloc (Below.refl _ _)))
  have XB : BoxC W4 b #[.bool s', .bool ki, .int .u64 kn, .bool ri', .int .u64 rn'] 45 := by
    rw [hW4, hb]
    exact BoxC.step (boxc_new _ _ _ (by simp)) (bl_alloc (Below.refl _ _))
  have XR : Hid (BoxC W4 r zero5 45) := by
    rw [hW4, hr]
    exact boxc_new _ _ _ (by simp)
  have HLR : Hid (w.heap.size ≤ r) := by rw [hr]; show _ ≤ _; omega
  have n1 : ¬ r = a := by omega
  have n2 : ¬ r = b := by omega
  have H1 : Hid (∀ q : BelowBy W4, Calls Try.prog 52 #[mayR ji jn, mayR ki kn] q.to fun e w' => e = .returned (mayR j1 j2) ∧ Below q.to.heap.size q.to w') := fun q => HS q.to
  have H2 : Hid (∀ q : BelowBy W4, Calls Try.prog 53 #[mayR ri rn, mayR ri' rn'] q.to fun e w' => e = .returned (mayR m1 m2) ∧ Below q.to.heap.size q.to w') := fun q => HM q.to
  have EW := hid hW4
  have EA := hid ha
  have EB := hid hb
  have ER := hid hr
  clear hW4 ha hb hr HS HM
  obtain ⟨a0, a1, a2, a3, a4, _, _, _, _, _, hla⟩ := XA.five
  obtain ⟨b0, b1, b2, b3, b4, _, _, _, _, _, hlb⟩ := XB.five
  clear XA XB
  have a0' := cell_by a0
  have a1' := cell_by a1
  have a2' := cell_by a2
  have a3' := cell_by a3
  have a4' := cell_by a4
  have b0' := cell_by b0
  have b1' := cell_by b1
  have b2' := cell_by b2
  have b3' := cell_by b3
  have b4' := cell_by b4
  haveI inhB : ∀ w : World, Inhabited (BelowBy w) := fun w => ⟨⟨w, Below.refl _ _⟩⟩
  cases s
  all_goals
    go_enter Try.func49, Try.ntmps49
    go_upto_region 1 with fail
    rw [← EW.out, ← ER.out, ← EB.out, ← EA.out]
    clear EW EA EB ER
    go_wp2_with fail
    refine wp_region_cutQ 17 (by kernel_rfl) (by kernel_rfl) ?_
    simp only [List.take_succ_cons, List.take_zero]
    repeat (go_big_quiet_step (first | (go_at_call 52; exact calls_below _ (H1.out _)) | (go_at_call 53; exact calls_below _ (H2.out _))))
    refine wpQuiet_nil ?_
    intro wq hw'
    obtain ⟨⟨_, hwq⟩, hw''⟩ := hw'
    subst hw''
    simp only [List.drop_succ_cons, List.drop_zero]
    obtain ⟨r0, r1, r2, r3, r4, fr0, fr1, fr2, fr3, fr4, hlr⟩ := (XR.out.step hwq).five
    have BB := hid (bl_step HB4.out hwq)
    clear hwq a0 a1 a2 a3 a4 b0 b1 b2 b3 b4 a0' a1' a2' a3' a4' b0' b1' b2' b3' b4' H1 H2 XR HB4 inhB
    go_wp2
    first
      | exact bodyPost_ret (v := regR false j1 j2 m1 m2) (by simp [results, Try.results49, go_sem, *]) rfl ⟨rfl, hput5 BB.out HLR.out _ _ _ _ _⟩
      | exact bodyPost_ret (v := regR s' j1 j2 m1 m2) (by simp [results, Try.results49, go_sem, *]) rfl ⟨rfl, hput5 BB.out HLR.out _ _ _ _ _⟩

theorem hjoin (r t : RD) (w : World) : Calls Try.prog 49 #[regV r, regV t] w (TellV (regV (r.join t)) w) :=
  hjoinX r.set r.just.isSome r.room.isSome t.set t.just.isSome t.room.isSome _ _ _ _ _ _ _ _ (fun w => hsame r.just t.just w) (fun w => hleast r.room t.room w) w
end Go.Proofs.Ytjmlkaciibdpaaa
