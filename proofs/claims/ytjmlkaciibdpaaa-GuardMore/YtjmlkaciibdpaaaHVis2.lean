/- guard's visit: isReady. -/
import Derived.Test.YtjmlkaciibdpaaaHVis
namespace Go.Proofs.Ytjmlkaciibdpaaa
open Go.RowKit

set_option maxHeartbeats 4000000 in
set_option maxRecDepth 20000 in
theorem hready {w : World} {vb wk : Nat} {d : ProgD} {x : InsD} {s : SD} (h : VisAt w vb wk d x s) (hop : 1 ≤ x.op ∧ x.op ≤ 18) (hr : 0 ≤ x.r ∧ x.r < 10) (hs : x.op ≠ 13 → 0 ≤ x.s ∧ x.s < 10) : Calls Try.prog 36 #[vptr vb] w (TellB (readyD s x) w) := by
  obtain ⟨op, r, ss, kk, tt, n⟩ := x
  dsimp only at hr hs hop
  obtain ⟨r, rfl⟩ : ∃ i : Nat, r = i := ⟨r.toNat, by omega⟩
  have i0 := h.i0
  have i1 := h.i1
  have i2 := h.i2
  dsimp only at i0 i1 i2
  have hl := h.lt
  have hri : (r : Int) < 10 := by omega
  have r0 := (h.reg (i := r) (by omega)).c0
  have HT : Hid (∀ q w', q = readyD s ⟨op, r, ss, kk, tt, n⟩ → Below w.heap.size w w' → TellB (readyD s ⟨op, r, ss, kk, tt, n⟩) w (.returned (.bool q)) w') := fun q w' e h => ⟨by rw [e], h⟩
  have HR : Hid (Below w.heap.size w w) := Below.refl _ _
  haveI inhB : ∀ w : World, Inhabited (BelowBy w) := fun w => ⟨⟨w, Below.refl _ _⟩⟩
  by_cases q2 : op = 2 ∨ op = 6
  · obtain ⟨ss, rfl⟩ : ∃ i : Nat, ss = i := ⟨ss.toNat, by have := hs (by omega); omega⟩
    have hsi : (ss : Int) < 10 := (hs (by omega)).2
    have s0 := (h.reg (i := ss) (by omega)).c0
    have E : Hid ((s.reg ss).set = readyD s ⟨op, r, ss, kk, tt, n⟩) := by
      show _ = _
      unfold readyD
      dsimp only
      rw [if_pos q2, Int.toNat_natCast]
    generalize (s.reg ss).set = X at *
    have i1' := cell_by i1
    have i2' := cell_by i2
    have s0' := cell_by s0
    clear hs hr h r0 hop
    rcases q2 with rfl | rfl
    all_goals
      go_enter Try.func36, Try.ntmps36
      go_wp2_with fail
      refine wp_region_quiet_below (by kernel_rfl) (by kernel_rfl) ?_
      repeat (go_big_quiet_step (fail))
      refine wpQuiet_nil ?_
      intro wq hw'
      obtain ⟨⟨_, hwq⟩, hw''⟩ := hw'
      subst hw''
      clear i0 i1 i2 s0 i1' i2' s0' HR
      go_wp2
      go_ret
      exact HT.out _ _ E.out hwq
  by_cases q3 : op = 3 ∨ op = 5 ∨ op = 10 ∨ op = 11
  · obtain ⟨ss, rfl⟩ : ∃ i : Nat, ss = i := ⟨ss.toNat, by have := hs (by omega); omega⟩
    have hsi : (ss : Int) < 10 := (hs (by omega)).2
    have s0 := (h.reg (i := ss) (by omega)).c0
    have E : Hid (((s.reg r).set && (s.reg ss).set) = readyD s ⟨op, r, ss, kk, tt, n⟩) := by
      show _ = _
      unfold readyD
      dsimp only
      rw [if_neg q2, if_pos q3, Int.toNat_natCast, Int.toNat_natCast]
    generalize (s.reg ss).set = X at *
    generalize (s.reg r).set = Y at *
    have i1' := cell_by i1
    have i2' := cell_by i2
    have s0' := cell_by s0
    have r0' := cell_by r0
    clear hs hr h hop q2
    rcases q3 with rfl | rfl | rfl | rfl
    all_goals
      cases Y
      all_goals
        go_enter Try.func36, Try.ntmps36
        go_wp2_with fail
        refine wp_region_quiet_below (by kernel_rfl) (by kernel_rfl) ?_
        repeat (go_big_quiet_step (fail))
        refine wpQuiet_nil ?_
        intro wq hw'
        obtain ⟨⟨_, hwq⟩, hw''⟩ := hw'
        subst hw''
        clear i0 i1 i2 s0 r0 i1' i2' s0' r0' HR
        go_wp2
        go_ret
        exact HT.out _ _ E.out hwq
  by_cases q4 : op = 4 ∨ op = 8 ∨ op = 9 ∨ op = 14 ∨ op = 15 ∨ op = 16
  · have E : Hid ((s.reg r).set = readyD s ⟨op, r, ss, kk, tt, n⟩) := by
      show _ = _
      unfold readyD
      dsimp only
      rw [if_neg q2, if_neg q3, if_pos q4, Int.toNat_natCast]
    generalize (s.reg r).set = Y at *
    have i1' := cell_by i1
    have i2' := cell_by i2
    have r0' := cell_by r0
    clear hs hr h hop q2 q3
    rcases q4 with rfl | rfl | rfl | rfl | rfl | rfl
    all_goals
      go_enter Try.func36, Try.ntmps36
      go_wp2_with fail
      refine wp_region_quiet_below (by kernel_rfl) (by kernel_rfl) ?_
      repeat (go_big_quiet_step (fail))
      refine wpQuiet_nil ?_
      intro wq hw'
      obtain ⟨⟨_, hwq⟩, hw''⟩ := hw'
      subst hw''
      clear i0 i1 i2 r0 i1' i2' r0' HR
      go_wp2
      go_ret
      exact HT.out _ _ E.out hwq
  have E : Hid (true = readyD s ⟨op, r, ss, kk, tt, n⟩) := by
    show _ = _
    unfold readyD
    dsimp only
    rw [if_neg q2, if_neg q3, if_neg q4]
  have q : op = 1 ∨ op = 7 ∨ op = 12 ∨ op = 13 ∨ op = 17 ∨ op = 18 := by omega
  clear hs hr h hop q2 q3 q4 r0 i1 i2
  rcases q with rfl | rfl | rfl | rfl | rfl | rfl
  all_goals
    go_enter Try.func36, Try.ntmps36
    go_wp2
    go_ret
    exact HT.out _ _ E.out HR.out
end Go.Proofs.Ytjmlkaciibdpaaa
