/- Texts of one chain, joined: HBehRoom, HBehSet. -/
import Derived.Test.YtmohffibkpecpaaJ6
namespace Go.Proofs.Ytmohffibkpecpaa
open Go.RowKit

set_option maxHeartbeats 4000000 in
set_option maxRecDepth 20000 in
theorem hbeh_room {w : World} {vb wk : Nat} {d : ProgD} {x : InsD} {s : SD} {m i : Nat} (h : VisAt w vb wk d x s) (ha : VisAp w vb wk d) (hx : GOk d.slots d.ts m i x) (hok : s.ok) (hop : x.op = 9) : Calls Try.prog 25 #[vptr vb] w (BehIs w vb wk d x (behindD d.ts s x)) := by
  have hr := hx.r
  have hss : 0 ≤ x.s ∧ x.s < 10 := hx.s (by omega)
  have hn := hx.n
  have EQ : behindD d.ts s x = s.setR x.r.toNat ((s.reg x.r.toNat).more x.n.toNat) := by
    unfold behindD
    rw [if_neg (by omega), if_neg (by omega), if_neg (by omega), if_neg (by omega), if_neg (by omega), if_neg (by omega), if_pos hop]
  have HV := hid h
  have HX := hid ha
  have i0 := h.i0
  have i1 := h.i1
  have i2 := h.i2
  have i3 := h.i3
  have i5 := h.i5
  have hl := h.lt
  obtain ⟨r0, r1, r2, r3, r4⟩ := h.reg (i := x.r.toNat) (by omega)
  obtain ⟨s0, s1, s2, s3, s4⟩ := h.reg (i := x.s.toNat) (by omega)
  have HO := hid hok
  have HRN : Hid (∀ wq, Below w.heap.size w wq → VisAt (wq.setCells vb (7 + 1 + x.r.toNat * 5) (regC ((s.reg x.r.toNat).more x.n.toNat))) vb wk d x (behindD d.ts s x) ∧ HRn vb w (wq.setCells vb (7 + 1 + x.r.toNat * 5) (regC ((s.reg x.r.toNat).more x.n.toNat)))) := fun wq hb => BehIs.reg HV.out HX.out hb (by omega) _ EQ
  have HF : Hid (∀ wq, Below w.heap.size w wq → Fz5 wq vb x.r.toNat) := fun wq hb => (HV.out.step hb).fz5 (by omega)
  generalize behindD d.ts s x = S' at *
  clear EQ h ha hx hok
  obtain ⟨op, r, ss, kk, tt, n⟩ := x
  dsimp only at *
  obtain ⟨n, rfl⟩ : ∃ k : Nat, n = k := ⟨n.toNat, by omega⟩
  obtain ⟨ss, rfl⟩ : ∃ k : Nat, ss = k := ⟨ss.toNat, by omega⟩
  obtain ⟨r, rfl⟩ : ∃ k : Nat, r = k := ⟨r.toNat, by omega⟩
  simp only [Int.toNat_natCast] at r0 r1 r2 r3 r4 s0 s1 s2 s3 s4 HRN HF
  have hri : (r : Int) < 10 := by omega
  have hsi : (ss : Int) < 10 := by omega
  have HC : Hid (∀ q : BelowBy w, Calls Try.prog 42 #[regV (s.reg r), .int .u64 (n : Int)] q.to fun e w' => e = .returned (regV ((s.reg r).more n)) ∧ Below q.to.heap.size q.to w') := fun q => hmore _ n q.to
  generalize hX : (s.reg r).more n = X at *
  clear hX
  unfold regC at HRN
  generalize s.reg r = Rr at *
  generalize s.reg ss = Rs at *
  have i1' := cell_by i1
  have i2' := cell_by i2
  have i3' := cell_by i3
  have i5' := cell_by i5
  have r0' := cell_by r0
  have r1' := cell_by r1
  have r2' := cell_by r2
  have r3' := cell_by r3
  have r4' := cell_by r4
  have s0' := cell_by s0
  have s1' := cell_by s1
  have s2' := cell_by s2
  have s3' := cell_by s3
  have s4' := cell_by s4
  clear hr hss hn
  haveI inhB : ∀ w : World, Inhabited (BelowBy w) := fun w => ⟨⟨w, Below.refl _ _⟩⟩
  subst hop
  all_goals
    go_enter Try.func25, Try.ntmps25
    go_wp2_with fail
    refine wp_region_cutQ 27 (by kernel_rfl) (by kernel_rfl) ?_
    simp only [List.take_succ_cons, List.take_zero]
    repeat (go_big_quiet_step (first | (go_at_call 42; exact calls_below _ (HC.out _))))
    refine wpQuiet_nil ?_
    intro wq hw'
    obtain ⟨⟨_, hwq⟩, hw''⟩ := hw'
    subst hw''
    simp only [List.drop_succ_cons, List.drop_zero]
    obtain ⟨f0, f1, f2, f3, f4⟩ := HF.out wq hwq
    replace r0 := cell_keep r0 hwq
    replace r1 := cell_keep r1 hwq
    replace r2 := cell_keep r2 hwq
    replace r3 := cell_keep r3 hwq
    replace r4 := cell_keep r4 hwq
    have hlq : vb < wq.heap.size := World.block_lt_of_cell? _ _ r0
    have HE := hid (HRN.out wq hwq)
    clear hwq HRN HF HV HX HO i0 i1 i2 i3 i5 s0 s1 s2 s3 s4 i1' i2' i3' i5' r0' r1' r2' r3' r4' s0' s1' s2' s3' s4' inhB hl HC
    go_wp2
    exact bodyPost_end (v := .tuple #[]) (results_none Try.results25 _ _ _) rfl ⟨rfl, HE.out.1, HE.out.2⟩
end Go.Proofs.Ytmohffibkpecpaa

namespace Go.Proofs.Ytmohffibkpecpaa
open Go.RowKit

set_option maxHeartbeats 4000000 in
set_option maxRecDepth 20000 in
theorem hbeh_set {w : World} {vb wk : Nat} {d : ProgD} {x : InsD} {s : SD} {m i : Nat} (h : VisAt w vb wk d x s) (ha : VisAp w vb wk d) (hx : GOk d.slots d.ts m i x) (hsl : d.slots ≤ 96) (hop : x.op = 8) : Calls Try.prog 25 #[vptr vb] w (BehIs w vb wk d x (behindD d.ts s x)) := by
  have hn := hx.n
  have hn8 := hx.slot (.inr hop)
  have EQ : behindD d.ts s x = s.fill x.n.toNat 1 := by
    unfold behindD
    rw [if_neg (by omega), if_neg (by omega), if_neg (by omega), if_neg (by omega), if_pos hop]
  have HV := hid h
  have HX := hid ha
  have i0 := h.i0
  have i5 := h.i5
  have hl := h.lt
  have c0 := h.slot (i := x.n.toNat) (by omega)
  have HRN : Hid (∀ wq, Below w.heap.size w wq → VisAt (wq.setCell ⟨vb, 58 + x.n.toNat, none⟩ (.bool true)) vb wk d x (behindD d.ts s x) ∧ HRn vb w (wq.setCell ⟨vb, 58 + x.n.toNat, none⟩ (.bool true))) := fun wq hb => by
    rw [EQ]
    refine ⟨(HV.out.step hb).putS (HX.out.up hb.size) (by omega) (fun _ => rfl) (by
      show (s.slot x.n.toNat || (decide (x.n.toNat ≤ x.n.toNat) && decide (x.n.toNat < x.n.toNat + 1))) = true
      rw [decide_eq_true (Nat.le_refl _), decide_eq_true (Nat.lt_succ_self _)]
      cases s.slot x.n.toNat <;> rfl) (fun j hj => ?_), (HRn.of hb).trans (HRn.put vb _ _ _)⟩
    show (s.slot j || (decide (x.n.toNat ≤ j) && decide (j < x.n.toNat + 1))) = s.slot j
    have : (decide (x.n.toNat ≤ j) && decide (j < x.n.toNat + 1)) = false := by
      by_cases e : x.n.toNat ≤ j
      · rw [decide_eq_false (by omega : ¬ j < x.n.toNat + 1), Bool.and_false]
      · rw [decide_eq_false e, Bool.false_and]
    rw [this, Bool.or_false]
  have HF : Hid (∀ wq, Below w.heap.size w wq → wq.frozen? ⟨vb, 58 + x.n.toNat, none⟩ = false) := fun wq hb => by
    have := (HV.out.step hb).fz (j := 51 + x.n.toNat) (by omega)
    rw [show 58 + x.n.toNat = 7 + (51 + x.n.toNat) by omega]
    exact this
  generalize behindD d.ts s x = S' at *
  clear EQ h ha hx
  obtain ⟨op, r, ss, kk, tt, n⟩ := x
  dsimp only at *
  obtain ⟨n, rfl⟩ : ∃ k : Nat, n = k := ⟨n.toNat, by omega⟩
  simp only [Int.toNat_natCast] at c0 HRN HF
  have hni : (n : Int) < 96 := by omega
  have i5' := cell_by i5
  clear hn hn8 hsl
  subst hop
  haveI inhB : ∀ w : World, Inhabited (BelowBy w) := fun w => ⟨⟨w, Below.refl _ _⟩⟩
  go_enter Try.func25, Try.ntmps25
  go_wp2_with fail
  refine wp_region_cutQ 10 (by kernel_rfl) (by kernel_rfl) ?_
  simp only [List.take_succ_cons, List.take_zero]
  repeat (go_big_quiet_step (fail))
  refine wpQuiet_nil ?_
  intro wq hw'
  obtain ⟨⟨_, hwq⟩, hw''⟩ := hw'
  subst hw''
  simp only [List.drop_succ_cons, List.drop_zero]
  have f0 := HF.out wq hwq
  replace c0 := cell_keep c0 hwq
  have hlq : vb < wq.heap.size := World.block_lt_of_cell? _ _ c0
  have HE := hid (HRN.out wq hwq)
  clear hwq HRN HF HV HX i0 i5 i5' inhB hl
  go_wp2
  exact bodyPost_end (v := .tuple #[]) (results_none Try.results25 _ _ _) rfl ⟨rfl, HE.out.1, HE.out.2⟩

set_option maxHeartbeats 4000000 in
set_option maxRecDepth 20000 in
theorem hbeh_none {w : World} {vb wk : Nat} {d : ProgD} {x : InsD} {s : SD} (h : VisAt w vb wk d x s) (hop : x.op = 10 ∨ x.op = 11 ∨ x.op = 12 ∨ x.op = 14 ∨ x.op = 15 ∨ x.op = 16 ∨ x.op = 17) : Calls Try.prog 25 #[vptr vb] w (BehIs w vb wk d x (behindD d.ts s x)) := by
  have EQ : behindD d.ts s x = s := by
    unfold behindD
    rw [if_neg (by omega), if_neg (by omega), if_neg (by omega), if_neg (by omega), if_neg (by omega), if_neg (by omega), if_neg (by omega)]
  rw [EQ]
  have HV := hid h
  have i0 := h.i0
  have hl := h.lt
  clear EQ h
  obtain ⟨op, r, ss, kk, tt, n⟩ := x
  dsimp only at *
  rcases hop with rfl | rfl | rfl | rfl | rfl | rfl | rfl
  all_goals
    go_enter Try.func25, Try.ntmps25
    go_wp2
    exact bodyPost_end (v := .tuple #[]) (results_none Try.results25 _ _ _) rfl ⟨rfl, HV.out, HRn.refl _ _⟩
end Go.Proofs.Ytmohffibkpecpaa
