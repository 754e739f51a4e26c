/- The document's judge of states. -/
import Derived.Test.YtlnkfgdepddmladGreatVQR3
import Derived.Test.YtlnkfgdepddmladGreatVQState2
import Derived.Test.YtlnkfgdepddmladGreatJ1
namespace Go.Proofs.YtlnkfgdepddmladGreat
open Go.RowKit

theorem qand_zero_iff (a b : Nat) (ha : a < 18446744073709551616) (hb : b < 18446744073709551616) : a &&& (18446744073709551615 - b) = 0 ↔ a &&& b = a := by
  have key : ∀ j, (18446744073709551615 - b).testBit j = (decide (j < 64) && !b.testBit j) := by
    intro j
    have := Nat.testBit_two_pow_sub_succ (x := b) (n := 64) (by simpa using hb) j
    rw [← this]
    congr 1
    omega
  constructor
  · intro h
    apply Nat.eq_of_testBit_eq
    intro j
    have h1 := congrArg (fun n => n.testBit j) h
    simp only [Nat.testBit_and, key, Nat.zero_testBit] at h1
    rw [Nat.testBit_and]
    by_cases hj : j < 64
    · simp only [hj, decide_true, Bool.true_and] at h1
      cases ha' : a.testBit j <;> cases hb' : b.testBit j <;> simp_all
    · have : a.testBit j = false := Nat.testBit_lt_two_pow (Nat.lt_of_lt_of_le ha (by rw [show (18446744073709551616 : Nat) = 2 ^ 64 from rfl]; exact Nat.pow_le_pow_right (by decide) (by omega)))
      simp [this]
  · intro h
    apply Nat.eq_of_testBit_eq
    intro j
    have h1 := congrArg (fun n => n.testBit j) h
    simp only [Nat.testBit_and] at h1
    simp only [Nat.testBit_and, key, Nat.zero_testBit]
    cases ha' : a.testBit j <;> cases hb' : b.testBit j <;> simp_all


theorem and_whole {v m : Int} (hv : 0 ≤ v ∧ v < 18446744073709551616) (hm : 0 ≤ m ∧ m < 18446744073709551616) : bits .andNot .u64 v m = 0 ↔ bits .and .u64 v m = v := by
  obtain ⟨A, rfl⟩ := Int.eq_ofNat_of_zero_le hv.1
  obtain ⟨B, rfl⟩ := Int.eq_ofNat_of_zero_le hm.1
  have hA : A < 18446744073709551616 := by have := hv.2; omega
  have hB : B < 18446744073709551616 := by have := hm.2; omega
  rw [u64_andNot_nat A B hA hB, u64_and_nat A B hA hB]
  have := qand_zero_iff A B hA hB
  omega

theorem wide_len {m w : Int} (hm : 0 ≤ m ∧ m < 18446744073709551616) (hw : 1 ≤ w ∧ w ≤ 64) : maskN w < m ↔ w < blen m := by
  obtain ⟨W, rfl⟩ := Int.eq_ofNat_of_zero_le (show 0 ≤ w by omega)
  obtain ⟨M, rfl⟩ := Int.eq_ofNat_of_zero_le hm.1
  have hM : M < 2 ^ 64 := by have := hm.2; omega
  have h1 : 1 ≤ 2 ^ W := Nat.one_le_two_pow
  unfold maskN blen
  rw [if_pos hw]
  simp only [Int.toNat_natCast]
  constructor
  · intro h
    have h2 : 2 ^ W ≤ M := by omega
    have h3 := Lib.bitLen_shift W M h2 hM
    have h4 : M / 2 ^ W ≠ 0 := by
      have := Nat.div_pos h2 (by omega)
      omega
    have h5 := Lib.bitLen_half (M / 2 ^ W) h4 (Nat.lt_of_le_of_lt (Nat.div_le_self _ _) hM)
    omega
  · intro h
    apply Classical.byContradiction
    intro h2
    have h3 : M < 2 ^ W := by omega
    have := Lib.bitLen_le M W (by omega) h3
    omega

/-- the code of a case, by the document's words -/
theorem case_ref {p : PPlan} {r : RefD} {n : Int} {c : CaseD} (hv : 0 ≤ c.value ∧ c.value < 18446744073709551616) (hm : 0 ≤ c.mask ∧ c.mask < 18446744073709551616) (hw : 1 ≤ p.width r [] ∧ p.width r [] ≤ 64) :
    caseC p r n c = if maskN (p.width r []) < c.mask ∨ bits .and .u64 c.value c.mask ≠ c.value then 6 else wayC p.ss.length n c.to := by
  unfold caseC
  have h1 := wide_len hm hw
  have h2 := and_whole hv hm
  by_cases h : p.width r [] < blen c.mask ∨ bits .andNot .u64 c.value c.mask ≠ 0
  · rw [if_pos h, if_pos (h.imp h1.2 (fun h => fun e => h (h2.2 e)))]
  · rw [if_neg h, if_neg (fun h' => h (h'.imp h1.1 (fun h => fun e => h (h2.1 e))))]

set_option maxHeartbeats 2000000 in
set_option maxRecDepth 20000 in
theorem wide_any (m x : Int) (w : World) : Calls Tryz.prog 118 #[.int .u64 m, .int .i64 x] w fun e w' => e = .returned (.bool (decide (maskN x < m))) ∧ w' = w := by
  have HC := hid (ones_any x w)
  generalize maskN x = M at *
  go_enter Tryz.func118, Tryz.ntmps118
  go_wp2_with fail
  refine HC.out.mono ?_
  rintro e w1 ⟨rfl, rfl⟩
  clear HC
  go_wp2
  go_ret
  exact ⟨rfl, rfl⟩

set_option maxHeartbeats 32000000 in
set_option maxRecDepth 20000 in
theorem rstate_any (d : PlanD) (w : World) (hl : d.lie w) (hpo : ∀ r, 0 ≤ d.p.width r [] ∧ d.p.width r [] ≤ 48) (k : Nat) (hk : k < d.states.n) (x : StateD) (hx : d.ss[k]? = some x) :
    Calls Tryz.prog 56 #[d.v, .int .i64 k] w fun e w' => e = .returned (.int .i64 (stateC d.p k x.p)) ∧ Below w.heap.size w w' := by
  have bw1 : ∀ o, Below w.heap.size w (w.alloc o) := fun o => bl_alloc (Below.refl _ _)
  obtain ⟨g, off, x', ea, hx', hp⟩ := row_at hl.ss hk
  obtain rfl : x = x' := by rw [hx] at hx'; exact Option.some.inj hx'
  have EHS : Hid (d.p.hs.length = d.heads.n) := by show d.p.hs.length = d.heads.n; simp [PlanD.p, hl.hs.1]
  have ESS : Hid (d.p.ss.length = d.states.n) := by show d.p.ss.length = d.states.n; simp [PlanD.p, hl.ss.1]
  have HI : Hid (∀ w', Calls Tryz.prog 62 #[d.v, .int .i64 x.head] w' fun e w'' => e = .returned (.bool (decide (0 ≤ x.head ∧ x.head < (d.heads.n : Int)))) ∧ Below w'.heap.size w' w'') := fun w' => isHead_any d x.head w'
  have HWO : Hid (∀ w', Below w.heap.size w w' → Calls Tryz.prog 117 #[d.v, .agg #[.int .i64 x.r.h, .int .i64 x.r.f], .slice none 0 0] w' fun e w'' => e = .returned (.int .i64 (d.p.width x.r [])) ∧ Below w'.heap.size w' w'') := fun w' h => by
    rw [← width_p hl]
    exact widthOf_any d x.r.h x.r.f none 0 0 [] w' (hl.step h) (has_nil _ _)
  have HEL : Hid (∀ w', Calls Tryz.prog 119 #[d.v, .int .i64 k, .int .i64 x.els] w' fun e w'' => e = .returned (.int .i64 (wayC d.p.ss.length k x.els)) ∧ Below w'.heap.size w' w'') := fun w' => by
    rw [ESS.out]
    exact lead_any d k x.els w'
  obtain ⟨⟨c0, _⟩, ⟨c1, _⟩, ⟨c2, _⟩, ⟨c3, _⟩, ⟨c4, _⟩, hrow⟩ := hp
  have HCL := hid hrow.1
  have HROW := hid hrow
  have HPO := hid hpo
  have HRES : Hid (stateC d.p k x.p = if x.head ≠ -1 ∧ ¬ (0 ≤ x.head ∧ x.head < (d.p.hs.length : Int)) then 1 else if 4 < x.cs.length then 2 else if 0 < x.cs.length ∧ d.p.width x.r [] = 0 then 1 else or2 (firstC (x.cs.map (caseC d.p x.r k))) (wayC d.p.ss.length k x.els)) := rfl
  have hki : (k : Int) < (d.states.n : Int) := by omega
  have k0 : ∀ o, (w.alloc o).cell? ⟨g, off + k * 5, none⟩ = some (.int .i64 x.head) := fun o => cell_keep c0 (bw1 o)
  have k1 : ∀ o, (w.alloc o).cell? ⟨g, off + k * 5 + 1, none⟩ = some (.int .i64 x.r.h) := fun o => cell_keep c1 (bw1 o)
  have k2' : ∀ o, (w.alloc o).cell? ⟨g, off + k * 5 + 2, none⟩ = some (.int .i64 x.r.f) := fun o => cell_keep c2 (bw1 o)
  obtain ⟨xa, exa⟩ : ∃ xa, x.cases.a = xa := ⟨_, rfl⟩
  have k3 : ∀ o, (w.alloc o).cell? ⟨g, off + k * 5 + 3, none⟩ = some (.slice xa x.cases.n x.cases.c) := fun o => by rw [← exa]; exact cell_keep c3 (bw1 o)
  have EXA := hid exa
  clear exa
  have k4 : ∀ o, (w.alloc o).cell? ⟨g, off + k * 5 + 4, none⟩ = some (.int .i64 x.els) := fun o => cell_keep c4 (bw1 o)
  obtain ⟨W2, hW⟩ : ∃ W2, W2 = ((w.alloc (.cells #[.slice d.heads.a d.heads.n d.heads.c, .slice d.mta.a d.mta.n d.mta.c, .slice (some ⟨g, off, none⟩) d.states.n d.states.c, .slice d.acts.a d.acts.n d.acts.c, .slice d.tabs.a d.tabs.n d.tabs.c, .slice d.nodes.a d.nodes.n d.nodes.c, .slice d.out.a d.out.n d.out.c] 65)).alloc (.cells #[.int .i64 x.head, .int .i64 x.r.h, .int .i64 x.r.f, .slice xa x.cases.n x.cases.c, .int .i64 x.els] 99)) := ⟨_, rfl⟩
  obtain ⟨b0, h0⟩ : ∃ b0, b0 = w.heap.size := ⟨_, rfl⟩
  obtain ⟨b1, h1⟩ : ∃ b1, b1 = w.heap.size + 1 := ⟨_, rfl⟩
  have j0 : W2.cell? ⟨b0, 0, none⟩ = some (.slice d.heads.a d.heads.n d.heads.c) := by rw [hW, h0]; exact (World.cell?_alloc_past _ _ _ (by simp)).trans ((World.cell?_alloc_at _ _ _ _ rfl).trans rfl)
  have j1 : W2.cell? ⟨b0, 1, none⟩ = some (.slice d.mta.a d.mta.n d.mta.c) := by rw [hW, h0]; exact (World.cell?_alloc_past _ _ _ (by simp)).trans ((World.cell?_alloc_at _ _ _ _ rfl).trans rfl)
  have j2 : W2.cell? ⟨b0, 2, none⟩ = some (.slice (some ⟨g, off, none⟩) d.states.n d.states.c) := by rw [hW, h0]; exact (World.cell?_alloc_past _ _ _ (by simp)).trans ((World.cell?_alloc_at _ _ _ _ rfl).trans rfl)
  have j3 : W2.cell? ⟨b0, 3, none⟩ = some (.slice d.acts.a d.acts.n d.acts.c) := by rw [hW, h0]; exact (World.cell?_alloc_past _ _ _ (by simp)).trans ((World.cell?_alloc_at _ _ _ _ rfl).trans rfl)
  have j4 : W2.cell? ⟨b0, 4, none⟩ = some (.slice d.tabs.a d.tabs.n d.tabs.c) := by rw [hW, h0]; exact (World.cell?_alloc_past _ _ _ (by simp)).trans ((World.cell?_alloc_at _ _ _ _ rfl).trans rfl)
  have j5 : W2.cell? ⟨b0, 5, none⟩ = some (.slice d.nodes.a d.nodes.n d.nodes.c) := by rw [hW, h0]; exact (World.cell?_alloc_past _ _ _ (by simp)).trans ((World.cell?_alloc_at _ _ _ _ rfl).trans rfl)
  have j6 : W2.cell? ⟨b0, 6, none⟩ = some (.slice d.out.a d.out.n d.out.c) := by rw [hW, h0]; exact (World.cell?_alloc_past _ _ _ (by simp)).trans ((World.cell?_alloc_at _ _ _ _ rfl).trans rfl)
  have s0 : W2.cell? ⟨b1, 0, none⟩ = some (.int .i64 x.head) := by rw [hW, h1]; exact (World.cell?_alloc_at _ _ _ _ (by simp)).trans rfl
  have s1 : W2.cell? ⟨b1, 1, none⟩ = some (.int .i64 x.r.h) := by rw [hW, h1]; exact (World.cell?_alloc_at _ _ _ _ (by simp)).trans rfl
  have s2 : W2.cell? ⟨b1, 2, none⟩ = some (.int .i64 x.r.f) := by rw [hW, h1]; exact (World.cell?_alloc_at _ _ _ _ (by simp)).trans rfl
  have s3 : W2.cell? ⟨b1, 3, none⟩ = some (.slice xa x.cases.n x.cases.c) := by rw [hW, h1]; exact (World.cell?_alloc_at _ _ _ _ (by simp)).trans rfl
  have s4 : W2.cell? ⟨b1, 4, none⟩ = some (.int .i64 x.els) := by rw [hW, h1]; exact (World.cell?_alloc_at _ _ _ _ (by simp)).trans rfl
  have HB : Hid (Below w.heap.size w W2) := by rw [hW]; exact bl_alloc (bl_alloc (Below.refl _ _))
  have EW := hid hW
  have E0 := hid h0
  have E1 := hid h1
  unfold PlanD.v at HI HWO HEL
  rw [ea] at HI HWO HEL
  clear hl hx hx' c0 c1 c2 c3 c4 hrow hpo hW h0 h1 bw1
  by_cases hA : x.head = -1
  · have bA : (x.head != -1) = false := by simpa using hA
    rw [if_neg (fun h => h.1 hA)] at HRES
    clear HI hA
    by_cases h4 : (4 : Int) < (x.cases.n : Int)
    · have d4 := decide_eq_true h4
      rw [if_pos (by rw [HCL.out]; omega)] at HRES
      clear h4 HWO HEL
      go_enter Tryz.func56, Tryz.ntmps56
      go_wp2
      go_ret
      exact ⟨by rw [HRES.out]; rfl, bl_alloc (bl_alloc (Below.refl _ _))⟩
    have d4 := decide_eq_false h4
    rw [if_neg (by rw [HCL.out]; omega)] at HRES
    have hcn : x.cases.n ≤ 4 := by omega
    clear h4
    go_enter Tryz.func56, Tryz.ntmps56
    go_wp2_with fail
    rw [← EW.out, ← E1.out, ← E0.out]
    refine (HWO.out _ HB.out).mono ?_
    rintro e w1 ⟨rfl, hb1⟩
    have HBC := hid (bl_step HB.out hb1)
    have j0 := cell_keep j0 hb1
    have j1 := cell_keep j1 hb1
    have j2 := cell_keep j2 hb1
    have j3 := cell_keep j3 hb1
    have j4 := cell_keep j4 hb1
    have j5 := cell_keep j5 hb1
    have j6 := cell_keep j6 hb1
    have s0 := cell_keep s0 hb1
    have s1 := cell_keep s1 hb1
    have s2 := cell_keep s2 hb1
    have s3 := cell_keep s3 hb1
    have s4 := cell_keep s4 hb1
    clear HWO hb1 HB
    have HBZ : Hid (Below w1.heap.size w1 w1) := Below.refl _ _
    by_cases h0 : (0 : Int) < (x.cases.n : Int)
    · have d0 : decide (0 < x.cases.n) = true := decide_eq_true (by omega)
      have d0i := decide_eq_true h0
      by_cases hw0 : d.p.width x.r [] = 0
      · rw [if_pos ⟨by rw [HCL.out]; omega, hw0⟩] at HRES
        have f0 : (d.p.width x.r [] == 0) = true := by simpa using hw0
        clear hw0 h0 HEL HBZ
        go_wp2
        go_ret
        exact ⟨by rw [HRES.out]; rfl, HBC.out⟩
      · rw [if_neg (fun h => hw0 h.2)] at HRES
        have f0 : (d.p.width x.r [] == 0) = false := by simpa using hw0
        have HW64 : Hid (0 < x.cases.n → 1 ≤ d.p.width x.r [] ∧ d.p.width x.r [] ≤ 64) := fun _ => by have := HPO.out x.r; omega
        clear hw0 h0
        go_wp2
        go_loopw [7, 8, 9] (fun q _ _ wr => ∃ k2 : Nat, k2 ≤ x.cases.n ∧ q = .int .i64 k2 ∧ Hid (firstC (x.cs.map (caseC d.p x.r k)) = firstC ((x.cs.drop k2).map (caseC d.p x.r k))) ∧ Hid (Below w1.heap.size w1 wr)) (fun q _ _ _ => x.cases.n - (intOf q).toNat)
        case atStart => exact ⟨0, Nat.zero_le _, rfl, rfl, HBZ⟩
        case round =>
          obtain ⟨k2, hk2, rfl, hgo, hbw⟩ := hrel
          clear HBZ
          have BW := hid (bl_step HBC.out hbw.out)
          have j0 := cell_keep j0 hbw.out
          have j1 := cell_keep j1 hbw.out
          have j2 := cell_keep j2 hbw.out
          have j3 := cell_keep j3 hbw.out
          have j4 := cell_keep j4 hbw.out
          have j5 := cell_keep j5 hbw.out
          have j6 := cell_keep j6 hbw.out
          have s0 := cell_keep s0 hbw.out
          have s1 := cell_keep s1 hbw.out
          have s2 := cell_keep s2 hbw.out
          have s3 := cell_keep s3 hbw.out
          have s4 := cell_keep s4 hbw.out
          by_cases hlt : k2 < x.cases.n
          · obtain ⟨cg, coff, c, ca, hc, ⟨q0, w0⟩, ⟨q1, w1'⟩, ⟨q2, _⟩⟩ := row_at (HROW.out.step CaseD.keeps BW.out) hlt
            have hki2 : (k2 : Int) < (x.cases.n : Int) := by omega
            have hst := first_drop (f := caseC d.p x.r k) hc
            have hv64 := bounds_u64 w0
            have hm64 := bounds_u64 w1'
            have hcr := case_ref (p := d.p) (r := x.r) (n := k) (c := c) (by omega) (by omega) (HW64.out (by omega))
            have hbo : ∀ o, Below wr.heap.size wr (wr.alloc o) := fun o => bl_alloc (Below.refl _ _)
            have HWI : Hid (∀ w', Calls Tryz.prog 118 #[.int .u64 c.mask, .int .i64 (d.p.width x.r [])] w' fun e w'' => e = .returned (.bool (decide (maskN (d.p.width x.r []) < c.mask))) ∧ w'' = w') := fun w' => wide_any c.mask _ w'
            have HLE : Hid (∀ w', Calls Tryz.prog 119 #[d.v, .int .i64 k, .int .i64 c.to] w' fun e w'' => e = .returned (.int .i64 (wayC d.p.ss.length k c.to)) ∧ Below w'.heap.size w' w'') := fun w' => by rw [ESS.out]; exact lead_any d k c.to w'
            unfold PlanD.v at HLE
            rw [ea] at HLE
            obtain rfl : xa = some ⟨cg, coff, none⟩ := by rw [← EXA.out]; exact ca
            clear ca
            have HBO := hid hbo
            have j0' : ∀ o, (wr.alloc o).cell? ⟨b0, 0, none⟩ = some (.slice d.heads.a d.heads.n d.heads.c) := fun o => cell_keep j0 (hbo o)
            have j1' : ∀ o, (wr.alloc o).cell? ⟨b0, 1, none⟩ = some (.slice d.mta.a d.mta.n d.mta.c) := fun o => cell_keep j1 (hbo o)
            have j2' : ∀ o, (wr.alloc o).cell? ⟨b0, 2, none⟩ = some (.slice (some ⟨g, off, none⟩) d.states.n d.states.c) := fun o => cell_keep j2 (hbo o)
            have j3' : ∀ o, (wr.alloc o).cell? ⟨b0, 3, none⟩ = some (.slice d.acts.a d.acts.n d.acts.c) := fun o => cell_keep j3 (hbo o)
            have j4' : ∀ o, (wr.alloc o).cell? ⟨b0, 4, none⟩ = some (.slice d.tabs.a d.tabs.n d.tabs.c) := fun o => cell_keep j4 (hbo o)
            have j5' : ∀ o, (wr.alloc o).cell? ⟨b0, 5, none⟩ = some (.slice d.nodes.a d.nodes.n d.nodes.c) := fun o => cell_keep j5 (hbo o)
            have j6' : ∀ o, (wr.alloc o).cell? ⟨b0, 6, none⟩ = some (.slice d.out.a d.out.n d.out.c) := fun o => cell_keep j6 (hbo o)
            have s0' : ∀ o, (wr.alloc o).cell? ⟨b1, 0, none⟩ = some (.int .i64 x.head) := fun o => cell_keep s0 (hbo o)
            have s1' : ∀ o, (wr.alloc o).cell? ⟨b1, 1, none⟩ = some (.int .i64 x.r.h) := fun o => cell_keep s1 (hbo o)
            have s2' : ∀ o, (wr.alloc o).cell? ⟨b1, 2, none⟩ = some (.int .i64 x.r.f) := fun o => cell_keep s2 (hbo o)
            have s3' : ∀ o, (wr.alloc o).cell? ⟨b1, 3, none⟩ = some (.slice (some ⟨cg, coff, none⟩) x.cases.n x.cases.c) := fun o => cell_keep s3 (hbo o)
            have s4' : ∀ o, (wr.alloc o).cell? ⟨b1, 4, none⟩ = some (.int .i64 x.els) := fun o => cell_keep s4 (hbo o)
            clear hc w0 w1' hbo
            generalize caseC d.p x.r k c = C at *
            generalize wayC d.p.ss.length k c.to = R at *
            generalize maskN (d.p.width x.r []) = M at *
            generalize hV : bits .and .u64 c.value c.mask = V at *
            clear hv64 hm64
            by_cases g1 : M < c.mask
            · have f1 := decide_eq_true g1
              have hC6 : C = 6 := by rw [hcr, if_pos (.inl g1)]
              have HG : Hid (stateC d.p k x.p = 6) := by show _ = _; rw [HRES.out, hgo.out, hst, if_pos (by rw [hC6]; decide), hC6]; rfl
              rw [f1] at HWI
              clear hst hgo hcr g1 hC6 HLE
              go_wp2_with fail
              refine (HWI.out _).mono ?_
              rintro e u1 ⟨rfl, rfl⟩
              have HE := hid (bl_step BW.out (HBO.out (.cells #[.int .u64 c.value, .int .u64 c.mask, .int .i64 c.to] 152)))
              clear HWI HBO BW
              go_wp2
              go_ret
              exact ⟨by rw [HG.out]; rfl, HE.out⟩
            have f1 := decide_eq_false g1
            rw [f1] at HWI
            by_cases g2 : V = c.value
            · have f2 : (V != c.value) = false := by simpa using g2
              have hCR : C = R := by rw [hcr, if_neg (fun h => h.elim g1 (fun h => h g2))]
              subst hCR
              by_cases gC : C = 0
              · have HG : Hid (firstC (x.cs.map (caseC d.p x.r k)) = firstC ((x.cs.drop (k2 + 1)).map (caseC d.p x.r k))) := by show _ = _; rw [hgo.out, hst, if_neg (by simpa using gC)]
                have fC : (C != 0) = false := by simpa using gC
                clear hst hgo hcr g1 g2
                go_wp2_with fail
                refine (HWI.out _).mono ?_
                rintro e u1 ⟨rfl, rfl⟩
                clear HWI
                go_wp2_with fail
                refine (HLE.out _).mono ?_
                rintro e u2 ⟨rfl, hb2⟩
                have HE := hid (bl_step (bl_step hbw.out (HBO.out _)) hb2)
                clear HLE hb2 HBO hbw BW
                go_wp2
                go_roundw
                case rel => exact ⟨k2 + 1, by omega, by go_num, HG, HE⟩
                case measure => simp [intOf]; omega
              · have HG : Hid (stateC d.p k x.p = C) := by show _ = _; rw [HRES.out, hgo.out, hst, if_pos gC]; unfold or2; rw [if_pos gC]
                have fC : (C != 0) = true := by simpa using gC
                clear hst hgo hcr g1 g2
                go_wp2_with fail
                refine (HWI.out _).mono ?_
                rintro e u1 ⟨rfl, rfl⟩
                clear HWI
                go_wp2_with fail
                refine (HLE.out _).mono ?_
                rintro e u2 ⟨rfl, hb2⟩
                have HE := hid (bl_step (bl_step BW.out (HBO.out _)) hb2)
                clear HLE hb2 HBO hbw BW
                go_wp2
                go_ret
                exact ⟨by rw [HG.out]; rfl, HE.out⟩
            · have f2 : (V != c.value) = true := by simpa using g2
              have hC6 : C = 6 := by rw [hcr, if_pos (.inr g2)]
              have HG : Hid (stateC d.p k x.p = 6) := by show _ = _; rw [HRES.out, hgo.out, hst, if_pos (by rw [hC6]; decide), hC6]; rfl
              clear hst hgo hcr g1 hC6 HLE
              go_wp2_with fail
              refine (HWI.out _).mono ?_
              rintro e u1 ⟨rfl, rfl⟩
              have HE := hid (bl_step BW.out (HBO.out (.cells #[.int .u64 c.value, .int .u64 c.mask, .int .i64 c.to] 152)))
              clear HWI HBO BW
              go_wp2
              go_ret
              exact ⟨by rw [HG.out]; rfl, HE.out⟩
          · have ek : k2 = x.cases.n := by omega
            have hki2 : ¬ (k2 : Int) < (x.cases.n : Int) := by omega
            have HG : Hid (stateC d.p k x.p = wayC d.p.ss.length k x.els) := by
              show _ = _
              have : firstC (x.cs.map (caseC d.p x.r k)) = 0 := by rw [hgo.out, ek, ← HCL.out, List.drop_length]; rfl
              rw [HRES.out, this]
              rfl
            clear hgo ek
            go_wp2_with fail
            refine (HEL.out _).mono ?_
            rintro e u2 ⟨rfl, hb2⟩
            have HE := hid (bl_step BW.out hb2)
            clear HEL hb2 hbw BW
            go_wp2
            go_ret
            exact ⟨by rw [HG.out]; rfl, HE.out⟩
    · have d0 : decide (0 < x.cases.n) = false := decide_eq_false (by omega)
      have d0i := decide_eq_false h0
      rw [if_neg (fun h => h0 (by have := h.1; rw [HCL.out] at this; omega))] at HRES
      have HW64 : Hid (0 < x.cases.n → 1 ≤ d.p.width x.r [] ∧ d.p.width x.r [] ≤ 64) := fun h => absurd h (by omega)
      clear h0
      go_wp2
      go_loopw [7, 8, 9] (fun q _ _ wr => ∃ k2 : Nat, k2 ≤ x.cases.n ∧ q = .int .i64 k2 ∧ Hid (firstC (x.cs.map (caseC d.p x.r k)) = firstC ((x.cs.drop k2).map (caseC d.p x.r k))) ∧ Hid (Below w1.heap.size w1 wr)) (fun q _ _ _ => x.cases.n - (intOf q).toNat)
      case atStart => exact ⟨0, Nat.zero_le _, rfl, rfl, HBZ⟩
      case round =>
        obtain ⟨k2, hk2, rfl, hgo, hbw⟩ := hrel
        clear HBZ
        have BW := hid (bl_step HBC.out hbw.out)
        have j0 := cell_keep j0 hbw.out
        have j1 := cell_keep j1 hbw.out
        have j2 := cell_keep j2 hbw.out
        have j3 := cell_keep j3 hbw.out
        have j4 := cell_keep j4 hbw.out
        have j5 := cell_keep j5 hbw.out
        have j6 := cell_keep j6 hbw.out
        have s0 := cell_keep s0 hbw.out
        have s1 := cell_keep s1 hbw.out
        have s2 := cell_keep s2 hbw.out
        have s3 := cell_keep s3 hbw.out
        have s4 := cell_keep s4 hbw.out
        by_cases hlt : k2 < x.cases.n
        · obtain ⟨cg, coff, c, ca, hc, ⟨q0, w0⟩, ⟨q1, w1'⟩, ⟨q2, _⟩⟩ := row_at (HROW.out.step CaseD.keeps BW.out) hlt
          have hki2 : (k2 : Int) < (x.cases.n : Int) := by omega
          have hst := first_drop (f := caseC d.p x.r k) hc
          have hv64 := bounds_u64 w0
          have hm64 := bounds_u64 w1'
          have hcr := case_ref (p := d.p) (r := x.r) (n := k) (c := c) (by omega) (by omega) (HW64.out (by omega))
          have hbo : ∀ o, Below wr.heap.size wr (wr.alloc o) := fun o => bl_alloc (Below.refl _ _)
          have HWI : Hid (∀ w', Calls Tryz.prog 118 #[.int .u64 c.mask, .int .i64 (d.p.width x.r [])] w' fun e w'' => e = .returned (.bool (decide (maskN (d.p.width x.r []) < c.mask))) ∧ w'' = w') := fun w' => wide_any c.mask _ w'
          have HLE : Hid (∀ w', Calls Tryz.prog 119 #[d.v, .int .i64 k, .int .i64 c.to] w' fun e w'' => e = .returned (.int .i64 (wayC d.p.ss.length k c.to)) ∧ Below w'.heap.size w' w'') := fun w' => by rw [ESS.out]; exact lead_any d k c.to w'
          unfold PlanD.v at HLE
          rw [ea] at HLE
          obtain rfl : xa = some ⟨cg, coff, none⟩ := by rw [← EXA.out]; exact ca
          clear ca
          have HBO := hid hbo
          have j0' : ∀ o, (wr.alloc o).cell? ⟨b0, 0, none⟩ = some (.slice d.heads.a d.heads.n d.heads.c) := fun o => cell_keep j0 (hbo o)
          have j1' : ∀ o, (wr.alloc o).cell? ⟨b0, 1, none⟩ = some (.slice d.mta.a d.mta.n d.mta.c) := fun o => cell_keep j1 (hbo o)
          have j2' : ∀ o, (wr.alloc o).cell? ⟨b0, 2, none⟩ = some (.slice (some ⟨g, off, none⟩) d.states.n d.states.c) := fun o => cell_keep j2 (hbo o)
          have j3' : ∀ o, (wr.alloc o).cell? ⟨b0, 3, none⟩ = some (.slice d.acts.a d.acts.n d.acts.c) := fun o => cell_keep j3 (hbo o)
          have j4' : ∀ o, (wr.alloc o).cell? ⟨b0, 4, none⟩ = some (.slice d.tabs.a d.tabs.n d.tabs.c) := fun o => cell_keep j4 (hbo o)
          have j5' : ∀ o, (wr.alloc o).cell? ⟨b0, 5, none⟩ = some (.slice d.nodes.a d.nodes.n d.nodes.c) := fun o => cell_keep j5 (hbo o)
          have j6' : ∀ o, (wr.alloc o).cell? ⟨b0, 6, none⟩ = some (.slice d.out.a d.out.n d.out.c) := fun o => cell_keep j6 (hbo o)
          have s0' : ∀ o, (wr.alloc o).cell? ⟨b1, 0, none⟩ = some (.int .i64 x.head) := fun o => cell_keep s0 (hbo o)
          have s1' : ∀ o, (wr.alloc o).cell? ⟨b1, 1, none⟩ = some (.int .i64 x.r.h) := fun o => cell_keep s1 (hbo o)
          have s2' : ∀ o, (wr.alloc o).cell? ⟨b1, 2, none⟩ = some (.int .i64 x.r.f) := fun o => cell_keep s2 (hbo o)
          have s3' : ∀ o, (wr.alloc o).cell? ⟨b1, 3, none⟩ = some (.slice (some ⟨cg, coff, none⟩) x.cases.n x.cases.c) := fun o => cell_keep s3 (hbo o)
          have s4' : ∀ o, (wr.alloc o).cell? ⟨b1, 4, none⟩ = some (.int .i64 x.els) := fun o => cell_keep s4 (hbo o)
          clear hc w0 w1' hbo
          generalize caseC d.p x.r k c = C at *
          generalize wayC d.p.ss.length k c.to = R at *
          generalize maskN (d.p.width x.r []) = M at *
          generalize hV : bits .and .u64 c.value c.mask = V at *
          clear hv64 hm64
          by_cases g1 : M < c.mask
          · have f1 := decide_eq_true g1
            have hC6 : C = 6 := by rw [hcr, if_pos (.inl g1)]
            have HG : Hid (stateC d.p k x.p = 6) := by show _ = _; rw [HRES.out, hgo.out, hst, if_pos (by rw [hC6]; decide), hC6]; rfl
            rw [f1] at HWI
            clear hst hgo hcr g1 hC6 HLE
            go_wp2_with fail
            refine (HWI.out _).mono ?_
            rintro e u1 ⟨rfl, rfl⟩
            have HE := hid (bl_step BW.out (HBO.out (.cells #[.int .u64 c.value, .int .u64 c.mask, .int .i64 c.to] 152)))
            clear HWI HBO BW
            go_wp2
            go_ret
            exact ⟨by rw [HG.out]; rfl, HE.out⟩
          have f1 := decide_eq_false g1
          rw [f1] at HWI
          by_cases g2 : V = c.value
          · have f2 : (V != c.value) = false := by simpa using g2
            have hCR : C = R := by rw [hcr, if_neg (fun h => h.elim g1 (fun h => h g2))]
            subst hCR
            by_cases gC : C = 0
            · have HG : Hid (firstC (x.cs.map (caseC d.p x.r k)) = firstC ((x.cs.drop (k2 + 1)).map (caseC d.p x.r k))) := by show _ = _; rw [hgo.out, hst, if_neg (by simpa using gC)]
              have fC : (C != 0) = false := by simpa using gC
              clear hst hgo hcr g1 g2
              go_wp2_with fail
              refine (HWI.out _).mono ?_
              rintro e u1 ⟨rfl, rfl⟩
              clear HWI
              go_wp2_with fail
              refine (HLE.out _).mono ?_
              rintro e u2 ⟨rfl, hb2⟩
              have HE := hid (bl_step (bl_step hbw.out (HBO.out _)) hb2)
              clear HLE hb2 HBO hbw BW
              go_wp2
              go_roundw
              case rel => exact ⟨k2 + 1, by omega, by go_num, HG, HE⟩
              case measure => simp [intOf]; omega
            · have HG : Hid (stateC d.p k x.p = C) := by show _ = _; rw [HRES.out, hgo.out, hst, if_pos gC]; unfold or2; rw [if_pos gC]
              have fC : (C != 0) = true := by simpa using gC
              clear hst hgo hcr g1 g2
              go_wp2_with fail
              refine (HWI.out _).mono ?_
              rintro e u1 ⟨rfl, rfl⟩
              clear HWI
              go_wp2_with fail
              refine (HLE.out _).mono ?_
              rintro e u2 ⟨rfl, hb2⟩
              have HE := hid (bl_step (bl_step BW.out (HBO.out _)) hb2)
              clear HLE hb2 HBO hbw BW
              go_wp2
              go_ret
              exact ⟨by rw [HG.out]; rfl, HE.out⟩
          · have f2 : (V != c.value) = true := by simpa using g2
            have hC6 : C = 6 := by rw [hcr, if_pos (.inr g2)]
            have HG : Hid (stateC d.p k x.p = 6) := by show _ = _; rw [HRES.out, hgo.out, hst, if_pos (by rw [hC6]; decide), hC6]; rfl
            clear hst hgo hcr g1 hC6 HLE
            go_wp2_with fail
            refine (HWI.out _).mono ?_
            rintro e u1 ⟨rfl, rfl⟩
            have HE := hid (bl_step BW.out (HBO.out (.cells #[.int .u64 c.value, .int .u64 c.mask, .int .i64 c.to] 152)))
            clear HWI HBO BW
            go_wp2
            go_ret
            exact ⟨by rw [HG.out]; rfl, HE.out⟩
        · have ek : k2 = x.cases.n := by omega
          have hki2 : ¬ (k2 : Int) < (x.cases.n : Int) := by omega
          have HG : Hid (stateC d.p k x.p = wayC d.p.ss.length k x.els) := by
            show _ = _
            have : firstC (x.cs.map (caseC d.p x.r k)) = 0 := by rw [hgo.out, ek, ← HCL.out, List.drop_length]; rfl
            rw [HRES.out, this]
            rfl
          clear hgo ek
          go_wp2_with fail
          refine (HEL.out _).mono ?_
          rintro e u2 ⟨rfl, hb2⟩
          have HE := hid (bl_step BW.out hb2)
          clear HEL hb2 hbw BW
          go_wp2
          go_ret
          exact ⟨by rw [HG.out]; rfl, HE.out⟩
  have bA : (x.head != -1) = true := by simpa using hA
  by_cases hH : 0 ≤ x.head ∧ x.head < (d.heads.n : Int)
  · have hn1 : ¬ (x.head ≠ -1 ∧ ¬ (0 ≤ x.head ∧ x.head < (d.p.hs.length : Int))) := fun h => h.2 (by rw [EHS.out]; exact hH)
    rw [if_neg hn1] at HRES
    rw [decide_eq_true hH] at HI
    clear hn1 hA hH
    by_cases h4 : (4 : Int) < (x.cases.n : Int)
    · have d4 := decide_eq_true h4
      rw [if_pos (by rw [HCL.out]; omega)] at HRES
      clear h4 HWO HEL
      go_enter Tryz.func56, Tryz.ntmps56
      go_wp2_with fail
      rw [← EW.out, ← E1.out, ← E0.out]
      refine (HI.out _).mono ?_
      rintro e u0 ⟨rfl, hb0⟩
      have HE := hid (bl_step HB.out hb0)
      have j0 := cell_keep j0 hb0
      have j1 := cell_keep j1 hb0
      have j2 := cell_keep j2 hb0
      have j3 := cell_keep j3 hb0
      have j4 := cell_keep j4 hb0
      have j5 := cell_keep j5 hb0
      have j6 := cell_keep j6 hb0
      have s0 := cell_keep s0 hb0
      have s1 := cell_keep s1 hb0
      have s2 := cell_keep s2 hb0
      have s3 := cell_keep s3 hb0
      have s4 := cell_keep s4 hb0
      clear HI hb0 HB
      go_wp2
      go_ret
      exact ⟨by rw [HRES.out]; rfl, HE.out⟩
    have d4 := decide_eq_false h4
    rw [if_neg (by rw [HCL.out]; omega)] at HRES
    have hcn : x.cases.n ≤ 4 := by omega
    clear h4
    go_enter Tryz.func56, Tryz.ntmps56
    go_wp2_with fail
    rw [← EW.out, ← E1.out, ← E0.out]
    refine (HI.out _).mono ?_
    rintro e u0 ⟨rfl, hb0⟩
    have HB := hid (bl_step HB.out hb0)
    have j0 := cell_keep j0 hb0
    have j1 := cell_keep j1 hb0
    have j2 := cell_keep j2 hb0
    have j3 := cell_keep j3 hb0
    have j4 := cell_keep j4 hb0
    have j5 := cell_keep j5 hb0
    have j6 := cell_keep j6 hb0
    have s0 := cell_keep s0 hb0
    have s1 := cell_keep s1 hb0
    have s2 := cell_keep s2 hb0
    have s3 := cell_keep s3 hb0
    have s4 := cell_keep s4 hb0
    clear HI hb0
    go_wp2_with fail
    refine (HWO.out _ HB.out).mono ?_
    rintro e w1 ⟨rfl, hb1⟩
    have HBC := hid (bl_step HB.out hb1)
    have j0 := cell_keep j0 hb1
    have j1 := cell_keep j1 hb1
    have j2 := cell_keep j2 hb1
    have j3 := cell_keep j3 hb1
    have j4 := cell_keep j4 hb1
    have j5 := cell_keep j5 hb1
    have j6 := cell_keep j6 hb1
    have s0 := cell_keep s0 hb1
    have s1 := cell_keep s1 hb1
    have s2 := cell_keep s2 hb1
    have s3 := cell_keep s3 hb1
    have s4 := cell_keep s4 hb1
    clear HWO hb1 HB
    have HBZ : Hid (Below w1.heap.size w1 w1) := Below.refl _ _
    by_cases h0 : (0 : Int) < (x.cases.n : Int)
    · have d0 : decide (0 < x.cases.n) = true := decide_eq_true (by omega)
      have d0i := decide_eq_true h0
      by_cases hw0 : d.p.width x.r [] = 0
      · rw [if_pos ⟨by rw [HCL.out]; omega, hw0⟩] at HRES
        have f0 : (d.p.width x.r [] == 0) = true := by simpa using hw0
        clear hw0 h0 HEL HBZ
        go_wp2
        go_ret
        exact ⟨by rw [HRES.out]; rfl, HBC.out⟩
      · rw [if_neg (fun h => hw0 h.2)] at HRES
        have f0 : (d.p.width x.r [] == 0) = false := by simpa using hw0
        have HW64 : Hid (0 < x.cases.n → 1 ≤ d.p.width x.r [] ∧ d.p.width x.r [] ≤ 64) := fun _ => by have := HPO.out x.r; omega
        clear hw0 h0
        go_wp2
        go_loopw [7, 8, 9] (fun q _ _ wr => ∃ k2 : Nat, k2 ≤ x.cases.n ∧ q = .int .i64 k2 ∧ Hid (firstC (x.cs.map (caseC d.p x.r k)) = firstC ((x.cs.drop k2).map (caseC d.p x.r k))) ∧ Hid (Below w1.heap.size w1 wr)) (fun q _ _ _ => x.cases.n - (intOf q).toNat)
        case atStart => exact ⟨0, Nat.zero_le _, rfl, rfl, HBZ⟩
        case round =>
          obtain ⟨k2, hk2, rfl, hgo, hbw⟩ := hrel
          clear HBZ
          have BW := hid (bl_step HBC.out hbw.out)
          have j0 := cell_keep j0 hbw.out
          have j1 := cell_keep j1 hbw.out
          have j2 := cell_keep j2 hbw.out
          have j3 := cell_keep j3 hbw.out
          have j4 := cell_keep j4 hbw.out
          have j5 := cell_keep j5 hbw.out
          have j6 := cell_keep j6 hbw.out
          have s0 := cell_keep s0 hbw.out
          have s1 := cell_keep s1 hbw.out
          have s2 := cell_keep s2 hbw.out
          have s3 := cell_keep s3 hbw.out
          have s4 := cell_keep s4 hbw.out
          by_cases hlt : k2 < x.cases.n
          · obtain ⟨cg, coff, c, ca, hc, ⟨q0, w0⟩, ⟨q1, w1'⟩, ⟨q2, _⟩⟩ := row_at (HROW.out.step CaseD.keeps BW.out) hlt
            have hki2 : (k2 : Int) < (x.cases.n : Int) := by omega
            have hst := first_drop (f := caseC d.p x.r k) hc
            have hv64 := bounds_u64 w0
            have hm64 := bounds_u64 w1'
            have hcr := case_ref (p := d.p) (r := x.r) (n := k) (c := c) (by omega) (by omega) (HW64.out (by omega))
            have hbo : ∀ o, Below wr.heap.size wr (wr.alloc o) := fun o => bl_alloc (Below.refl _ _)
            have HWI : Hid (∀ w', Calls Tryz.prog 118 #[.int .u64 c.mask, .int .i64 (d.p.width x.r [])] w' fun e w'' => e = .returned (.bool (decide (maskN (d.p.width x.r []) < c.mask))) ∧ w'' = w') := fun w' => wide_any c.mask _ w'
            have HLE : Hid (∀ w', Calls Tryz.prog 119 #[d.v, .int .i64 k, .int .i64 c.to] w' fun e w'' => e = .returned (.int .i64 (wayC d.p.ss.length k c.to)) ∧ Below w'.heap.size w' w'') := fun w' => by rw [ESS.out]; exact lead_any d k c.to w'
            unfold PlanD.v at HLE
            rw [ea] at HLE
            obtain rfl : xa = some ⟨cg, coff, none⟩ := by rw [← EXA.out]; exact ca
            clear ca
            have HBO := hid hbo
            have j0' : ∀ o, (wr.alloc o).cell? ⟨b0, 0, none⟩ = some (.slice d.heads.a d.heads.n d.heads.c) := fun o => cell_keep j0 (hbo o)
            have j1' : ∀ o, (wr.alloc o).cell? ⟨b0, 1, none⟩ = some (.slice d.mta.a d.mta.n d.mta.c) := fun o => cell_keep j1 (hbo o)
            have j2' : ∀ o, (wr.alloc o).cell? ⟨b0, 2, none⟩ = some (.slice (some ⟨g, off, none⟩) d.states.n d.states.c) := fun o => cell_keep j2 (hbo o)
            have j3' : ∀ o, (wr.alloc o).cell? ⟨b0, 3, none⟩ = some (.slice d.acts.a d.acts.n d.acts.c) := fun o => cell_keep j3 (hbo o)
            have j4' : ∀ o, (wr.alloc o).cell? ⟨b0, 4, none⟩ = some (.slice d.tabs.a d.tabs.n d.tabs.c) := fun o => cell_keep j4 (hbo o)
            have j5' : ∀ o, (wr.alloc o).cell? ⟨b0, 5, none⟩ = some (.slice d.nodes.a d.nodes.n d.nodes.c) := fun o => cell_keep j5 (hbo o)
            have j6' : ∀ o, (wr.alloc o).cell? ⟨b0, 6, none⟩ = some (.slice d.out.a d.out.n d.out.c) := fun o => cell_keep j6 (hbo o)
            have s0' : ∀ o, (wr.alloc o).cell? ⟨b1, 0, none⟩ = some (.int .i64 x.head) := fun o => cell_keep s0 (hbo o)
            have s1' : ∀ o, (wr.alloc o).cell? ⟨b1, 1, none⟩ = some (.int .i64 x.r.h) := fun o => cell_keep s1 (hbo o)
            have s2' : ∀ o, (wr.alloc o).cell? ⟨b1, 2, none⟩ = some (.int .i64 x.r.f) := fun o => cell_keep s2 (hbo o)
            have s3' : ∀ o, (wr.alloc o).cell? ⟨b1, 3, none⟩ = some (.slice (some ⟨cg, coff, none⟩) x.cases.n x.cases.c) := fun o => cell_keep s3 (hbo o)
            have s4' : ∀ o, (wr.alloc o).cell? ⟨b1, 4, none⟩ = some (.int .i64 x.els) := fun o => cell_keep s4 (hbo o)
            clear hc w0 w1' hbo
            generalize caseC d.p x.r k c = C at *
            generalize wayC d.p.ss.length k c.to = R at *
            generalize maskN (d.p.width x.r []) = M at *
            generalize hV : bits .and .u64 c.value c.mask = V at *
            clear hv64 hm64
            by_cases g1 : M < c.mask
            · have f1 := decide_eq_true g1
              have hC6 : C = 6 := by rw [hcr, if_pos (.inl g1)]
              have HG : Hid (stateC d.p k x.p = 6) := by show _ = _; rw [HRES.out, hgo.out, hst, if_pos (by rw [hC6]; decide), hC6]; rfl
              rw [f1] at HWI
              clear hst hgo hcr g1 hC6 HLE
              go_wp2_with fail
              refine (HWI.out _).mono ?_
              rintro e u1 ⟨rfl, rfl⟩
              have HE := hid (bl_step BW.out (HBO.out (.cells #[.int .u64 c.value, .int .u64 c.mask, .int .i64 c.to] 152)))
              clear HWI HBO BW
              go_wp2
              go_ret
              exact ⟨by rw [HG.out]; rfl, HE.out⟩
            have f1 := decide_eq_false g1
            rw [f1] at HWI
            by_cases g2 : V = c.value
            · have f2 : (V != c.value) = false := by simpa using g2
              have hCR : C = R := by rw [hcr, if_neg (fun h => h.elim g1 (fun h => h g2))]
              subst hCR
              by_cases gC : C = 0
              · have HG : Hid (firstC (x.cs.map (caseC d.p x.r k)) = firstC ((x.cs.drop (k2 + 1)).map (caseC d.p x.r k))) := by show _ = _; rw [hgo.out, hst, if_neg (by simpa using gC)]
                have fC : (C != 0) = false := by simpa using gC
                clear hst hgo hcr g1 g2
                go_wp2_with fail
                refine (HWI.out _).mono ?_
                rintro e u1 ⟨rfl, rfl⟩
                clear HWI
                go_wp2_with fail
                refine (HLE.out _).mono ?_
                rintro e u2 ⟨rfl, hb2⟩
                have HE := hid (bl_step (bl_step hbw.out (HBO.out _)) hb2)
                clear HLE hb2 HBO hbw BW
                go_wp2
                go_roundw
                case rel => exact ⟨k2 + 1, by omega, by go_num, HG, HE⟩
                case measure => simp [intOf]; omega
              · have HG : Hid (stateC d.p k x.p = C) := by show _ = _; rw [HRES.out, hgo.out, hst, if_pos gC]; unfold or2; rw [if_pos gC]
                have fC : (C != 0) = true := by simpa using gC
                clear hst hgo hcr g1 g2
                go_wp2_with fail
                refine (HWI.out _).mono ?_
                rintro e u1 ⟨rfl, rfl⟩
                clear HWI
                go_wp2_with fail
                refine (HLE.out _).mono ?_
                rintro e u2 ⟨rfl, hb2⟩
                have HE := hid (bl_step (bl_step BW.out (HBO.out _)) hb2)
                clear HLE hb2 HBO hbw BW
                go_wp2
                go_ret
                exact ⟨by rw [HG.out]; rfl, HE.out⟩
            · have f2 : (V != c.value) = true := by simpa using g2
              have hC6 : C = 6 := by rw [hcr, if_pos (.inr g2)]
              have HG : Hid (stateC d.p k x.p = 6) := by show _ = _; rw [HRES.out, hgo.out, hst, if_pos (by rw [hC6]; decide), hC6]; rfl
              clear hst hgo hcr g1 hC6 HLE
              go_wp2_with fail
              refine (HWI.out _).mono ?_
              rintro e u1 ⟨rfl, rfl⟩
              have HE := hid (bl_step BW.out (HBO.out (.cells #[.int .u64 c.value, .int .u64 c.mask, .int .i64 c.to] 152)))
              clear HWI HBO BW
              go_wp2
              go_ret
              exact ⟨by rw [HG.out]; rfl, HE.out⟩
          · have ek : k2 = x.cases.n := by omega
            have hki2 : ¬ (k2 : Int) < (x.cases.n : Int) := by omega
            have HG : Hid (stateC d.p k x.p = wayC d.p.ss.length k x.els) := by
              show _ = _
              have : firstC (x.cs.map (caseC d.p x.r k)) = 0 := by rw [hgo.out, ek, ← HCL.out, List.drop_length]; rfl
              rw [HRES.out, this]
              rfl
            clear hgo ek
            go_wp2_with fail
            refine (HEL.out _).mono ?_
            rintro e u2 ⟨rfl, hb2⟩
            have HE := hid (bl_step BW.out hb2)
            clear HEL hb2 hbw BW
            go_wp2
            go_ret
            exact ⟨by rw [HG.out]; rfl, HE.out⟩
    · have d0 : decide (0 < x.cases.n) = false := decide_eq_false (by omega)
      have d0i := decide_eq_false h0
      rw [if_neg (fun h => h0 (by have := h.1; rw [HCL.out] at this; omega))] at HRES
      have HW64 : Hid (0 < x.cases.n → 1 ≤ d.p.width x.r [] ∧ d.p.width x.r [] ≤ 64) := fun h => absurd h (by omega)
      clear h0
      go_wp2
      go_loopw [7, 8, 9] (fun q _ _ wr => ∃ k2 : Nat, k2 ≤ x.cases.n ∧ q = .int .i64 k2 ∧ Hid (firstC (x.cs.map (caseC d.p x.r k)) = firstC ((x.cs.drop k2).map (caseC d.p x.r k))) ∧ Hid (Below w1.heap.size w1 wr)) (fun q _ _ _ => x.cases.n - (intOf q).toNat)
      case atStart => exact ⟨0, Nat.zero_le _, rfl, rfl, HBZ⟩
      case round =>
        obtain ⟨k2, hk2, rfl, hgo, hbw⟩ := hrel
        clear HBZ
        have BW := hid (bl_step HBC.out hbw.out)
        have j0 := cell_keep j0 hbw.out
        have j1 := cell_keep j1 hbw.out
        have j2 := cell_keep j2 hbw.out
        have j3 := cell_keep j3 hbw.out
        have j4 := cell_keep j4 hbw.out
        have j5 := cell_keep j5 hbw.out
        have j6 := cell_keep j6 hbw.out
        have s0 := cell_keep s0 hbw.out
        have s1 := cell_keep s1 hbw.out
        have s2 := cell_keep s2 hbw.out
        have s3 := cell_keep s3 hbw.out
        have s4 := cell_keep s4 hbw.out
        by_cases hlt : k2 < x.cases.n
        · obtain ⟨cg, coff, c, ca, hc, ⟨q0, w0⟩, ⟨q1, w1'⟩, ⟨q2, _⟩⟩ := row_at (HROW.out.step CaseD.keeps BW.out) hlt
          have hki2 : (k2 : Int) < (x.cases.n : Int) := by omega
          have hst := first_drop (f := caseC d.p x.r k) hc
          have hv64 := bounds_u64 w0
          have hm64 := bounds_u64 w1'
          have hcr := case_ref (p := d.p) (r := x.r) (n := k) (c := c) (by omega) (by omega) (HW64.out (by omega))
          have hbo : ∀ o, Below wr.heap.size wr (wr.alloc o) := fun o => bl_alloc (Below.refl _ _)
          have HWI : Hid (∀ w', Calls Tryz.prog 118 #[.int .u64 c.mask, .int .i64 (d.p.width x.r [])] w' fun e w'' => e = .returned (.bool (decide (maskN (d.p.width x.r []) < c.mask))) ∧ w'' = w') := fun w' => wide_any c.mask _ w'
          have HLE : Hid (∀ w', Calls Tryz.prog 119 #[d.v, .int .i64 k, .int .i64 c.to] w' fun e w'' => e = .returned (.int .i64 (wayC d.p.ss.length k c.to)) ∧ Below w'.heap.size w' w'') := fun w' => by rw [ESS.out]; exact lead_any d k c.to w'
          unfold PlanD.v at HLE
          rw [ea] at HLE
          obtain rfl : xa = some ⟨cg, coff, none⟩ := by rw [← EXA.out]; exact ca
          clear ca
          have HBO := hid hbo
          have j0' : ∀ o, (wr.alloc o).cell? ⟨b0, 0, none⟩ = some (.slice d.heads.a d.heads.n d.heads.c) := fun o => cell_keep j0 (hbo o)
          have j1' : ∀ o, (wr.alloc o).cell? ⟨b0, 1, none⟩ = some (.slice d.mta.a d.mta.n d.mta.c) := fun o => cell_keep j1 (hbo o)
          have j2' : ∀ o, (wr.alloc o).cell? ⟨b0, 2, none⟩ = some (.slice (some ⟨g, off, none⟩) d.states.n d.states.c) := fun o => cell_keep j2 (hbo o)
          have j3' : ∀ o, (wr.alloc o).cell? ⟨b0, 3, none⟩ = some (.slice d.acts.a d.acts.n d.acts.c) := fun o => cell_keep j3 (hbo o)
          have j4' : ∀ o, (wr.alloc o).cell? ⟨b0, 4, none⟩ = some (.slice d.tabs.a d.tabs.n d.tabs.c) := fun o => cell_keep j4 (hbo o)
          have j5' : ∀ o, (wr.alloc o).cell? ⟨b0, 5, none⟩ = some (.slice d.nodes.a d.nodes.n d.nodes.c) := fun o => cell_keep j5 (hbo o)
          have j6' : ∀ o, (wr.alloc o).cell? ⟨b0, 6, none⟩ = some (.slice d.out.a d.out.n d.out.c) := fun o => cell_keep j6 (hbo o)
          have s0' : ∀ o, (wr.alloc o).cell? ⟨b1, 0, none⟩ = some (.int .i64 x.head) := fun o => cell_keep s0 (hbo o)
          have s1' : ∀ o, (wr.alloc o).cell? ⟨b1, 1, none⟩ = some (.int .i64 x.r.h) := fun o => cell_keep s1 (hbo o)
          have s2' : ∀ o, (wr.alloc o).cell? ⟨b1, 2, none⟩ = some (.int .i64 x.r.f) := fun o => cell_keep s2 (hbo o)
          have s3' : ∀ o, (wr.alloc o).cell? ⟨b1, 3, none⟩ = some (.slice (some ⟨cg, coff, none⟩) x.cases.n x.cases.c) := fun o => cell_keep s3 (hbo o)
          have s4' : ∀ o, (wr.alloc o).cell? ⟨b1, 4, none⟩ = some (.int .i64 x.els) := fun o => cell_keep s4 (hbo o)
          clear hc w0 w1' hbo
          generalize caseC d.p x.r k c = C at *
          generalize wayC d.p.ss.length k c.to = R at *
          generalize maskN (d.p.width x.r []) = M at *
          generalize hV : bits .and .u64 c.value c.mask = V at *
          clear hv64 hm64
          by_cases g1 : M < c.mask
          · have f1 := decide_eq_true g1
            have hC6 : C = 6 := by rw [hcr, if_pos (.inl g1)]
            have HG : Hid (stateC d.p k x.p = 6) := by show _ = _; rw [HRES.out, hgo.out, hst, if_pos (by rw [hC6]; decide), hC6]; rfl
            rw [f1] at HWI
            clear hst hgo hcr g1 hC6 HLE
            go_wp2_with fail
            refine (HWI.out _).mono ?_
            rintro e u1 ⟨rfl, rfl⟩
            have HE := hid (bl_step BW.out (HBO.out (.cells #[.int .u64 c.value, .int .u64 c.mask, .int .i64 c.to] 152)))
            clear HWI HBO BW
            go_wp2
            go_ret
            exact ⟨by rw [HG.out]; rfl, HE.out⟩
          have f1 := decide_eq_false g1
          rw [f1] at HWI
          by_cases g2 : V = c.value
          · have f2 : (V != c.value) = false := by simpa using g2
            have hCR : C = R := by rw [hcr, if_neg (fun h => h.elim g1 (fun h => h g2))]
            subst hCR
            by_cases gC : C = 0
            · have HG : Hid (firstC (x.cs.map (caseC d.p x.r k)) = firstC ((x.cs.drop (k2 + 1)).map (caseC d.p x.r k))) := by show _ = _; rw [hgo.out, hst, if_neg (by simpa using gC)]
              have fC : (C != 0) = false := by simpa using gC
              clear hst hgo hcr g1 g2
              go_wp2_with fail
              refine (HWI.out _).mono ?_
              rintro e u1 ⟨rfl, rfl⟩
              clear HWI
              go_wp2_with fail
              refine (HLE.out _).mono ?_
              rintro e u2 ⟨rfl, hb2⟩
              have HE := hid (bl_step (bl_step hbw.out (HBO.out _)) hb2)
              clear HLE hb2 HBO hbw BW
              go_wp2
              go_roundw
              case rel => exact ⟨k2 + 1, by omega, by go_num, HG, HE⟩
              case measure => simp [intOf]; omega
            · have HG : Hid (stateC d.p k x.p = C) := by show _ = _; rw [HRES.out, hgo.out, hst, if_pos gC]; unfold or2; rw [if_pos gC]
              have fC : (C != 0) = true := by simpa using gC
              clear hst hgo hcr g1 g2
              go_wp2_with fail
              refine (HWI.out _).mono ?_
              rintro e u1 ⟨rfl, rfl⟩
              clear HWI
              go_wp2_with fail
              refine (HLE.out _).mono ?_
              rintro e u2 ⟨rfl, hb2⟩
              have HE := hid (bl_step (bl_step BW.out (HBO.out _)) hb2)
              clear HLE hb2 HBO hbw BW
              go_wp2
              go_ret
              exact ⟨by rw [HG.out]; rfl, HE.out⟩
          · have f2 : (V != c.value) = true := by simpa using g2
            have hC6 : C = 6 := by rw [hcr, if_pos (.inr g2)]
            have HG : Hid (stateC d.p k x.p = 6) := by show _ = _; rw [HRES.out, hgo.out, hst, if_pos (by rw [hC6]; decide), hC6]; rfl
            clear hst hgo hcr g1 hC6 HLE
            go_wp2_with fail
            refine (HWI.out _).mono ?_
            rintro e u1 ⟨rfl, rfl⟩
            have HE := hid (bl_step BW.out (HBO.out (.cells #[.int .u64 c.value, .int .u64 c.mask, .int .i64 c.to] 152)))
            clear HWI HBO BW
            go_wp2
            go_ret
            exact ⟨by rw [HG.out]; rfl, HE.out⟩
        · have ek : k2 = x.cases.n := by omega
          have hki2 : ¬ (k2 : Int) < (x.cases.n : Int) := by omega
          have HG : Hid (stateC d.p k x.p = wayC d.p.ss.length k x.els) := by
            show _ = _
            have : firstC (x.cs.map (caseC d.p x.r k)) = 0 := by rw [hgo.out, ek, ← HCL.out, List.drop_length]; rfl
            rw [HRES.out, this]
            rfl
          clear hgo ek
          go_wp2_with fail
          refine (HEL.out _).mono ?_
          rintro e u2 ⟨rfl, hb2⟩
          have HE := hid (bl_step BW.out hb2)
          clear HEL hb2 hbw BW
          go_wp2
          go_ret
          exact ⟨by rw [HG.out]; rfl, HE.out⟩
  · have hn1 : x.head ≠ -1 ∧ ¬ (0 ≤ x.head ∧ x.head < (d.p.hs.length : Int)) := ⟨hA, by rw [EHS.out]; exact hH⟩
    rw [if_pos hn1] at HRES
    rw [decide_eq_false hH] at HI
    clear hn1 hA hH HWO HEL
    go_enter Tryz.func56, Tryz.ntmps56
    go_wp2_with fail
    rw [← EW.out, ← E1.out, ← E0.out]
    refine (HI.out _).mono ?_
    rintro e u0 ⟨rfl, hb0⟩
    have HE := hid (bl_step HB.out hb0)
    clear HI hb0 HB
    go_wp2
    go_ret
    exact ⟨by rw [HRES.out]; rfl, HE.out⟩
end Go.Proofs.YtlnkfgdepddmladGreat
