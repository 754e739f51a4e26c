/- Texts of one chain, joined: ZRdE. -/
import Derived.Test.YtedeiaokohdhpaaGreatG7
namespace Go.Proofs.YtedeiaokohdhpaaGreat
open Go.RowKit
set_option maxHeartbeats 4000000 in
set_option maxRecDepth 20000 in
theorem rdeed {p : Nat} {a : Option Addr} {c : Nat} {zs : List Int} {t : Nat} {w : World} (h : Rd p a c zs t w) :
    Calls Tryz.prog 151 #[.pointer (some ⟨p, 0, none⟩)] w (RDone p a c zs (DeedV w) (deedR zs t) w) := by
  obtain ⟨W1, eW⟩ : ∃ W1, W1 = w.alloc (.cells #[.int .i64 0, .int .i64 0, .int .i64 0, .int .i64 0, .slice none 0 0] 59) := ⟨_, rfl⟩
  obtain ⟨bx, ebx⟩ : ∃ b, b = w.heap.size := ⟨_, rfl⟩
  have hpw : p < w.heap.size := World.block_lt_of_cell? _ _ h.c0
  have S0 : Hid (RSt p a c zs 59 bx w t [.int .i64 0, .int .i64 0, .int .i64 0, .int .i64 0, .slice none 0 0] W1) := by rw [eW, ebx]; exact RSt.start h _ _
  have HBX : Hid (bx < W1.heap.size ∧ p < W1.heap.size ∧ w.heap.size ≤ W1.heap.size) := ⟨S0.out.box.lt, Nat.lt_of_lt_of_le hpw S0.out.rn.size, S0.out.rn.size⟩
  have HS0 : Hid (W1.heap.size ≤ W1.heap.size) := Nat.le_refl _
  have HF0 := hid (rnumber S0.out.rd)
  have E0 : Hid (deedR zs t = deedR zs t) := rfl
  have WZ : Hid ((Lit.int .i64 0).wf = true) := by show _ = true; decide
  have EW := hid eW
  have EB := hid ebx
  clear h eW ebx hpw
  go_enter Tryz.func151, Tryz.ntmps151
  go_wp2_with fail
  rw [← EW.out, ← EB.out]
  clear EW EB
  refine HF0.out.mono ?_
  rintro e w1 ⟨hn, hr⟩
  cases hq : numR zs t with
  | error e =>
    rw [hq] at hr
    obtain rfl := hr
    exact panic_out (P := Tryz.prog) (fn := Tryz.f151) (by unfold deedR; rw [hq]; exact ⟨S0.out.rn.trans hn, rfl⟩) rfl
  | ok y =>
    obtain ⟨x1, u1⟩ := y
    rw [hq] at hr
    obtain ⟨_, rfl, ⟨rfl, hw⟩, hr⟩ := hr
    have T0 := S0.out.read hn hr
    have HW1 := hid hw
    have b0 := T0.box.cell (i := 0) rfl
    have z0 := T0.box.fz 0
    have l0 := T0.box.lt
    obtain ⟨V1, eV1⟩ : ∃ W, W = (w1.setCell ⟨bx, 0, none⟩ (.int .i64 x1)) := ⟨_, rfl⟩
    have HS1 : Hid (W1.heap.size ≤ V1.heap.size) := by
      have h1 : W1.heap.size ≤ w1.heap.size := Nat.le_trans HS0.out hn.size
      show W1.heap.size ≤ V1.heap.size
      rw [eV1]
      simpa [World.setCell] using h1
    have S1 : Hid (RSt p a c zs 59 bx w u1 [.int .i64 x1, .int .i64 0, .int .i64 0, .int .i64 0, .slice none 0 0] V1) := by rw [eV1]; exact (T0.put 0 (.int .i64 x1) rfl (fun n h => by cases h))
    have Q1 := hid hq
    have EV := hid eV1
    clear HF0 hn hr hq T0 eV1 S0 hw
    go_upto_region 2 with fail
    rw [← EV.out]
    clear EV b0 z0 l0
    have c0 := S1.out.box.cell (i := 0) rfl
    have lc := S1.out.box.lt
    by_cases h1 : x1 = 1
    · have HH := hid h1
      have d0 := c0
      rw [h1] at d0
      clear c0 h1
      have HF1 := hid (rfield S1.out.rd)
      go_wp2_with fail
      refine HF1.out.mono ?_
      rintro e w2 ⟨hn, hr⟩
      cases hq : fieldR zs u1 with
      | error e =>
        rw [hq] at hr
        obtain rfl := hr
        exact panic_out (P := Tryz.prog) (fn := Tryz.f151) (by unfold deedR; rw [Q1.out]; unfold thenR; dsimp only; rw [if_pos HH.out]; rw [hq]; exact ⟨S1.out.rn.trans hn, rfl⟩) rfl
      | ok y =>
        obtain ⟨⟨x2a, x2b⟩, u2⟩ := y
        rw [hq] at hr
        obtain ⟨_, rfl, ⟨rfl, hw⟩, hr⟩ := hr
        dsimp only at hw
        have T1 := S1.out.read hn hr
        have HW2 := hid hw
        have b0 := T1.box.cell (i := 1) rfl
        have z0 := T1.box.fz 1
        have b1 := T1.box.cell (i := 2) rfl
        have z1 := T1.box.fz 2
        have l0 := T1.box.lt
        obtain ⟨V2, eV2⟩ : ∃ W, W = ((w2.setCell ⟨bx, 1, none⟩ (.int .i64 x2a)).setCell ⟨bx, 2, none⟩ (.int .i64 x2b)) := ⟨_, rfl⟩
        have HS2 : Hid (W1.heap.size ≤ V2.heap.size) := by
          have h1 : W1.heap.size ≤ w2.heap.size := Nat.le_trans HS1.out hn.size
          show W1.heap.size ≤ V2.heap.size
          rw [eV2]
          simpa [World.setCell] using h1
        have S2 : Hid (RSt p a c zs 59 bx w u2 [.int .i64 x1, .int .i64 x2a, .int .i64 x2b, .int .i64 0, .slice none 0 0] V2) := by rw [eV2]; exact ((T1.put 1 (.int .i64 x2a) rfl (fun n h => by cases h)).put 2 (.int .i64 x2b) rfl (fun n h => by cases h))
        have Q2 := hid hq
        have EV := hid eV2
        clear HF1 hn hr hq T1 eV2 S1 hw
        have HF2 := hid (rtree S2.out.rd)
        go_wp2_with fail
        rw [← EV.out]
        clear EV b0 z0 b1 z1 l0
        refine HF2.out.mono ?_
        rintro e w3 ⟨hn, hr⟩
        cases hq : listC zs (stepR zs) u2 with
        | error e =>
          rw [hq] at hr
          obtain rfl := hr
          exact panic_out (P := Tryz.prog) (fn := Tryz.f151) (by unfold deedR; rw [Q1.out]; unfold thenR; dsimp only; rw [if_pos HH.out]; rw [Q2.out]; dsimp only; rw [hq]; exact ⟨S2.out.rn.trans hn, rfl⟩) rfl
        | ok y =>
          obtain ⟨x3, u3⟩ := y
          rw [hq] at hr
          obtain ⟨_, rfl, ⟨g3, rfl, hv⟩, hr⟩ := hr
          have hv : PushsV V2 x3 w3 (.slice (some ⟨g3, 0, none⟩) x3.length x3.length) := ⟨g3, rfl, hv⟩
          have T2 := S2.out.read hn hr
          have K3 := hid (hv.low (w0 := W1) HS2.out)
          have b0 := T2.box.cell (i := 4) rfl
          have z0 := T2.box.fz 4
          have l0 := T2.box.lt
          obtain ⟨V3, eV3⟩ : ∃ W, W = (w3.setCell ⟨bx, 4, none⟩ (.slice (some ⟨g3, 0, none⟩) x3.length x3.length)) := ⟨_, rfl⟩
          have HS3 : Hid (W1.heap.size ≤ V3.heap.size) := by
            have h1 : W1.heap.size ≤ w3.heap.size := Nat.le_trans HS2.out hn.size
            show W1.heap.size ≤ V3.heap.size
            rw [eV3]
            simpa [World.setCell] using h1
          have S3 : Hid (RSt p a c zs 59 bx w u3 [.int .i64 x1, .int .i64 x2a, .int .i64 x2b, .int .i64 0, .slice (some ⟨g3, 0, none⟩) x3.length x3.length] V3) := by rw [eV3]; exact (T2.put 4 (.slice (some ⟨g3, 0, none⟩) x3.length x3.length) rfl (fun n h => by cases h))
          have K3 : Hid (PushsV W1 x3 V3 (.slice (some ⟨g3, 0, none⟩) x3.length x3.length)) := by rw [eV3]; exact (K3.out.keep (set_keep HBX.out.1 4 (.slice (some ⟨g3, 0, none⟩) x3.length x3.length)))
          have Q3 := hid hq
          have EV := hid eV3
          clear HF2 hn hr hq T2 eV3 S2 hv
          go_upto_region 14 with fail
          rw [← EV.out]
          clear EV b0 z0 l0
          have S9 := (((((S3.out.put 0 (.int .i64 x1) rfl (fun n h => by cases h)).put 1 (.int .i64 x2a) rfl (fun n h => by cases h)).put 2 (.int .i64 x2b) rfl (fun n h => by cases h)).put 3 (.int .i64 0) rfl (fun n h => by cases h)).put 4 (.slice (some ⟨g3, 0, none⟩) x3.length x3.length) rfl (fun n h => by cases h))
          have HE : Hid (RDone p a c zs (DeedV w) (deedR zs t) w (.returned (.agg #[.int .i64 x1, .int .i64 x2a, .int .i64 x2b, .int .i64 0, .slice (some ⟨g3, 0, none⟩) x3.length x3.length])) (((((V3.setCell ⟨bx, 0, none⟩ (.int .i64 x1)).setCell ⟨bx, 1, none⟩ (.int .i64 x2a)).setCell ⟨bx, 2, none⟩ (.int .i64 x2b)).setCell ⟨bx, 3, none⟩ (.int .i64 0)).setCell ⟨bx, 4, none⟩ (.slice (some ⟨g3, 0, none⟩) x3.length x3.length))) := by
            show RDone _ _ _ _ _ _ _ _ _
            unfold deedR; rw [Q1.out]; unfold thenR; dsimp only; rw [if_pos HH.out]; rw [Q2.out]; dsimp only; rw [Q3.out]; dsimp only
            exact ⟨S9.rn, _, rfl, ⟨_, rfl, ((((((K3.out.keep (set_keep HBX.out.1 0 (.int .i64 x1))).keep (set_keep HBX.out.1 1 (.int .i64 x2a))).keep (set_keep HBX.out.1 2 (.int .i64 x2b))).keep (set_keep HBX.out.1 3 (.int .i64 0))).keep (set_keep HBX.out.1 4 (.slice (some ⟨g3, 0, none⟩) x3.length x3.length))).low HBX.out.2.2), HW1.out, HW2.out.1, HW2.out.2, WZ.out⟩, S9.rd⟩
          have b0 := S3.out.box.cell (i := 0) rfl
          have z0 := S3.out.box.fz 0
          have b1 := S3.out.box.cell (i := 1) rfl
          have z1 := S3.out.box.fz 1
          have b2 := S3.out.box.cell (i := 2) rfl
          have z2 := S3.out.box.fz 2
          have b3 := S3.out.box.cell (i := 3) rfl
          have z3 := S3.out.box.fz 3
          have b4 := S3.out.box.cell (i := 4) rfl
          have z4 := S3.out.box.fz 4
          have l0 := S3.out.box.lt
          clear S9 S3 d0 lc K3
          go_wp2
          exact bodyPost_ret (v := .agg #[.int .i64 x1, .int .i64 x2a, .int .i64 x2b, .int .i64 0, .slice (some ⟨g3, 0, none⟩) x3.length x3.length]) (by simp [results, Tryz.results151, go_sem, *]) rfl HE.out
    have d1 : (x1 == 1) = false := by simpa using h1
    by_cases h2 : x1 = 2
    · have HH := hid h2
      have d0 := c0
      rw [h2] at d0
      have N1 := hid h1
      clear c0 h2 h1 d1
      have HF1 := hid (rnumber S1.out.rd)
      go_wp2_with fail
      refine HF1.out.mono ?_
      rintro e w2 ⟨hn, hr⟩
      cases hq : numR zs u1 with
      | error e =>
        rw [hq] at hr
        obtain rfl := hr
        exact panic_out (P := Tryz.prog) (fn := Tryz.f151) (by unfold deedR; rw [Q1.out]; unfold thenR; dsimp only; rw [if_neg N1.out, if_pos HH.out]; rw [hq]; exact ⟨S1.out.rn.trans hn, rfl⟩) rfl
      | ok y =>
        obtain ⟨x2, u2⟩ := y
        rw [hq] at hr
        obtain ⟨_, rfl, ⟨rfl, hw⟩, hr⟩ := hr
        have T1 := S1.out.read hn hr
        have HW2 := hid hw
        have b0 := T1.box.cell (i := 3) rfl
        have z0 := T1.box.fz 3
        have l0 := T1.box.lt
        obtain ⟨V2, eV2⟩ : ∃ W, W = (w2.setCell ⟨bx, 3, none⟩ (.int .i64 x2)) := ⟨_, rfl⟩
        have HS2 : Hid (W1.heap.size ≤ V2.heap.size) := by
          have h1 : W1.heap.size ≤ w2.heap.size := Nat.le_trans HS1.out hn.size
          show W1.heap.size ≤ V2.heap.size
          rw [eV2]
          simpa [World.setCell] using h1
        have S2 : Hid (RSt p a c zs 59 bx w u2 [.int .i64 x1, .int .i64 0, .int .i64 0, .int .i64 x2, .slice none 0 0] V2) := by rw [eV2]; exact (T1.put 3 (.int .i64 x2) rfl (fun n h => by cases h))
        have Q2 := hid hq
        have EV := hid eV2
        clear HF1 hn hr hq T1 eV2 S1 hw
        go_upto_region 14 with fail
        rw [← EV.out]
        clear EV b0 z0 l0
        have S9 := (((((S2.out.put 0 (.int .i64 x1) rfl (fun n h => by cases h)).put 1 (.int .i64 0) rfl (fun n h => by cases h)).put 2 (.int .i64 0) rfl (fun n h => by cases h)).put 3 (.int .i64 x2) rfl (fun n h => by cases h)).put 4 (.slice none 0 0) rfl (fun n h => by cases h))
        have HE : Hid (RDone p a c zs (DeedV w) (deedR zs t) w (.returned (.agg #[.int .i64 x1, .int .i64 0, .int .i64 0, .int .i64 x2, .slice none 0 0])) (((((V2.setCell ⟨bx, 0, none⟩ (.int .i64 x1)).setCell ⟨bx, 1, none⟩ (.int .i64 0)).setCell ⟨bx, 2, none⟩ (.int .i64 0)).setCell ⟨bx, 3, none⟩ (.int .i64 x2)).setCell ⟨bx, 4, none⟩ (.slice none 0 0))) := by
          show RDone _ _ _ _ _ _ _ _ _
          unfold deedR; rw [Q1.out]; unfold thenR; dsimp only; rw [if_neg N1.out, if_pos HH.out]; rw [Q2.out]; dsimp only
          exact ⟨S9.rn, _, rfl, ⟨_, rfl, rfl, HW1.out, WZ.out, WZ.out, HW2.out⟩, S9.rd⟩
        have b0 := S2.out.box.cell (i := 0) rfl
        have z0 := S2.out.box.fz 0
        have b1 := S2.out.box.cell (i := 1) rfl
        have z1 := S2.out.box.fz 1
        have b2 := S2.out.box.cell (i := 2) rfl
        have z2 := S2.out.box.fz 2
        have b3 := S2.out.box.cell (i := 3) rfl
        have z3 := S2.out.box.fz 3
        have b4 := S2.out.box.cell (i := 4) rfl
        have z4 := S2.out.box.fz 4
        have l0 := S2.out.box.lt
        clear S9 S2 d0 lc
        go_wp2
        exact bodyPost_ret (v := .agg #[.int .i64 x1, .int .i64 0, .int .i64 0, .int .i64 x2, .slice none 0 0]) (by simp [results, Tryz.results151, go_sem, *]) rfl HE.out
    have d2 : (x1 == 2) = false := by simpa using h2
    by_cases h3 : x1 = 3
    · have HH := hid h3
      have d0 := c0
      rw [h3] at d0
      have N1 := hid h1
      have N2 := hid h2
      clear c0 h3 h1 d1 h2 d2
      have HF1 := hid (rnumber S1.out.rd)
      go_wp2_with fail
      refine HF1.out.mono ?_
      rintro e w2 ⟨hn, hr⟩
      cases hq : numR zs u1 with
      | error e =>
        rw [hq] at hr
        obtain rfl := hr
        exact panic_out (P := Tryz.prog) (fn := Tryz.f151) (by unfold deedR; rw [Q1.out]; unfold thenR; dsimp only; rw [if_neg N1.out, if_neg N2.out, if_pos HH.out]; rw [hq]; exact ⟨S1.out.rn.trans hn, rfl⟩) rfl
      | ok y =>
        obtain ⟨x2, u2⟩ := y
        rw [hq] at hr
        obtain ⟨_, rfl, ⟨rfl, hw⟩, hr⟩ := hr
        have T1 := S1.out.read hn hr
        have HW2 := hid hw
        have b0 := T1.box.cell (i := 3) rfl
        have z0 := T1.box.fz 3
        have l0 := T1.box.lt
        obtain ⟨V2, eV2⟩ : ∃ W, W = (w2.setCell ⟨bx, 3, none⟩ (.int .i64 x2)) := ⟨_, rfl⟩
        have HS2 : Hid (W1.heap.size ≤ V2.heap.size) := by
          have h1 : W1.heap.size ≤ w2.heap.size := Nat.le_trans HS1.out hn.size
          show W1.heap.size ≤ V2.heap.size
          rw [eV2]
          simpa [World.setCell] using h1
        have S2 : Hid (RSt p a c zs 59 bx w u2 [.int .i64 x1, .int .i64 0, .int .i64 0, .int .i64 x2, .slice none 0 0] V2) := by rw [eV2]; exact (T1.put 3 (.int .i64 x2) rfl (fun n h => by cases h))
        have Q2 := hid hq
        have EV := hid eV2
        clear HF1 hn hr hq T1 eV2 S1 hw
        go_upto_region 14 with fail
        rw [← EV.out]
        clear EV b0 z0 l0
        have S9 := (((((S2.out.put 0 (.int .i64 x1) rfl (fun n h => by cases h)).put 1 (.int .i64 0) rfl (fun n h => by cases h)).put 2 (.int .i64 0) rfl (fun n h => by cases h)).put 3 (.int .i64 x2) rfl (fun n h => by cases h)).put 4 (.slice none 0 0) rfl (fun n h => by cases h))
        have HE : Hid (RDone p a c zs (DeedV w) (deedR zs t) w (.returned (.agg #[.int .i64 x1, .int .i64 0, .int .i64 0, .int .i64 x2, .slice none 0 0])) (((((V2.setCell ⟨bx, 0, none⟩ (.int .i64 x1)).setCell ⟨bx, 1, none⟩ (.int .i64 0)).setCell ⟨bx, 2, none⟩ (.int .i64 0)).setCell ⟨bx, 3, none⟩ (.int .i64 x2)).setCell ⟨bx, 4, none⟩ (.slice none 0 0))) := by
          show RDone _ _ _ _ _ _ _ _ _
          unfold deedR; rw [Q1.out]; unfold thenR; dsimp only; rw [if_neg N1.out, if_neg N2.out, if_pos HH.out]; rw [Q2.out]; dsimp only
          exact ⟨S9.rn, _, rfl, ⟨_, rfl, rfl, HW1.out, WZ.out, WZ.out, HW2.out⟩, S9.rd⟩
        have b0 := S2.out.box.cell (i := 0) rfl
        have z0 := S2.out.box.fz 0
        have b1 := S2.out.box.cell (i := 1) rfl
        have z1 := S2.out.box.fz 1
        have b2 := S2.out.box.cell (i := 2) rfl
        have z2 := S2.out.box.fz 2
        have b3 := S2.out.box.cell (i := 3) rfl
        have z3 := S2.out.box.fz 3
        have b4 := S2.out.box.cell (i := 4) rfl
        have z4 := S2.out.box.fz 4
        have l0 := S2.out.box.lt
        clear S9 S2 d0 lc
        go_wp2
        exact bodyPost_ret (v := .agg #[.int .i64 x1, .int .i64 0, .int .i64 0, .int .i64 x2, .slice none 0 0]) (by simp [results, Tryz.results151, go_sem, *]) rfl HE.out
    have d3 : (x1 == 3) = false := by simpa using h3
    by_cases h5 : x1 = 5
    · have HH := hid h5
      have d0 := c0
      rw [h5] at d0
      have N1 := hid h1
      have N2 := hid h2
      have N3 := hid h3
      clear c0 h5 h1 d1 h2 d2 h3 d3
      have HF1 := hid (rtree S1.out.rd)
      go_wp2_with fail
      refine HF1.out.mono ?_
      rintro e w2 ⟨hn, hr⟩
      cases hq : listC zs (stepR zs) u1 with
      | error e =>
        rw [hq] at hr
        obtain rfl := hr
        exact panic_out (P := Tryz.prog) (fn := Tryz.f151) (by unfold deedR; rw [Q1.out]; unfold thenR; dsimp only; rw [if_neg N1.out, if_neg N2.out, if_neg N3.out, if_pos HH.out]; rw [hq]; exact ⟨S1.out.rn.trans hn, rfl⟩) rfl
      | ok y =>
        obtain ⟨x2, u2⟩ := y
        rw [hq] at hr
        obtain ⟨_, rfl, ⟨g2, rfl, hv⟩, hr⟩ := hr
        have hv : PushsV V1 x2 w2 (.slice (some ⟨g2, 0, none⟩) x2.length x2.length) := ⟨g2, rfl, hv⟩
        have T1 := S1.out.read hn hr
        have K2 := hid (hv.low (w0 := W1) HS1.out)
        have b0 := T1.box.cell (i := 4) rfl
        have z0 := T1.box.fz 4
        have l0 := T1.box.lt
        obtain ⟨V2, eV2⟩ : ∃ W, W = (w2.setCell ⟨bx, 4, none⟩ (.slice (some ⟨g2, 0, none⟩) x2.length x2.length)) := ⟨_, rfl⟩
        have HS2 : Hid (W1.heap.size ≤ V2.heap.size) := by
          have h1 : W1.heap.size ≤ w2.heap.size := Nat.le_trans HS1.out hn.size
          show W1.heap.size ≤ V2.heap.size
          rw [eV2]
          simpa [World.setCell] using h1
        have S2 : Hid (RSt p a c zs 59 bx w u2 [.int .i64 x1, .int .i64 0, .int .i64 0, .int .i64 0, .slice (some ⟨g2, 0, none⟩) x2.length x2.length] V2) := by rw [eV2]; exact (T1.put 4 (.slice (some ⟨g2, 0, none⟩) x2.length x2.length) rfl (fun n h => by cases h))
        have K2 : Hid (PushsV W1 x2 V2 (.slice (some ⟨g2, 0, none⟩) x2.length x2.length)) := by rw [eV2]; exact (K2.out.keep (set_keep HBX.out.1 4 (.slice (some ⟨g2, 0, none⟩) x2.length x2.length)))
        have Q2 := hid hq
        have EV := hid eV2
        clear HF1 hn hr hq T1 eV2 S1 hv
        go_upto_region 14 with fail
        rw [← EV.out]
        clear EV b0 z0 l0
        have S9 := (((((S2.out.put 0 (.int .i64 x1) rfl (fun n h => by cases h)).put 1 (.int .i64 0) rfl (fun n h => by cases h)).put 2 (.int .i64 0) rfl (fun n h => by cases h)).put 3 (.int .i64 0) rfl (fun n h => by cases h)).put 4 (.slice (some ⟨g2, 0, none⟩) x2.length x2.length) rfl (fun n h => by cases h))
        have HE : Hid (RDone p a c zs (DeedV w) (deedR zs t) w (.returned (.agg #[.int .i64 x1, .int .i64 0, .int .i64 0, .int .i64 0, .slice (some ⟨g2, 0, none⟩) x2.length x2.length])) (((((V2.setCell ⟨bx, 0, none⟩ (.int .i64 x1)).setCell ⟨bx, 1, none⟩ (.int .i64 0)).setCell ⟨bx, 2, none⟩ (.int .i64 0)).setCell ⟨bx, 3, none⟩ (.int .i64 0)).setCell ⟨bx, 4, none⟩ (.slice (some ⟨g2, 0, none⟩) x2.length x2.length))) := by
          show RDone _ _ _ _ _ _ _ _ _
          unfold deedR; rw [Q1.out]; unfold thenR; dsimp only; rw [if_neg N1.out, if_neg N2.out, if_neg N3.out, if_pos HH.out]; rw [Q2.out]; dsimp only
          exact ⟨S9.rn, _, rfl, ⟨_, rfl, ((((((K2.out.keep (set_keep HBX.out.1 0 (.int .i64 x1))).keep (set_keep HBX.out.1 1 (.int .i64 0))).keep (set_keep HBX.out.1 2 (.int .i64 0))).keep (set_keep HBX.out.1 3 (.int .i64 0))).keep (set_keep HBX.out.1 4 (.slice (some ⟨g2, 0, none⟩) x2.length x2.length))).low HBX.out.2.2), HW1.out, WZ.out, WZ.out, WZ.out⟩, S9.rd⟩
        have b0 := S2.out.box.cell (i := 0) rfl
        have z0 := S2.out.box.fz 0
        have b1 := S2.out.box.cell (i := 1) rfl
        have z1 := S2.out.box.fz 1
        have b2 := S2.out.box.cell (i := 2) rfl
        have z2 := S2.out.box.fz 2
        have b3 := S2.out.box.cell (i := 3) rfl
        have z3 := S2.out.box.fz 3
        have b4 := S2.out.box.cell (i := 4) rfl
        have z4 := S2.out.box.fz 4
        have l0 := S2.out.box.lt
        clear S9 S2 d0 lc K2
        go_wp2
        exact bodyPost_ret (v := .agg #[.int .i64 x1, .int .i64 0, .int .i64 0, .int .i64 0, .slice (some ⟨g2, 0, none⟩) x2.length x2.length]) (by simp [results, Tryz.results151, go_sem, *]) rfl HE.out
    have d5 : (x1 == 5) = false := by simpa using h5
    by_cases h6 : x1 = 6
    · have HH := hid h6
      have d0 := c0
      rw [h6] at d0
      have N1 := hid h1
      have N2 := hid h2
      have N3 := hid h3
      have N5 := hid h5
      clear c0 h6 h1 d1 h2 d2 h3 d3 h5 d5
      have HF1 := hid (rfield S1.out.rd)
      go_wp2_with fail
      refine HF1.out.mono ?_
      rintro e w2 ⟨hn, hr⟩
      cases hq : fieldR zs u1 with
      | error e =>
        rw [hq] at hr
        obtain rfl := hr
        exact panic_out (P := Tryz.prog) (fn := Tryz.f151) (by unfold deedR; rw [Q1.out]; unfold thenR; dsimp only; rw [if_neg N1.out, if_neg N2.out, if_neg N3.out, if_neg N5.out, if_pos HH.out]; rw [hq]; exact ⟨S1.out.rn.trans hn, rfl⟩) rfl
      | ok y =>
        obtain ⟨⟨x2a, x2b⟩, u2⟩ := y
        rw [hq] at hr
        obtain ⟨_, rfl, ⟨rfl, hw⟩, hr⟩ := hr
        dsimp only at hw
        have T1 := S1.out.read hn hr
        have HW2 := hid hw
        have b0 := T1.box.cell (i := 1) rfl
        have z0 := T1.box.fz 1
        have b1 := T1.box.cell (i := 2) rfl
        have z1 := T1.box.fz 2
        have l0 := T1.box.lt
        obtain ⟨V2, eV2⟩ : ∃ W, W = ((w2.setCell ⟨bx, 1, none⟩ (.int .i64 x2a)).setCell ⟨bx, 2, none⟩ (.int .i64 x2b)) := ⟨_, rfl⟩
        have HS2 : Hid (W1.heap.size ≤ V2.heap.size) := by
          have h1 : W1.heap.size ≤ w2.heap.size := Nat.le_trans HS1.out hn.size
          show W1.heap.size ≤ V2.heap.size
          rw [eV2]
          simpa [World.setCell] using h1
        have S2 : Hid (RSt p a c zs 59 bx w u2 [.int .i64 x1, .int .i64 x2a, .int .i64 x2b, .int .i64 0, .slice none 0 0] V2) := by rw [eV2]; exact ((T1.put 1 (.int .i64 x2a) rfl (fun n h => by cases h)).put 2 (.int .i64 x2b) rfl (fun n h => by cases h))
        have Q2 := hid hq
        have EV := hid eV2
        clear HF1 hn hr hq T1 eV2 S1 hw
        have HF2 := hid (rnumber S2.out.rd)
        go_wp2_with fail
        rw [← EV.out]
        clear EV b0 z0 b1 z1 l0
        refine HF2.out.mono ?_
        rintro e w3 ⟨hn, hr⟩
        cases hq : numR zs u2 with
        | error e =>
          rw [hq] at hr
          obtain rfl := hr
          exact panic_out (P := Tryz.prog) (fn := Tryz.f151) (by unfold deedR; rw [Q1.out]; unfold thenR; dsimp only; rw [if_neg N1.out, if_neg N2.out, if_neg N3.out, if_neg N5.out, if_pos HH.out]; rw [Q2.out]; dsimp only; rw [hq]; exact ⟨S2.out.rn.trans hn, rfl⟩) rfl
        | ok y =>
          obtain ⟨x3, u3⟩ := y
          rw [hq] at hr
          obtain ⟨_, rfl, ⟨rfl, hw⟩, hr⟩ := hr
          have T2 := S2.out.read hn hr
          have HW3 := hid hw
          have b0 := T2.box.cell (i := 3) rfl
          have z0 := T2.box.fz 3
          have l0 := T2.box.lt
          obtain ⟨V3, eV3⟩ : ∃ W, W = (w3.setCell ⟨bx, 3, none⟩ (.int .i64 x3)) := ⟨_, rfl⟩
          have HS3 : Hid (W1.heap.size ≤ V3.heap.size) := by
            have h1 : W1.heap.size ≤ w3.heap.size := Nat.le_trans HS2.out hn.size
            show W1.heap.size ≤ V3.heap.size
            rw [eV3]
            simpa [World.setCell] using h1
          have S3 : Hid (RSt p a c zs 59 bx w u3 [.int .i64 x1, .int .i64 x2a, .int .i64 x2b, .int .i64 x3, .slice none 0 0] V3) := by rw [eV3]; exact (T2.put 3 (.int .i64 x3) rfl (fun n h => by cases h))
          have Q3 := hid hq
          have EV := hid eV3
          clear HF2 hn hr hq T2 eV3 S2 hw
          go_upto_region 14 with fail
          rw [← EV.out]
          clear EV b0 z0 l0
          have S9 := (((((S3.out.put 0 (.int .i64 x1) rfl (fun n h => by cases h)).put 1 (.int .i64 x2a) rfl (fun n h => by cases h)).put 2 (.int .i64 x2b) rfl (fun n h => by cases h)).put 3 (.int .i64 x3) rfl (fun n h => by cases h)).put 4 (.slice none 0 0) rfl (fun n h => by cases h))
          have HE : Hid (RDone p a c zs (DeedV w) (deedR zs t) w (.returned (.agg #[.int .i64 x1, .int .i64 x2a, .int .i64 x2b, .int .i64 x3, .slice none 0 0])) (((((V3.setCell ⟨bx, 0, none⟩ (.int .i64 x1)).setCell ⟨bx, 1, none⟩ (.int .i64 x2a)).setCell ⟨bx, 2, none⟩ (.int .i64 x2b)).setCell ⟨bx, 3, none⟩ (.int .i64 x3)).setCell ⟨bx, 4, none⟩ (.slice none 0 0))) := by
            show RDone _ _ _ _ _ _ _ _ _
            unfold deedR; rw [Q1.out]; unfold thenR; dsimp only; rw [if_neg N1.out, if_neg N2.out, if_neg N3.out, if_neg N5.out, if_pos HH.out]; rw [Q2.out]; dsimp only; rw [Q3.out]; dsimp only
            exact ⟨S9.rn, _, rfl, ⟨_, rfl, rfl, HW1.out, HW2.out.1, HW2.out.2, HW3.out⟩, S9.rd⟩
          have b0 := S3.out.box.cell (i := 0) rfl
          have z0 := S3.out.box.fz 0
          have b1 := S3.out.box.cell (i := 1) rfl
          have z1 := S3.out.box.fz 1
          have b2 := S3.out.box.cell (i := 2) rfl
          have z2 := S3.out.box.fz 2
          have b3 := S3.out.box.cell (i := 3) rfl
          have z3 := S3.out.box.fz 3
          have b4 := S3.out.box.cell (i := 4) rfl
          have z4 := S3.out.box.fz 4
          have l0 := S3.out.box.lt
          clear S9 S3 d0 lc
          go_wp2
          exact bodyPost_ret (v := .agg #[.int .i64 x1, .int .i64 x2a, .int .i64 x2b, .int .i64 x3, .slice none 0 0]) (by simp [results, Tryz.results151, go_sem, *]) rfl HE.out
    have d6 : (x1 == 6) = false := by simpa using h6
    have N1 := hid h1
    have N2 := hid h2
    have N3 := hid h3
    have N5 := hid h5
    have N6 := hid h6
    have d0 := c0
    clear c0 h1 h2 h3 h5 h6
    go_upto_region 14 with fail
    have S9 := (((((S1.out.put 0 (.int .i64 x1) rfl (fun n h => by cases h)).put 1 (.int .i64 0) rfl (fun n h => by cases h)).put 2 (.int .i64 0) rfl (fun n h => by cases h)).put 3 (.int .i64 0) rfl (fun n h => by cases h)).put 4 (.slice none 0 0) rfl (fun n h => by cases h))
    have HE : Hid (RDone p a c zs (DeedV w) (deedR zs t) w (.returned (.agg #[.int .i64 x1, .int .i64 0, .int .i64 0, .int .i64 0, .slice none 0 0])) (((((V1.setCell ⟨bx, 0, none⟩ (.int .i64 x1)).setCell ⟨bx, 1, none⟩ (.int .i64 0)).setCell ⟨bx, 2, none⟩ (.int .i64 0)).setCell ⟨bx, 3, none⟩ (.int .i64 0)).setCell ⟨bx, 4, none⟩ (.slice none 0 0))) := by
      show RDone _ _ _ _ _ _ _ _ _
      unfold deedR; rw [Q1.out]; unfold thenR; dsimp only; rw [if_neg N1.out, if_neg N2.out, if_neg N3.out, if_neg N5.out, if_neg N6.out]
      exact ⟨S9.rn, _, rfl, ⟨_, rfl, rfl, HW1.out, WZ.out, WZ.out, WZ.out⟩, S9.rd⟩
    have b0 := S1.out.box.cell (i := 0) rfl
    have z0 := S1.out.box.fz 0
    have b1 := S1.out.box.cell (i := 1) rfl
    have z1 := S1.out.box.fz 1
    have b2 := S1.out.box.cell (i := 2) rfl
    have z2 := S1.out.box.fz 2
    have b3 := S1.out.box.cell (i := 3) rfl
    have z3 := S1.out.box.fz 3
    have b4 := S1.out.box.cell (i := 4) rfl
    have z4 := S1.out.box.fz 4
    have l0 := S1.out.box.lt
    clear S9 S1 d0 lc
    go_wp2
    exact bodyPost_ret (v := .agg #[.int .i64 x1, .int .i64 0, .int .i64 0, .int .i64 0, .slice none 0 0]) (by simp [results, Tryz.results151, go_sem, *]) rfl HE.out
end Go.Proofs.YtedeiaokohdhpaaGreat
