/- Texts of one chain, joined: ZRdD. -/
import Derived.Test.YtedeiaokohdhpaaGreatG6
import Derived.Deep.CutRange
namespace Go.Proofs.YtedeiaokohdhpaaGreat
open Go.RowKit
theorem PushsV.keep {w w1 w2 : World} {xs : List (Int × Int × Int × Int)} {v : Value} (h : PushsV w xs w1 v) (hb : ∀ g, w.heap.size ≤ g → w2.heap[g]? = w1.heap[g]? ∨ w1.heap.size ≤ g) : PushsV w xs w2 v := by
  obtain ⟨g, e, hg, hr, hw⟩ := h
  have hl : g < w1.heap.size := hr.lt
  exact ⟨g, e, hg, hr.blk ((hb g hg).resolve_right (by omega)), hw⟩
theorem PushsV.low {w w0 w1 : World} {xs : List (Int × Int × Int × Int)} {v : Value} (h : PushsV w xs w1 v) (hb : w0.heap.size ≤ w.heap.size) : PushsV w0 xs w1 v := by
  obtain ⟨g, e, hg, hr⟩ := h
  exact ⟨g, e, Nat.le_trans hb hg, hr⟩
def TreeV (w : World) (e : Option (List (Int × Int × Int × Int))) (w' : World) (v : Value) : Prop := match e with
  | none => v = .slice none 0 0
  | some xs => PushsV w xs w' v
structure NodeX where
  kind : Int
  n : Int
  e : Option (List (Int × Int × Int × Int))
  yes : Int
  no : Int
def nodeR (zs : List Int) (t : Nat) : Except (Int × Int) (NodeX × Nat) := thenR (numR zs t) fun x1 u1 => thenR (numR zs u1) fun x2 u2 =>
  if x1 = 3 then thenR (listC zs (stepR zs) u2) fun x3 u3 => thenR (numR zs u3) fun x4 u4 => .ok (⟨x1, 0, some x3, x2, x4⟩, u4)
  else if x1 = 4 then thenR (numR zs u2) fun x3 u3 => thenR (numR zs u3) fun x4 u4 => .ok (⟨x1, x3, none, x2, x4⟩, u4)
  else thenR (numR zs u2) fun x3 u3 => .ok (⟨x1, x3, none, x2, 0⟩, u3)
def NodeV (w : World) (x : NodeX) (w' : World) (v : Value) : Prop := ∃ ve, v = .agg #[.int .i64 x.kind, .int .i64 x.n, ve, .int .i64 x.yes, .int .i64 x.no] ∧ TreeV w x.e w' ve ∧ (Lit.int .i64 x.kind).wf = true ∧ (Lit.int .i64 x.n).wf = true ∧ (Lit.int .i64 x.yes).wf = true ∧ (Lit.int .i64 x.no).wf = true
structure DeedX where
  kind : Int
  h : Int
  f : Int
  head : Int
  e : Option (List (Int × Int × Int × Int))
def deedR (zs : List Int) (t : Nat) : Except (Int × Int) (DeedX × Nat) := thenR (numR zs t) fun x1 u1 =>
  if x1 = 1 then thenR (fieldR zs u1) fun r u2 => thenR (listC zs (stepR zs) u2) fun x3 u3 => .ok (⟨x1, r.1, r.2, 0, some x3⟩, u3)
  else if x1 = 2 then thenR (numR zs u1) fun x2 u2 => .ok (⟨x1, 0, 0, x2, none⟩, u2)
  else if x1 = 3 then thenR (numR zs u1) fun x2 u2 => .ok (⟨x1, 0, 0, x2, none⟩, u2)
  else if x1 = 5 then thenR (listC zs (stepR zs) u1) fun x2 u2 => .ok (⟨x1, 0, 0, 0, some x2⟩, u2)
  else if x1 = 6 then thenR (fieldR zs u1) fun r u2 => thenR (numR zs u2) fun x3 u3 => .ok (⟨x1, r.1, r.2, x3, none⟩, u3)
  else .ok (⟨x1, 0, 0, 0, none⟩, u1)
def DeedV (w : World) (x : DeedX) (w' : World) (v : Value) : Prop := ∃ ve, v = .agg #[.int .i64 x.kind, .int .i64 x.h, .int .i64 x.f, .int .i64 x.head, ve] ∧ TreeV w x.e w' ve ∧ (Lit.int .i64 x.kind).wf = true ∧ (Lit.int .i64 x.h).wf = true ∧ (Lit.int .i64 x.f).wf = true ∧ (Lit.int .i64 x.head).wf = true
set_option maxHeartbeats 4000000 in
set_option maxRecDepth 20000 in
theorem rnode {p : Nat} {a : Option Addr} {c : Nat} {zs : List Int} {t : Nat} {w : World} (h : Rd p a c zs t w) :
    Calls Tryz.prog 124 #[.pointer (some ⟨p, 0, none⟩)] w (RDone p a c zs (NodeV w) (nodeR zs t) w) := by
  obtain ⟨W1, eW⟩ : ∃ W1, W1 = w.alloc (.cells #[.int .i64 0, .int .i64 0, .slice none 0 0, .int .i64 0, .int .i64 0] 65) := ⟨_, rfl⟩
  obtain ⟨bx, ebx⟩ : ∃ b, b = w.heap.size := ⟨_, rfl⟩
  have hpw : p < w.heap.size := World.block_lt_of_cell? _ _ h.c0
  have S0 : Hid (RSt p a c zs 65 bx w t [.int .i64 0, .int .i64 0, .slice none 0 0, .int .i64 0, .int .i64 0] W1) := by rw [eW, ebx]; exact RSt.start h _ _
  have HBX : Hid (bx < W1.heap.size ∧ p < W1.heap.size ∧ w.heap.size ≤ W1.heap.size) := ⟨S0.out.box.lt, Nat.lt_of_lt_of_le hpw S0.out.rn.size, S0.out.rn.size⟩
  have HS0 : Hid (W1.heap.size ≤ W1.heap.size) := Nat.le_refl _
  have HF0 := hid (rnumber S0.out.rd)
  have E0 : Hid (nodeR zs t = nodeR zs t) := rfl
  have WZ : Hid ((Lit.int .i64 0).wf = true) := by show _ = true; decide
  have EW := hid eW
  have EB := hid ebx
  clear h eW ebx hpw
  go_enter Tryz.func124, Tryz.ntmps124
  go_wp2_with fail
  rw [← EW.out, ← EB.out]
  clear EW EB
  refine HF0.out.mono ?_
  rintro e w1 ⟨hn, hr⟩
  cases hq : numR zs t with
  | error e =>
    rw [hq] at hr
    obtain rfl := hr
    exact panic_out (P := Tryz.prog) (fn := Tryz.f124) (by unfold nodeR; rw [hq]; exact ⟨S0.out.rn.trans hn, rfl⟩) rfl
  | ok y =>
    obtain ⟨x1, u1⟩ := y
    rw [hq] at hr
    obtain ⟨_, rfl, ⟨rfl, hw⟩, hr⟩ := hr
    have T0 := S0.out.read hn hr
    have HW1 := hid hw
    have b0 := T0.box.cell (i := 0) rfl
    have z0 := T0.box.fz 0
    have l0 := T0.box.lt
    obtain ⟨V1, eV1⟩ : ∃ W, W = (w1.setCell ⟨bx, 0, none⟩ (.int .i64 x1)) := ⟨_, rfl⟩
    have HS1 : Hid (W1.heap.size ≤ V1.heap.size) := by
      have h1 : W1.heap.size ≤ w1.heap.size := Nat.le_trans HS0.out hn.size
      show W1.heap.size ≤ V1.heap.size
      rw [eV1]
      simpa [World.setCell] using h1
    have S1 : Hid (RSt p a c zs 65 bx w u1 [.int .i64 x1, .int .i64 0, .slice none 0 0, .int .i64 0, .int .i64 0] V1) := by rw [eV1]; exact (T0.put 0 (.int .i64 x1) rfl (fun n h => by cases h))
    have Q1 := hid hq
    have EV := hid eV1
    clear HF0 hn hr hq T0 eV1 S0 hw
    have HF1 := hid (rnumber S1.out.rd)
    go_wp2_with fail
    rw [← EV.out]
    clear EV b0 z0 l0
    refine HF1.out.mono ?_
    rintro e w2 ⟨hn, hr⟩
    cases hq : numR zs u1 with
    | error e =>
      rw [hq] at hr
      obtain rfl := hr
      exact panic_out (P := Tryz.prog) (fn := Tryz.f124) (by unfold nodeR; rw [Q1.out]; unfold thenR; dsimp only; rw [hq]; exact ⟨S1.out.rn.trans hn, rfl⟩) rfl
    | ok y =>
      obtain ⟨x2, u2⟩ := y
      rw [hq] at hr
      obtain ⟨_, rfl, ⟨rfl, hw⟩, hr⟩ := hr
      have T1 := S1.out.read hn hr
      have HW2 := hid hw
      have b0 := T1.box.cell (i := 3) rfl
      have z0 := T1.box.fz 3
      have l0 := T1.box.lt
      obtain ⟨V2, eV2⟩ : ∃ W, W = (w2.setCell ⟨bx, 3, none⟩ (.int .i64 x2)) := ⟨_, rfl⟩
      have HS2 : Hid (W1.heap.size ≤ V2.heap.size) := by
        have h1 : W1.heap.size ≤ w2.heap.size := Nat.le_trans HS1.out hn.size
        show W1.heap.size ≤ V2.heap.size
        rw [eV2]
        simpa [World.setCell] using h1
      have S2 : Hid (RSt p a c zs 65 bx w u2 [.int .i64 x1, .int .i64 0, .slice none 0 0, .int .i64 x2, .int .i64 0] V2) := by rw [eV2]; exact (T1.put 3 (.int .i64 x2) rfl (fun n h => by cases h))
      have Q2 := hid hq
      have EV := hid eV2
      clear HF1 hn hr hq T1 eV2 S1 hw
      go_upto_region 3 with fail
      rw [← EV.out]
      clear EV b0 z0 l0
      have c0 := S2.out.box.cell (i := 0) rfl
      have lc := S2.out.box.lt
      by_cases h3 : x1 = 3
      · have HH := hid h3
        have d0 := c0
        rw [h3] at d0
        clear c0 h3
        have HF2 := hid (rtree S2.out.rd)
        go_wp2_with fail
        refine HF2.out.mono ?_
        rintro e w3 ⟨hn, hr⟩
        cases hq : listC zs (stepR zs) u2 with
        | error e =>
          rw [hq] at hr
          obtain rfl := hr
          exact panic_out (P := Tryz.prog) (fn := Tryz.f124) (by unfold nodeR; rw [Q1.out]; unfold thenR; dsimp only; rw [Q2.out]; dsimp only; rw [if_pos HH.out]; rw [hq]; exact ⟨S2.out.rn.trans hn, rfl⟩) rfl
        | ok y =>
          obtain ⟨x3, u3⟩ := y
          rw [hq] at hr
          obtain ⟨_, rfl, ⟨g3, rfl, hv⟩, hr⟩ := hr
          have hv : PushsV V2 x3 w3 (.slice (some ⟨g3, 0, none⟩) x3.length x3.length) := ⟨g3, rfl, hv⟩
          have T2 := S2.out.read hn hr
          have K3 := hid (hv.low (w0 := W1) HS2.out)
          have b0 := T2.box.cell (i := 2) rfl
          have z0 := T2.box.fz 2
          have l0 := T2.box.lt
          obtain ⟨V3, eV3⟩ : ∃ W, W = (w3.setCell ⟨bx, 2, none⟩ (.slice (some ⟨g3, 0, none⟩) x3.length x3.length)) := ⟨_, rfl⟩
          have HS3 : Hid (W1.heap.size ≤ V3.heap.size) := by
            have h1 : W1.heap.size ≤ w3.heap.size := Nat.le_trans HS2.out hn.size
            show W1.heap.size ≤ V3.heap.size
            rw [eV3]
            simpa [World.setCell] using h1
          have S3 : Hid (RSt p a c zs 65 bx w u3 [.int .i64 x1, .int .i64 0, .slice (some ⟨g3, 0, none⟩) x3.length x3.length, .int .i64 x2, .int .i64 0] V3) := by rw [eV3]; exact (T2.put 2 (.slice (some ⟨g3, 0, none⟩) x3.length x3.length) rfl (fun n h => by cases h))
          have K3 : Hid (PushsV W1 x3 V3 (.slice (some ⟨g3, 0, none⟩) x3.length x3.length)) := by rw [eV3]; exact (K3.out.keep (set_keep HBX.out.1 2 (.slice (some ⟨g3, 0, none⟩) x3.length x3.length)))
          have Q3 := hid hq
          have EV := hid eV3
          clear HF2 hn hr hq T2 eV3 S2 hv
          have HF3 := hid (rnumber S3.out.rd)
          go_wp2_with fail
          rw [← EV.out]
          clear EV b0 z0 l0
          refine HF3.out.mono ?_
          rintro e w4 ⟨hn, hr⟩
          cases hq : numR zs u3 with
          | error e =>
            rw [hq] at hr
            obtain rfl := hr
            exact panic_out (P := Tryz.prog) (fn := Tryz.f124) (by unfold nodeR; rw [Q1.out]; unfold thenR; dsimp only; rw [Q2.out]; dsimp only; rw [if_pos HH.out]; rw [Q3.out]; dsimp only; rw [hq]; exact ⟨S3.out.rn.trans hn, rfl⟩) rfl
          | ok y =>
            obtain ⟨x4, u4⟩ := y
            rw [hq] at hr
            obtain ⟨_, rfl, ⟨rfl, hw⟩, hr⟩ := hr
            have T3 := S3.out.read hn hr
            have K3 := hid (K3.out.keep (rn_keep hn HBX.out.2.1))
            have HW4 := hid hw
            have b0 := T3.box.cell (i := 4) rfl
            have z0 := T3.box.fz 4
            have l0 := T3.box.lt
            obtain ⟨V4, eV4⟩ : ∃ W, W = (w4.setCell ⟨bx, 4, none⟩ (.int .i64 x4)) := ⟨_, rfl⟩
            have HS4 : Hid (W1.heap.size ≤ V4.heap.size) := by
              have h1 : W1.heap.size ≤ w4.heap.size := Nat.le_trans HS3.out hn.size
              show W1.heap.size ≤ V4.heap.size
              rw [eV4]
              simpa [World.setCell] using h1
            have S4 : Hid (RSt p a c zs 65 bx w u4 [.int .i64 x1, .int .i64 0, .slice (some ⟨g3, 0, none⟩) x3.length x3.length, .int .i64 x2, .int .i64 x4] V4) := by rw [eV4]; exact (T3.put 4 (.int .i64 x4) rfl (fun n h => by cases h))
            have K3 : Hid (PushsV W1 x3 V4 (.slice (some ⟨g3, 0, none⟩) x3.length x3.length)) := by rw [eV4]; exact (K3.out.keep (set_keep HBX.out.1 4 (.int .i64 x4)))
            have Q4 := hid hq
            have EV := hid eV4
            clear HF3 hn hr hq T3 eV4 S3 hw
            go_upto_region 11 with fail
            rw [← EV.out]
            clear EV b0 z0 l0
            have S9 := (((((S4.out.put 0 (.int .i64 x1) rfl (fun n h => by cases h)).put 1 (.int .i64 0) rfl (fun n h => by cases h)).put 2 (.slice (some ⟨g3, 0, none⟩) x3.length x3.length) rfl (fun n h => by cases h)).put 3 (.int .i64 x2) rfl (fun n h => by cases h)).put 4 (.int .i64 x4) rfl (fun n h => by cases h))
            have HE : Hid (RDone p a c zs (NodeV w) (nodeR zs t) w (.returned (.agg #[.int .i64 x1, .int .i64 0, .slice (some ⟨g3, 0, none⟩) x3.length x3.length, .int .i64 x2, .int .i64 x4])) (((((V4.setCell ⟨bx, 0, none⟩ (.int .i64 x1)).setCell ⟨bx, 1, none⟩ (.int .i64 0)).setCell ⟨bx, 2, none⟩ (.slice (some ⟨g3, 0, none⟩) x3.length x3.length)).setCell ⟨bx, 3, none⟩ (.int .i64 x2)).setCell ⟨bx, 4, none⟩ (.int .i64 x4))) := by
              show RDone _ _ _ _ _ _ _ _ _
              unfold nodeR; rw [Q1.out]; unfold thenR; dsimp only; rw [Q2.out]; dsimp only; rw [if_pos HH.out]; rw [Q3.out]; dsimp only; rw [Q4.out]; dsimp only
              exact ⟨S9.rn, _, rfl, ⟨_, rfl, ((((((K3.out.keep (set_keep HBX.out.1 0 (.int .i64 x1))).keep (set_keep HBX.out.1 1 (.int .i64 0))).keep (set_keep HBX.out.1 2 (.slice (some ⟨g3, 0, none⟩) x3.length x3.length))).keep (set_keep HBX.out.1 3 (.int .i64 x2))).keep (set_keep HBX.out.1 4 (.int .i64 x4))).low HBX.out.2.2), HW1.out, WZ.out, HW2.out, HW4.out⟩, S9.rd⟩
            have b0 := S4.out.box.cell (i := 0) rfl
            have z0 := S4.out.box.fz 0
            have b1 := S4.out.box.cell (i := 1) rfl
            have z1 := S4.out.box.fz 1
            have b2 := S4.out.box.cell (i := 2) rfl
            have z2 := S4.out.box.fz 2
            have b3 := S4.out.box.cell (i := 3) rfl
            have z3 := S4.out.box.fz 3
            have b4 := S4.out.box.cell (i := 4) rfl
            have z4 := S4.out.box.fz 4
            have l0 := S4.out.box.lt
            clear S9 S4 d0 lc K3
            go_wp2
            exact bodyPost_ret (v := .agg #[.int .i64 x1, .int .i64 0, .slice (some ⟨g3, 0, none⟩) x3.length x3.length, .int .i64 x2, .int .i64 x4]) (by simp [results, Tryz.results124, go_sem, *]) rfl HE.out
      have d3 : (x1 == 3) = false := by simpa using h3
      by_cases h4 : x1 = 4
      · have HH := hid h4
        have d0 := c0
        rw [h4] at d0
        have N3 := hid h3
        clear c0 h4 h3 d3
        have HF2 := hid (rnumber S2.out.rd)
        go_wp2_with fail
        refine HF2.out.mono ?_
        rintro e w3 ⟨hn, hr⟩
        cases hq : numR zs u2 with
        | error e =>
          rw [hq] at hr
          obtain rfl := hr
          exact panic_out (P := Tryz.prog) (fn := Tryz.f124) (by unfold nodeR; rw [Q1.out]; unfold thenR; dsimp only; rw [Q2.out]; dsimp only; rw [if_neg N3.out, if_pos HH.out]; rw [hq]; exact ⟨S2.out.rn.trans hn, rfl⟩) rfl
        | ok y =>
          obtain ⟨x3, u3⟩ := y
          rw [hq] at hr
          obtain ⟨_, rfl, ⟨rfl, hw⟩, hr⟩ := hr
          have T2 := S2.out.read hn hr
          have HW3 := hid hw
          have b0 := T2.box.cell (i := 1) rfl
          have z0 := T2.box.fz 1
          have l0 := T2.box.lt
          obtain ⟨V3, eV3⟩ : ∃ W, W = (w3.setCell ⟨bx, 1, none⟩ (.int .i64 x3)) := ⟨_, rfl⟩
          have HS3 : Hid (W1.heap.size ≤ V3.heap.size) := by
            have h1 : W1.heap.size ≤ w3.heap.size := Nat.le_trans HS2.out hn.size
            show W1.heap.size ≤ V3.heap.size
            rw [eV3]
            simpa [World.setCell] using h1
          have S3 : Hid (RSt p a c zs 65 bx w u3 [.int .i64 x1, .int .i64 x3, .slice none 0 0, .int .i64 x2, .int .i64 0] V3) := by rw [eV3]; exact (T2.put 1 (.int .i64 x3) rfl (fun n h => by cases h))
          have Q3 := hid hq
          have EV := hid eV3
          clear HF2 hn hr hq T2 eV3 S2 hw
          have HF3 := hid (rnumber S3.out.rd)
          go_wp2_with fail
          rw [← EV.out]
          clear EV b0 z0 l0
          refine HF3.out.mono ?_
          rintro e w4 ⟨hn, hr⟩
          cases hq : numR zs u3 with
          | error e =>
            rw [hq] at hr
            obtain rfl := hr
            exact panic_out (P := Tryz.prog) (fn := Tryz.f124) (by unfold nodeR; rw [Q1.out]; unfold thenR; dsimp only; rw [Q2.out]; dsimp only; rw [if_neg N3.out, if_pos HH.out]; rw [Q3.out]; dsimp only; rw [hq]; exact ⟨S3.out.rn.trans hn, rfl⟩) rfl
          | ok y =>
            obtain ⟨x4, u4⟩ := y
            rw [hq] at hr
            obtain ⟨_, rfl, ⟨rfl, hw⟩, hr⟩ := hr
            have T3 := S3.out.read hn hr
            have HW4 := hid hw
            have b0 := T3.box.cell (i := 4) rfl
            have z0 := T3.box.fz 4
            have l0 := T3.box.lt
            obtain ⟨V4, eV4⟩ : ∃ W, W = (w4.setCell ⟨bx, 4, none⟩ (.int .i64 x4)) := ⟨_, rfl⟩
            have HS4 : Hid (W1.heap.size ≤ V4.heap.size) := by
              have h1 : W1.heap.size ≤ w4.heap.size := Nat.le_trans HS3.out hn.size
              show W1.heap.size ≤ V4.heap.size
              rw [eV4]
              simpa [World.setCell] using h1
            have S4 : Hid (RSt p a c zs 65 bx w u4 [.int .i64 x1, .int .i64 x3, .slice none 0 0, .int .i64 x2, .int .i64 x4] V4) := by rw [eV4]; exact (T3.put 4 (.int .i64 x4) rfl (fun n h => by cases h))
            have Q4 := hid hq
            have EV := hid eV4
            clear HF3 hn hr hq T3 eV4 S3 hw
            go_upto_region 11 with fail
            rw [← EV.out]
            clear EV b0 z0 l0
            have S9 := (((((S4.out.put 0 (.int .i64 x1) rfl (fun n h => by cases h)).put 1 (.int .i64 x3) rfl (fun n h => by cases h)).put 2 (.slice none 0 0) rfl (fun n h => by cases h)).put 3 (.int .i64 x2) rfl (fun n h => by cases h)).put 4 (.int .i64 x4) rfl (fun n h => by cases h))
            have HE : Hid (RDone p a c zs (NodeV w) (nodeR zs t) w (.returned (.agg #[.int .i64 x1, .int .i64 x3, .slice none 0 0, .int .i64 x2, .int .i64 x4])) (((((V4.setCell ⟨bx, 0, none⟩ (.int .i64 x1)).setCell ⟨bx, 1, none⟩ (.int .i64 x3)).setCell ⟨bx, 2, none⟩ (.slice none 0 0)).setCell ⟨bx, 3, none⟩ (.int .i64 x2)).setCell ⟨bx, 4, none⟩ (.int .i64 x4))) := by
              show RDone _ _ _ _ _ _ _ _ _
              unfold nodeR; rw [Q1.out]; unfold thenR; dsimp only; rw [Q2.out]; dsimp only; rw [if_neg N3.out, if_pos HH.out]; rw [Q3.out]; dsimp only; rw [Q4.out]; dsimp only
              exact ⟨S9.rn, _, rfl, ⟨_, rfl, rfl, HW1.out, HW3.out, HW2.out, HW4.out⟩, S9.rd⟩
            have b0 := S4.out.box.cell (i := 0) rfl
            have z0 := S4.out.box.fz 0
            have b1 := S4.out.box.cell (i := 1) rfl
            have z1 := S4.out.box.fz 1
            have b2 := S4.out.box.cell (i := 2) rfl
            have z2 := S4.out.box.fz 2
            have b3 := S4.out.box.cell (i := 3) rfl
            have z3 := S4.out.box.fz 3
            have b4 := S4.out.box.cell (i := 4) rfl
            have z4 := S4.out.box.fz 4
            have l0 := S4.out.box.lt
            clear S9 S4 d0 lc
            go_wp2
            exact bodyPost_ret (v := .agg #[.int .i64 x1, .int .i64 x3, .slice none 0 0, .int .i64 x2, .int .i64 x4]) (by simp [results, Tryz.results124, go_sem, *]) rfl HE.out
      have d4 : (x1 == 4) = false := by simpa using h4
      have N3 := hid h3
      have N4 := hid h4
      have d0 := c0
      clear c0 h3 h4
      have HF2 := hid (rnumber S2.out.rd)
      go_wp2_with fail
      refine HF2.out.mono ?_
      rintro e w3 ⟨hn, hr⟩
      cases hq : numR zs u2 with
      | error e =>
        rw [hq] at hr
        obtain rfl := hr
        exact panic_out (P := Tryz.prog) (fn := Tryz.f124) (by unfold nodeR; rw [Q1.out]; unfold thenR; dsimp only; rw [Q2.out]; dsimp only; rw [if_neg N3.out, if_neg N4.out]; rw [hq]; exact ⟨S2.out.rn.trans hn, rfl⟩) rfl
      | ok y =>
        obtain ⟨x3, u3⟩ := y
        rw [hq] at hr
        obtain ⟨_, rfl, ⟨rfl, hw⟩, hr⟩ := hr
        have T2 := S2.out.read hn hr
        have HW3 := hid hw
        have b0 := T2.box.cell (i := 1) rfl
        have z0 := T2.box.fz 1
        have l0 := T2.box.lt
        obtain ⟨V3, eV3⟩ : ∃ W, W = (w3.setCell ⟨bx, 1, none⟩ (.int .i64 x3)) := ⟨_, rfl⟩
        have HS3 : Hid (W1.heap.size ≤ V3.heap.size) := by
          have h1 : W1.heap.size ≤ w3.heap.size := Nat.le_trans HS2.out hn.size
          show W1.heap.size ≤ V3.heap.size
          rw [eV3]
          simpa [World.setCell] using h1
        have S3 : Hid (RSt p a c zs 65 bx w u3 [.int .i64 x1, .int .i64 x3, .slice none 0 0, .int .i64 x2, .int .i64 0] V3) := by rw [eV3]; exact (T2.put 1 (.int .i64 x3) rfl (fun n h => by cases h))
        have Q3 := hid hq
        have EV := hid eV3
        clear HF2 hn hr hq T2 eV3 S2 hw
        go_upto_region 11 with fail
        rw [← EV.out]
        clear EV b0 z0 l0
        have S9 := (((((S3.out.put 0 (.int .i64 x1) rfl (fun n h => by cases h)).put 1 (.int .i64 x3) rfl (fun n h => by cases h)).put 2 (.slice none 0 0) rfl (fun n h => by cases h)).put 3 (.int .i64 x2) rfl (fun n h => by cases h)).put 4 (.int .i64 0) rfl (fun n h => by cases h))
        have HE : Hid (RDone p a c zs (NodeV w) (nodeR zs t) w (.returned (.agg #[.int .i64 x1, .int .i64 x3, .slice none 0 0, .int .i64 x2, .int .i64 0])) (((((V3.setCell ⟨bx, 0, none⟩ (.int .i64 x1)).setCell ⟨bx, 1, none⟩ (.int .i64 x3)).setCell ⟨bx, 2, none⟩ (.slice none 0 0)).setCell ⟨bx, 3, none⟩ (.int .i64 x2)).setCell ⟨bx, 4, none⟩ (.int .i64 0))) := by
          show RDone _ _ _ _ _ _ _ _ _
          unfold nodeR; rw [Q1.out]; unfold thenR; dsimp only; rw [Q2.out]; dsimp only; rw [if_neg N3.out, if_neg N4.out]; rw [Q3.out]; dsimp only
          exact ⟨S9.rn, _, rfl, ⟨_, rfl, rfl, HW1.out, HW3.out, HW2.out, WZ.out⟩, S9.rd⟩
        have b0 := S3.out.box.cell (i := 0) rfl
        have z0 := S3.out.box.fz 0
        have b1 := S3.out.box.cell (i := 1) rfl
        have z1 := S3.out.box.fz 1
        have b2 := S3.out.box.cell (i := 2) rfl
        have z2 := S3.out.box.fz 2
        have b3 := S3.out.box.cell (i := 3) rfl
        have z3 := S3.out.box.fz 3
        have b4 := S3.out.box.cell (i := 4) rfl
        have z4 := S3.out.box.fz 4
        have l0 := S3.out.box.lt
        clear S9 S3 d0 lc
        go_wp2
        exact bodyPost_ret (v := .agg #[.int .i64 x1, .int .i64 x3, .slice none 0 0, .int .i64 x2, .int .i64 0]) (by simp [results, Tryz.results124, go_sem, *]) rfl HE.out
end Go.Proofs.YtedeiaokohdhpaaGreat
