/- The document's word on programs: ProgramFault. -/
import Derived.Test.YtmohffibkpecpaaVGRefF6
import Derived.Test.YtmohffibkpecpaaJ3
import Derived.Test.YtmohffibkpecpaaJ1
namespace Go.Proofs.Ytmohffibkpecpaa
open Go.RowKit

/-- the box of a fault that is told, at any world behind -/
structure FBox (w W : World) (fb : Nat) : Prop where
  f : W.heap[fb]? = some (.cells #[.int .i64 0, .int .i64 0] 30 (0, 0))
  wf : w.heap.size ≤ fb
theorem FBox.step {w W W' : World} {fb : Nat} (h : FBox w W fb) (b : Below W.heap.size W W') : FBox w W' fb := ⟨(b.block fb (Array.getElem?_eq_some_iff.1 h.f).1).trans h.f, h.wf⟩
structure FCells (W : World) (fb : Nat) : Prop where
  c0 : W.cell? ⟨fb, 0, none⟩ = some (.int .i64 0)
  c1 : W.cell? ⟨fb, 1, none⟩ = some (.int .i64 0)
  z0 : W.frozen? ⟨fb, 0, none⟩ = false
  z1 : W.frozen? ⟨fb, 1, none⟩ = false
  l : fb < W.heap.size
theorem FBox.cells {w W : World} {fb : Nat} (h : FBox w W fb) : FCells W fb := ⟨gbox_cell h.f 0, gbox_cell h.f 1, by simp [World.frozen?, h.f], by simp [World.frozen?, h.f], (Array.getElem?_eq_some_iff.1 h.f).1⟩
theorem FBox.put {w W : World} {fb : Nat} (h : FBox w W fb) (b : Below w.heap.size w W) (u v : Value) : Below w.heap.size w ((W.setCell ⟨fb, 0, none⟩ u).setCell ⟨fb, 1, none⟩ v) := (b.setCell (p := ⟨fb, 0, none⟩) h.wf _).setCell (p := ⟨fb, 1, none⟩) h.wf _

set_option maxHeartbeats 16000000 in
set_option maxRecDepth 20000 in
theorem rfault (d : ProgD) (w : World) (hl : d.lie w) (hm : d.small) : Calls Try.prog 12 #[d.v] w (TellF (chkW d.slots d.ts d.cs) w) := by
  have h1 : d.ts.length = d.tabs.n := hl.t.1
  have h2 : d.cs.length = d.code.n := hl.c.1
  obtain ⟨hm1, hm2⟩ := hm
  have HT : Hid (∀ c a w', (c, a) = chkW d.slots d.ts d.cs → Below w.heap.size w w' → TellF (chkW d.slots d.ts d.cs) w (.returned (.agg #[.int .i64 c, .int .i64 a])) w') := fun c a w' e h => ⟨by rw [← e], h⟩
  obtain ⟨W2, hW2⟩ : ∃ W2, W2 = ((w.alloc (.cells #[.int .i64 d.slots, .slice d.tabs.a d.tabs.n d.tabs.c, .slice d.code.a d.code.n d.code.c] 25)).alloc (.cells #[.int .i64 0, .int .i64 0] 30)) := ⟨_, rfl⟩
  obtain ⟨pb, hpb⟩ : ∃ b, b = w.heap.size := ⟨_, rfl⟩
  obtain ⟨fb, hfb⟩ : ∃ b, b = w.heap.size + 1 := ⟨_, rfl⟩
  have HA : GEncAt d w W2 pb fb := by rw [hW2, hpb, hfb]; exact genc_at d w
  have PB := hid HA.p
  have FB : Hid (FBox w W2 fb) := ⟨HA.ff, HA.wf⟩
  have HB : Hid (Below w.heap.size w W2) := by rw [hW2]; exact bl_alloc (bl_alloc (Below.refl _ _))
  have HFA := hid (fun x y w => fault_any x y w)
  have EW := hid hW2
  have EP := hid hpb
  have EF := hid hfb
  have HL := hid hl
  have N1 := hid h1
  have N2 := hid h2
  dsimp only [ProgD.v]
  clear hW2 hpb hfb hl HA
  go_enter Try.func12, Try.ntmps12
  go_upto_region 1 with fail
  rw [← EW.out, ← EF.out, ← EP.out]
  clear EW EF EP
  obtain ⟨p0, p1, p2⟩ := PB.out
  by_cases s0 : d.slots < 0
  · have E : Hid (((1 : Int), (-1 : Int)) = chkW d.slots d.ts d.cs) := by
      have : inB d.slots 0 96 = false := by
        have : ¬ (inB d.slots 0 96 = true) := by rw [inB_iff]; omega
        simpa using this
      have e1 : sizesN d.slots d.ts d.cs.length = (1, -1) := by unfold sizesN; rw [if_pos this]
      show _ = _
      unfold chkW
      rw [e1, if_pos (by decide)]
    go_wp2_with fail
    refine (HFA.out _ _ _).mono ?_
    rintro e w9 ⟨rfl, b9⟩
    have B9 := hid (bl_step HB.out b9)
    obtain ⟨y0, y1, y2, y3, yl⟩ := (FB.out.step b9).cells
    have HP := hid ((FB.out.step b9).put B9.out)
    clear b9
    go_wp2
    exact bodyPost_ret (v := .agg #[.int .i64 1, .int .i64 (-1)]) (by simp [results, Try.results12, go_sem, *]) rfl (HT.out _ _ _ E.out (HP.out _ _))
  by_cases s1 : 96 < d.slots
  · have E : Hid (((1 : Int), (-1 : Int)) = chkW d.slots d.ts d.cs) := by
      have : inB d.slots 0 96 = false := by
        have : ¬ (inB d.slots 0 96 = true) := by rw [inB_iff]; omega
        simpa using this
      have e1 : sizesN d.slots d.ts d.cs.length = (1, -1) := by unfold sizesN; rw [if_pos this]
      show _ = _
      unfold chkW
      rw [e1, if_pos (by decide)]
    go_wp2_with fail
    refine (HFA.out _ _ _).mono ?_
    rintro e w9 ⟨rfl, b9⟩
    have B9 := hid (bl_step HB.out b9)
    obtain ⟨y0, y1, y2, y3, yl⟩ := (FB.out.step b9).cells
    have HP := hid ((FB.out.step b9).put B9.out)
    clear b9
    go_wp2
    exact bodyPost_ret (v := .agg #[.int .i64 1, .int .i64 (-1)]) (by simp [results, Try.results12, go_sem, *]) rfl (HT.out _ _ _ E.out (HP.out _ _))
  have hin : inB d.slots 0 96 = true := by rw [inB_iff]; omega
  by_cases t0 : 5 < (d.tabs.n : Int)
  · have E : Hid (((2 : Int), (-1 : Int)) = chkW d.slots d.ts d.cs) := by
      have e2 : (decide (5 < (d.ts.length : Int)) || !inB d.cs.length 1 60000) = true := by
        rw [Bool.or_eq_true, decide_eq_true_eq, Bool.not_eq_true', ← Bool.not_eq_true, inB_iff]
        omega
      have e1 : sizesN d.slots d.ts d.cs.length = (2, -1) := by unfold sizesN; rw [if_neg (by rw [hin]; decide), if_pos e2]
      show _ = _
      unfold chkW
      rw [e1, if_pos (by decide)]
    have HIN := hid hin
    clear hin
    go_wp2_with fail
    refine (HFA.out _ _ _).mono ?_
    rintro e w9 ⟨rfl, b9⟩
    have B9 := hid (bl_step HB.out b9)
    obtain ⟨y0, y1, y2, y3, yl⟩ := (FB.out.step b9).cells
    have HP := hid ((FB.out.step b9).put B9.out)
    clear b9
    go_wp2
    exact bodyPost_ret (v := .agg #[.int .i64 2, .int .i64 (-1)]) (by simp [results, Try.results12, go_sem, *]) rfl (HT.out _ _ _ E.out (HP.out _ _))
  by_cases t1 : (d.code.n : Int) < 1
  · have E : Hid (((2 : Int), (-1 : Int)) = chkW d.slots d.ts d.cs) := by
      have e2 : (decide (5 < (d.ts.length : Int)) || !inB d.cs.length 1 60000) = true := by
        rw [Bool.or_eq_true, decide_eq_true_eq, Bool.not_eq_true', ← Bool.not_eq_true, inB_iff]
        omega
      have e1 : sizesN d.slots d.ts d.cs.length = (2, -1) := by unfold sizesN; rw [if_neg (by rw [hin]; decide), if_pos e2]
      show _ = _
      unfold chkW
      rw [e1, if_pos (by decide)]
    have HIN := hid hin
    clear hin
    go_wp2_with fail
    refine (HFA.out _ _ _).mono ?_
    rintro e w9 ⟨rfl, b9⟩
    have B9 := hid (bl_step HB.out b9)
    obtain ⟨y0, y1, y2, y3, yl⟩ := (FB.out.step b9).cells
    have HP := hid ((FB.out.step b9).put B9.out)
    clear b9
    go_wp2
    exact bodyPost_ret (v := .agg #[.int .i64 2, .int .i64 (-1)]) (by simp [results, Try.results12, go_sem, *]) rfl (HT.out _ _ _ E.out (HP.out _ _))
  by_cases t2 : 60000 < (d.code.n : Int)
  · have E : Hid (((2 : Int), (-1 : Int)) = chkW d.slots d.ts d.cs) := by
      have e2 : (decide (5 < (d.ts.length : Int)) || !inB d.cs.length 1 60000) = true := by
        rw [Bool.or_eq_true, decide_eq_true_eq, Bool.not_eq_true', ← Bool.not_eq_true, inB_iff]
        omega
      have e1 : sizesN d.slots d.ts d.cs.length = (2, -1) := by unfold sizesN; rw [if_neg (by rw [hin]; decide), if_pos e2]
      show _ = _
      unfold chkW
      rw [e1, if_pos (by decide)]
    have HIN := hid hin
    clear hin
    go_wp2_with fail
    refine (HFA.out _ _ _).mono ?_
    rintro e w9 ⟨rfl, b9⟩
    have B9 := hid (bl_step HB.out b9)
    obtain ⟨y0, y1, y2, y3, yl⟩ := (FB.out.step b9).cells
    have HP := hid ((FB.out.step b9).put B9.out)
    clear b9
    go_wp2
    exact bodyPost_ret (v := .agg #[.int .i64 2, .int .i64 (-1)]) (by simp [results, Try.results12, go_sem, *]) rfl (HT.out _ _ _ E.out (HP.out _ _))
  have ES : Hid (sizesN d.slots d.ts d.cs.length = shapesN d.ts 0) := by
    have e2 : ¬ ((decide (5 < (d.ts.length : Int)) || !inB d.cs.length 1 60000) = true) := by
      rw [Bool.or_eq_true, decide_eq_true_eq, Bool.not_eq_true', ← Bool.not_eq_true, inB_iff]
      omega
    show _ = _
    unfold sizesN
    rw [if_neg (by rw [hin]; decide), if_neg e2]
  have HIN := hid hin
  have HSL : Hid (0 ≤ d.slots ∧ d.slots ≤ 96) := by show _ ∧ _; omega
  have HNC : Hid (1 ≤ d.code.n ∧ d.code.n ≤ 60000) := by show _ ∧ _; omega
  clear hin
  go_wp2
  clear s0 s1 t0 t1 t2 p0 p1 p2
  go_loopw [3, 4] (fun q _ wr => ∃ k : Nat, k ≤ d.tabs.n ∧ q = .int .i64 k ∧ Hid (Below W2.heap.size W2 wr) ∧ Hid (∀ j t, j < k → d.ts[j]? = some t → shapeB t = true)) (fun q _ _ => d.tabs.n - (intOf q).toNat)
  case atStart => exact ⟨0, Nat.zero_le _, rfl, Below.refl _ _, fun j t hj => absurd hj (Nat.not_lt_zero _)⟩
  case round =>
    obtain ⟨k, hk, rfl, hb, HA⟩ := hrel
    obtain ⟨p0, p1, p2⟩ := PB.out.step hb.out
    by_cases hlt : k < d.tabs.n
    · have hki : (k : Int) < (d.tabs.n : Int) := by omega
      obtain ⟨g, o, t, ea, ht, ⟨x0, _⟩, ⟨x1, _⟩, ⟨x2, _⟩⟩ := grow_at ((HL.out.step HB.out).t.step ShapeD.keeps hb.out) hlt
      have HTT := hid ht
      rw [ea] at p1
      have hwk := gwrap_i (-2 - (k : Int)) (by omega) (by omega)
      have B4 := hid (bl_alloc (o := .cells #[.int .i64 t.keys, .int .i64 t.acts, .int .i64 t.args] 64) hb.out)
      have HBW := hid (bl_step HB.out B4.out)
      have FB4 := hid (FB.out.step B4.out)
      have EBAD : Hid (shapeB t = false → (1, -2 - (k : Int)) = chkW d.slots d.ts d.cs) := by
        intro hsb
        have e0 := shapes_bad HA.out HTT.out hsb
        unfold chkW
        rw [ES.out, e0, if_pos (by simp)]
      clear ht ea p0 p2
      by_cases a1 : t.keys < 1
      · have E := hid (EBAD.out (by
          have : ¬ (shapeB t = true) := by
            unfold shapeB
            simp only [Bool.and_eq_true, inB_iff]
            omega
          simpa using this))
        clear EBAD
        go_wp2_with fail
        refine (HFA.out _ _ _).mono ?_
        rintro e w9 ⟨rfl, b9⟩
        have B9 := hid (bl_step HBW.out b9)
        obtain ⟨y0, y1, y2, y3, yl⟩ := (FB4.out.step b9).cells
        have HP := hid ((FB4.out.step b9).put B9.out)
        clear b9
        go_wp2
        exact bodyPost_ret (v := .agg #[.int .i64 1, .int .i64 (-2 - (k : Int))]) (by simp [results, Try.results12, go_sem, *]) rfl (HT.out _ _ _ E.out (HP.out _ _))
      by_cases a2 : 3 < t.keys
      · have E := hid (EBAD.out (by
          have : ¬ (shapeB t = true) := by
            unfold shapeB
            simp only [Bool.and_eq_true, inB_iff]
            omega
          simpa using this))
        clear EBAD
        go_wp2_with fail
        refine (HFA.out _ _ _).mono ?_
        rintro e w9 ⟨rfl, b9⟩
        have B9 := hid (bl_step HBW.out b9)
        obtain ⟨y0, y1, y2, y3, yl⟩ := (FB4.out.step b9).cells
        have HP := hid ((FB4.out.step b9).put B9.out)
        clear b9
        go_wp2
        exact bodyPost_ret (v := .agg #[.int .i64 1, .int .i64 (-2 - (k : Int))]) (by simp [results, Try.results12, go_sem, *]) rfl (HT.out _ _ _ E.out (HP.out _ _))
      by_cases a3 : t.acts < 1
      · have E := hid (EBAD.out (by
          have : ¬ (shapeB t = true) := by
            unfold shapeB
            simp only [Bool.and_eq_true, inB_iff]
            omega
          simpa using this))
        clear EBAD
        go_wp2_with fail
        refine (HFA.out _ _ _).mono ?_
        rintro e w9 ⟨rfl, b9⟩
        have B9 := hid (bl_step HBW.out b9)
        obtain ⟨y0, y1, y2, y3, yl⟩ := (FB4.out.step b9).cells
        have HP := hid ((FB4.out.step b9).put B9.out)
        clear b9
        go_wp2
        exact bodyPost_ret (v := .agg #[.int .i64 1, .int .i64 (-2 - (k : Int))]) (by simp [results, Try.results12, go_sem, *]) rfl (HT.out _ _ _ E.out (HP.out _ _))
      by_cases a4 : 8 < t.acts
      · have E := hid (EBAD.out (by
          have : ¬ (shapeB t = true) := by
            unfold shapeB
            simp only [Bool.and_eq_true, inB_iff]
            omega
          simpa using this))
        clear EBAD
        go_wp2_with fail
        refine (HFA.out _ _ _).mono ?_
        rintro e w9 ⟨rfl, b9⟩
        have B9 := hid (bl_step HBW.out b9)
        obtain ⟨y0, y1, y2, y3, yl⟩ := (FB4.out.step b9).cells
        have HP := hid ((FB4.out.step b9).put B9.out)
        clear b9
        go_wp2
        exact bodyPost_ret (v := .agg #[.int .i64 1, .int .i64 (-2 - (k : Int))]) (by simp [results, Try.results12, go_sem, *]) rfl (HT.out _ _ _ E.out (HP.out _ _))
      by_cases a5 : t.args < 0
      · have E := hid (EBAD.out (by
          have : ¬ (shapeB t = true) := by
            unfold shapeB
            simp only [Bool.and_eq_true, inB_iff]
            omega
          simpa using this))
        clear EBAD
        go_wp2_with fail
        refine (HFA.out _ _ _).mono ?_
        rintro e w9 ⟨rfl, b9⟩
        have B9 := hid (bl_step HBW.out b9)
        obtain ⟨y0, y1, y2, y3, yl⟩ := (FB4.out.step b9).cells
        have HP := hid ((FB4.out.step b9).put B9.out)
        clear b9
        go_wp2
        exact bodyPost_ret (v := .agg #[.int .i64 1, .int .i64 (-2 - (k : Int))]) (by simp [results, Try.results12, go_sem, *]) rfl (HT.out _ _ _ E.out (HP.out _ _))
      by_cases a6 : 3 < t.args
      · have E := hid (EBAD.out (by
          have : ¬ (shapeB t = true) := by
            unfold shapeB
            simp only [Bool.and_eq_true, inB_iff]
            omega
          simpa using this))
        clear EBAD
        go_wp2_with fail
        refine (HFA.out _ _ _).mono ?_
        rintro e w9 ⟨rfl, b9⟩
        have B9 := hid (bl_step HBW.out b9)
        obtain ⟨y0, y1, y2, y3, yl⟩ := (FB4.out.step b9).cells
        have HP := hid ((FB4.out.step b9).put B9.out)
        clear b9
        go_wp2
        exact bodyPost_ret (v := .agg #[.int .i64 1, .int .i64 (-2 - (k : Int))]) (by simp [results, Try.results12, go_sem, *]) rfl (HT.out _ _ _ E.out (HP.out _ _))
      have HA2 : Hid (∀ j t, j < k + 1 → d.ts[j]? = some t → shapeB t = true) := fun j u hj hu => by
        rcases Nat.lt_or_ge j k with h | h
        · exact HA.out j u h hu
        · obtain rfl : j = k := by omega
          rw [HTT.out] at hu
          cases hu
          unfold shapeB
          simp only [Bool.and_eq_true, inB_iff]
          omega
      clear EBAD HA HTT
      go_wp2
      go_roundw
      case rel => exact ⟨k + 1, by omega, by go_num, B4, HA2⟩
      case measure => simp [intOf]; omega
    · have hki : ¬ (k : Int) < (d.tabs.n : Int) := by omega
      have ES0 : sizesN d.slots d.ts d.cs.length = (0, 0) := by
        rw [ES.out]
        exact shapes_good fun j t hj ht => HA.out j t (by have := N1.out; omega) ht
      have HOK : Hid (OkSz d) := sizes_ok N1.out N2.out (by rw [ES0])
      have ESZ := hid ES0
      have hkm := HNC.out.2
      clear ES0 HA p0 p2
      go_wp2
      clear p1 hki hk hlt
      go_loopw [5, 6, 7] (fun q _ _ wr => ∃ k : Nat, k ≤ d.code.n ∧ q = .int .i64 k ∧ Hid (Below W2.heap.size W2 wr) ∧ Hid (∀ (j : Nat) x, j < k → d.cs[j]? = some x → insN d.slots d.ts d.code.n j x = 0)) (fun q _ _ _ => d.code.n - (intOf q).toNat)
      case atStart => exact ⟨0, Nat.zero_le _, rfl, hb, fun j t hj => absurd hj (Nat.not_lt_zero _)⟩
      case round =>
        obtain ⟨k, hk, rfl, hb, HA⟩ := hrel
        obtain ⟨p0, p1, p2⟩ := PB.out.step hb.out
        by_cases hlt : k < d.code.n
        · have hki : (k : Int) < (d.code.n : Int) := by omega
          obtain ⟨g, o, x, ea, hx, ⟨x0, y0⟩, ⟨x1, y1⟩, ⟨x2, y2⟩, ⟨x3, y3⟩, ⟨x4, y4⟩, ⟨x5, y5⟩⟩ := grow_at ((HL.out.step HB.out).c.step InsD.keeps hb.out) hlt
          have HX := hid hx
          have HIF : Hid (∀ p : BelowBy wr, Calls Try.prog 26 #[d.v, x.v] p.to (TellB (formB x && fitsB d.slots d.ts x) p.to)) := fun p => rinsForm d x p.to (HL.out.step (bl_step HB.out (bl_step hb.out p.h))) HOK.out ⟨y0, y1, y2, y3, y4, y5⟩
          have EN : Hid (insN d.slots d.ts d.code.n k x = if (formB x && fitsB d.slots d.ts x) = false then 4 else if (hasT x.op && decide ((d.code.n : Int) - 1 - k ≤ x.to)) = true then 17 else 0) := rfl
          have EA := hid ea
          have EBAD : Hid (insN d.slots d.ts d.code.n k x ≠ 0 → (insN d.slots d.ts d.code.n k x, (k : Int)) = chkW d.slots d.ts d.cs) := by
            intro hne
            have e0 := inss_bad (m := (d.code.n : Int)) HA.out HX.out hne
            unfold chkW
            rw [N2.out, if_neg (by have := ESZ.out; rw [N2.out] at this; rw [this]; decide), e0, if_pos hne]
          have p0' := cell_by p0
          have p1' := cell_by p1
          have p2' := cell_by p2
          rw [ea] at p2'
          have q2' := cell_by p2
          have x0' := cell_by x0
          have x1' := cell_by x1
          have x2' := cell_by x2
          have x3' := cell_by x3
          have x4' := cell_by x4
          have x5' := cell_by x5
          dsimp only [ProgD.v, InsD.v] at HIF
          rw [ea] at HIF
          have FRR : Hid (∀ w', Below wr.heap.size wr w' → w'.cell? ⟨pb, 2, none⟩ = some (.slice (some ⟨g, o, none⟩) d.code.n d.code.c) ∧ w'.cell? ⟨g, o + k * 6, none⟩ = some (.int .i64 x.op) ∧ w'.cell? ⟨g, o + k * 6 + 4, none⟩ = some (.int .i64 x.to)) := fun w' h => ⟨by have := cell_keep p2 h; rw [ea] at this; exact this, cell_keep x0 h, cell_keep x4 h⟩
          generalize hG : (formB x && fitsB d.slots d.ts x) = G at *
          rw [ea] at p2
          clear hx ea p0 p1 x0 x1 x2 x3 x4 x5 y0 y1 y2 y3 y4 y5 q2' hG
          go_wp2_with fail
          haveI inhB : ∀ w : World, Inhabited (BelowBy w) := fun w => ⟨⟨w, Below.refl _ _⟩⟩
          refine wp_region_quiet_below (by kernel_rfl) (by kernel_rfl) ?_
          clear p2
          repeat (go_big_quiet_step (first | (go_at_call 26; exact calls_below _ (HIF.out _))))
          refine wpQuiet_nil ?_
          intro wq hw'
          obtain ⟨⟨w4, hwq⟩, hw''⟩ := hw'
          subst hw''
          have B4 := hid (bl_step hb.out hwq)
          have HBW := hid (bl_step HB.out B4.out)
          have FB4 := hid (FB.out.step B4.out)
          obtain ⟨r0, r1, r2⟩ := FRR.out _ hwq
          have FR4 := hid (fun w' h => FRR.out w' (bl_step hwq h))
          clear HIF FRR p0' p1' p2' x0' x1' x2' x3' x4' x5' hwq hb
          cases G with
          | false =>
            have E4 : insN d.slots d.ts d.code.n k x = 4 := by rw [EN.out, if_pos rfl]
            have E : Hid (((4 : Int), (k : Int)) = chkW d.slots d.ts d.cs) := by
              have := EBAD.out (by rw [E4]; decide)
              rw [E4] at this
              exact this
            clear E4 EBAD EN HA r0 r1 r2 FR4
            go_wp2_with fail
            refine (HFA.out _ _ _).mono ?_
            rintro e w9 ⟨rfl, b9⟩
            have B9 := hid (bl_step HBW.out b9)
            obtain ⟨y0, y1, y2, y3, yl⟩ := (FB4.out.step b9).cells
            have HP := hid ((FB4.out.step b9).put B9.out)
            clear b9
            go_wp2
            exact bodyPost_ret (v := .agg #[.int .i64 4, .int .i64 (k : Int)]) (by simp [results, Try.results12, go_sem, *]) rfl (HT.out _ _ _ E.out (HP.out _ _))
          | true =>
            have HFL := hid (rfields x.op wq)
            go_wp2_with fail
            refine HFL.out.mono ?_
            rintro e w5 ⟨rfl, b5⟩
            obtain ⟨W6, hW6⟩ : ∃ W6, W6 = w5.alloc (.cells #[.bool (hasR x.op), .bool (hasS x.op), .bool (hasK x.op), .bool (hasT x.op), .bool (hasN x.op)] 59) := ⟨_, rfl⟩
            obtain ⟨hb, hhb⟩ : ∃ b, b = w5.heap.size := ⟨_, rfl⟩
            have b6 : Below wq.heap.size wq W6 := by rw [hW6]; exact bl_alloc b5
            have h3 : W6.cell? ⟨hb, 3, none⟩ = some (.bool (hasT x.op)) := by rw [hW6, hhb]; simp
            obtain ⟨r3, r4, r5⟩ := FR4.out _ b6
            have B6 := hid (bl_step B4.out b6)
            have HBW6 := hid (bl_step HB.out B6.out)
            have FB6 := hid (FB.out.step B6.out)
            have EW6 := hid hW6
            have EHB := hid hhb
            have hw1 := gwrap_i ((d.code.n : Int) - 1) (by omega) (by omega)
            have hw2 := gwrap_i ((d.code.n : Int) - 1 - (k : Int)) (by omega) (by omega)
            have HG : Hid (insN d.slots d.ts d.code.n k x = if (hasT x.op && decide ((d.code.n : Int) - 1 - k ≤ x.to)) = true then 17 else 0) := by show _ = _; rw [EN.out, if_neg (by decide)]
            have HA2 : Hid (insN d.slots d.ts d.code.n k x = 0 → ∀ (j : Nat) x, j < k + 1 → d.cs[j]? = some x → insN d.slots d.ts d.code.n j x = 0) := fun h0 j u hj hu => by
              rcases Nat.lt_or_ge j k with h | h
              · exact HA.out j u h hu
              · obtain rfl : j = k := by omega
                rw [HX.out] at hu
                cases hu
                exact h0
            clear hW6 hhb b6 b5 HFL r0 r1 r2 FR4 B4 HBW FB4 HA EN
            go_upto_region 17 with fail
            rw [← EW6.out, ← EHB.out]
            clear EW6 EHB
            cases hZ : hasT x.op with
            | false =>
              rw [hZ] at h3
              have E0 : insN d.slots d.ts d.code.n k x = 0 := by rw [HG.out, hZ, Bool.false_and, if_neg (by decide)]
              have HA3 := hid (HA2.out E0)
              clear hZ E0 HA2 HG EBAD
              go_quiet (fail)
              have B7 : Hid (Below W2.heap.size W2 (W6.drewN nq)) := bl_step B6.out ⟨rfl, rfl, rfl, Nat.le_refl _, fun _ _ => rfl⟩
              clear h3 r3 r4 r5
              go_wp2
              go_roundw
              case rel => exact ⟨k + 1, by omega, by go_num, B7, HA3⟩
              case measure => simp [intOf]; omega
            | true =>
              rw [hZ] at h3
              by_cases hj : (d.code.n : Int) - 1 - (k : Int) ≤ x.to
              · have hjd := decide_eq_true hj
                have E4 : insN d.slots d.ts d.code.n k x = 17 := by rw [HG.out, hZ, Bool.true_and, if_pos hjd]
                have E : Hid (((17 : Int), (k : Int)) = chkW d.slots d.ts d.cs) := by
                  have := EBAD.out (by rw [E4]; decide)
                  rw [E4] at this
                  exact this
                clear hZ E4 HA2 HG EBAD
                go_quiet (fail)
                have b7 : Below W6.heap.size W6 (W6.drewN nq) := ⟨rfl, rfl, rfl, Nat.le_refl _, fun _ _ => rfl⟩
                have HBW7 := hid (bl_step HBW6.out b7)
                have FB7 := hid (FB6.out.step b7)
                clear h3 r3 r4 r5 b7
                generalize W6.drewN nq = W7 at *
                go_wp2_with fail
                refine (HFA.out _ _ _).mono ?_
                rintro e w9 ⟨rfl, b9⟩
                have B9 := hid (bl_step HBW7.out b9)
                obtain ⟨y0, y1, y2, y3, yl⟩ := (FB7.out.step b9).cells
                have HP := hid ((FB7.out.step b9).put B9.out)
                clear b9
                go_wp2
                exact bodyPost_ret (v := .agg #[.int .i64 17, .int .i64 (k : Int)]) (by simp [results, Try.results12, go_sem, *]) rfl (HT.out _ _ _ E.out (HP.out _ _))
              · have hjd := decide_eq_false hj
                have E0 : insN d.slots d.ts d.code.n k x = 0 := by rw [HG.out, hZ, Bool.true_and, if_neg (by rw [hjd]; decide)]
                have HA3 := hid (HA2.out E0)
                clear hZ E0 HA2 HG EBAD
                go_quiet (fail)
                have B7 : Hid (Below W2.heap.size W2 (W6.drewN nq)) := bl_step B6.out ⟨rfl, rfl, rfl, Nat.le_refl _, fun _ _ => rfl⟩
                clear h3 r3 r4 r5
                go_wp2
                go_roundw
                case rel => exact ⟨k + 1, by omega, by go_num, B7, HA3⟩
                case measure => simp [intOf]; omega
        · have hki : ¬ (k : Int) < (d.code.n : Int) := by omega
          have h1n := HNC.out.1
          obtain ⟨g, o, x, ea, hx, ⟨x0, _⟩, _⟩ := grow_at (HL.out.step (bl_step HB.out hb.out)).c (show d.code.n - 1 < d.code.n by omega)
          have EI : Hid (inssN d.slots d.ts d.code.n d.cs 0 = (0, 0)) := inss_good fun j t hj ht => HA.out j t (by have := N2.out; omega) ht
          obtain ⟨m, hmm⟩ : ∃ m : Nat, d.code.n = m + 1 := ⟨d.code.n - 1, by omega⟩
          have ECK : Hid (chkW d.slots d.ts d.cs = if endsB x.op = true then (0, 0) else (18, (m : Int))) := by
            show _ = _
            unfold chkW
            rw [ESZ.out, if_neg (by decide), N2.out, hx, EI.out, if_neg (by decide), hmm]
            congr 2
            omega
          rw [hmm] at x0 p2
          rw [ea] at p2
          rw [show m + 1 - 1 = m from rfl] at x0
          have hmi : (m : Int) < ((m + 1 : Nat) : Int) := by omega
          have hm0 : (m : Int) ≤ 60000 := by omega
          have hwm : IntKind.i64.wrap (((m + 1 : Nat) : Int) - 1) = (m : Int) := by rw [gwrap_i _ (by omega) (by omega)]; omega
          have hki2 : ¬ (k : Int) < ((m + 1 : Nat) : Int) := by omega
          have HBW := hid (bl_step HB.out hb.out)
          have FB4 := hid (FB.out.step hb.out)
          clear ea hx EI HA p0 p1 hb hmm h1n hlt hk
          by_cases a1 : x.op = 16
          · have d1 : (x.op != 16) = false := by simpa using a1
            have E : Hid (((0 : Int), (0 : Int)) = chkW d.slots d.ts d.cs) := by show _ = _; rw [ECK.out, if_pos (by simp [endsB, a1])]
            clear a1 ECK
            obtain ⟨y0, y1, y2, y3, yl⟩ := FB4.out.cells
            have HP := hid (FB4.out.put HBW.out)
            go_wp2
            exact bodyPost_ret (v := .agg #[.int .i64 0, .int .i64 0]) (by simp [results, Try.results12, go_sem, *]) rfl (HT.out _ _ _ E.out (HP.out _ _))
          have d1 : (x.op != 16) = true := by simpa using a1
          by_cases a2 : x.op = 17
          · have d2 : (x.op != 17) = false := by simpa using a2
            have E : Hid (((0 : Int), (0 : Int)) = chkW d.slots d.ts d.cs) := by show _ = _; rw [ECK.out, if_pos (by simp [endsB, a2])]
            clear a1 a2 ECK
            obtain ⟨y0, y1, y2, y3, yl⟩ := FB4.out.cells
            have HP := hid (FB4.out.put HBW.out)
            go_wp2
            exact bodyPost_ret (v := .agg #[.int .i64 0, .int .i64 0]) (by simp [results, Try.results12, go_sem, *]) rfl (HT.out _ _ _ E.out (HP.out _ _))
          have d2 : (x.op != 17) = true := by simpa using a2
          have E : Hid (((18 : Int), (m : Int)) = chkW d.slots d.ts d.cs) := by show _ = _; rw [ECK.out, if_neg (by simp [endsB, a1, a2])]
          clear a1 a2 ECK
          go_wp2_with fail
          refine (HFA.out _ _ _).mono ?_
          rintro e w9 ⟨rfl, b9⟩
          have B9 := hid (bl_step HBW.out b9)
          obtain ⟨y0, y1, y2, y3, yl⟩ := (FB4.out.step b9).cells
          have HP := hid ((FB4.out.step b9).put B9.out)
          clear b9
          go_wp2
          exact bodyPost_ret (v := .agg #[.int .i64 18, .int .i64 (m : Int)]) (by simp [results, Try.results12, go_sem, *]) rfl (HT.out _ _ _ E.out (HP.out _ _))
end Go.Proofs.Ytmohffibkpecpaa
