/- What Add of the document's own table by beginnings does where the place is free. -/
import Derived.Test.YtlnkfgdepddmlacRAdd
import Derived.Deep.RegionHeld3
namespace Go.Proofs.Ytlnkfgdepddmlac
open Go.RowKit Mth

theorem fst_one (key : Nat) : fst [(key : Int)] = key := by simp [fst]

/-- the head's list and the entry's cells stay -/
theorem keep7r {w w' : World} {r s : Nat} {la kb : Option Addr} {ln lc bn bc : Nat} {y1 y2 y3 y4 y5 : Value}
    (h : w.cell? ⟨r, 4, none⟩ = some (.slice la ln lc) ∧ w.cell? ⟨s, 0, none⟩ = some (.slice kb bn bc) ∧ w.cell? ⟨s, 1, none⟩ = some y1 ∧ w.cell? ⟨s, 2, none⟩ = some y2 ∧ w.cell? ⟨s, 3, none⟩ = some y3 ∧ w.cell? ⟨s, 4, none⟩ = some y4 ∧ w.cell? ⟨s, 5, none⟩ = some y5) (m : Below w.heap.size w w') :
    w'.cell? ⟨r, 4, none⟩ = some (.slice la ln lc) ∧ w'.cell? ⟨s, 0, none⟩ = some (.slice kb bn bc) ∧ w'.cell? ⟨s, 1, none⟩ = some y1 ∧ w'.cell? ⟨s, 2, none⟩ = some y2 ∧ w'.cell? ⟨s, 3, none⟩ = some y3 ∧ w'.cell? ⟨s, 4, none⟩ = some y4 ∧ w'.cell? ⟨s, 5, none⟩ = some y5 := by
  obtain ⟨h0, h7, h8, h9, h10, h11, h12⟩ := h
  have m := moved_below m
  have t0 := tight_slice la ln lc
  have t7 := tight_slice kb bn bc
  exact ⟨m.cell h0 h0 t0, m.cell h7 h7 t7, m.cell h8 h7 t7, m.cell h9 h7 t7, m.cell h10 h7 t7, m.cell h11 h7 t7, m.cell h12 h7 t7⟩

/-- the head's list may be written -/
theorem store_ok {w3 wA w5 : World} {B r : Nat} {wd most : Int} {la : Option Addr} {n cap : Nat} {E : List Ent} (hr : RHead w3 r wd most) (h4 : w3.cell? ⟨r, 4, none⟩ = some (.slice la n cap)) (hf : w3.frozen? ⟨r, 4, none⟩ = false) (hl : Row w3 B la n cap E) (hb : Below w3.heap.size w3 wA) (hg : wA.grownBy w5 (Value.slice la n cap).ownBlock) :
    w5.cell? ⟨r, 4, none⟩ = some (.slice la n cap) ∧ w5.frozen? ⟨r, 4, none⟩ = false := by
  have hrl : r < w3.heap.size := World.block_lt_of_cell? w3 _ h4
  have h4A := (hb.cell (p := ⟨r, 4, none⟩) hrl).trans h4
  have hlA : Row wA B la n cap E := hl.keep (fun g e h0 => by
    obtain ⟨g2, e2, _, hlt⟩ := hl.some h0
    rw [e] at e2
    have : g = g2 := by simpa using e2
    rw [this]; exact hb.block g2 hlt) (fun a m zs _ hz => hz.step hb)
  have hrr := (radd_turn (hr.step hb) h4A hlA hg (.pointer none)).2.2
  exact ⟨(World.cell?_of_block (w := wA) (w' := w5) (a := ⟨r, 4, none⟩) hrr).trans h4A, (World.frozen?_of_block (w := wA) (w' := w5) (a := ⟨r, 4, none⟩) hrr).trans ((hb.frozen (p := ⟨r, 4, none⟩) hrl).trans hf)⟩

set_option maxHeartbeats 4000000 in
set_option maxRecDepth 20000 in
theorem radd_rest {w : World} {B S r : Nat} {wd most : Int} {C : Told2} {es : List (Nat × Nat)} {kg ko kc : Nat} {ln ac : Int} {aa : Option Addr} {an ca key : Nat} {xs : List Int} (t : Rws w B S r wd most C es) (nd : es.Nodup) (mem : ∀ n v, (n, v) ∈ es ↔ (C n v).isSome = true) (hl : es.length ≤ 100000) (ha : Arg w kg ko kc aa an ca key xs) (hg : Good wd key ln) (hC : C (place wd key ln).1 (place wd key ln).2 = none) :
    Calls Try.prog 13 #[.pointer (some ⟨r, 0, none⟩), AV kg ko kc ln ac aa an ca] w fun e w' => RAddDone w w' B S r wd most C es key ln (ac, xs) e := by
  have hb0 := bl_alloc (o := AC kg ko kc ln ac aa an ca) (Below.refl w.heap.size w)
  have HM := hid (may_any (ln := ln) (ac := ac) (t.hd.step hb0) (ha.step hb0))
  have HT := hid t
  have HA := hid ha
  have B0 := hid hb0
  have SX := hid (six_new w (.slice (some ⟨kg, ko, none⟩) 1 kc) (.slice none 0 0) (.int .i64 ln) (.int .i64 0) (.int .i64 ac) (.slice aa an ca) 33)
  obtain ⟨x0, x1, x2, x3, x4, x5, -, -, -, -, -, -⟩ := SX.out
  have HG := hid hg
  have hj : whereAt es (place wd key ln) = -1 := at_no (fun hm => by
    have h1 : (C (place wd key ln).1 (place wd key ln).2).isSome = true := (mem _ _).1 hm
    rw [hC] at h1; cases h1)
  have HJ := hid hj
  have HC := hid hC
  have HND := hid nd
  have HMEM := hid mem
  clear t ha hb0 hg hj hC nd mem
  go_enter Try.func13, Try.ntmps13
  go_wp2_with fail
  refine HM.out.mono ?_
  rintro e w1 ⟨rfl, hb1⟩
  rw [if_pos HG.out]
  have B1 := hid (bl_step B0.out hb1)
  have HAT := hid (at_any (ac := ac) (HT.out.step B1.out) HND.out hl (HA.out.step B1.out) HG.out)
  obtain ⟨y0, y1, y2, y3, y4, y5, -, -, -, -, -, -⟩ := SX.out.step hb1
  have S1 := hid (SX.out.step hb1)
  clear HM hb1 x0 x1 x2 x3 x4 x5 SX B0
  go_wp2_with fail
  refine HAT.out.mono ?_
  rintro e w2 ⟨rfl, hb2⟩
  rw [HJ.out]
  have B2 := hid (bl_step B1.out hb2)
  have S2 := hid (S1.out.step hb2)
  have T2 := hid (HT.out.step B2.out)
  have r0 := T2.out.hd.c0
  have r3 := T2.out.hd.c3
  obtain ⟨la, cap, r4, hrow, hlS⟩ := T2.out.lst
  have h4w : w.cell? ⟨r, 4, none⟩ = some (.slice la es.length cap) := by
    rw [← B2.out.cell (p := ⟨r, 4, none⟩) (show r < w.heap.size from World.block_lt_of_cell? w _ HT.out.hd.c0)]
    exact r4
  have H4 := hid h4w
  have HROW := hid hrow
  clear HAT hb2 HJ y0 y1 y2 y3 y4 y5 S1 hrow hlS h4w
  obtain ⟨y0, y1, y2, y3, y4, y5, -, -, -, -, -, -⟩ := S2.out
  go_wp2_with fail
  go_loopw [6] (fun q wr => q = .int .i64 0 ∧ wr = w2) (fun _ _ => 0)
  case atStart => exact ⟨rfl, rfl⟩
  case round =>
    obtain ⟨rfl, rfl⟩ := hrel
    by_cases hne : (0 : Int) < (es.length : Int)
    · go_wp2_with fail
      go_quiet (fail)
      by_cases hfull : most ≤ (es.length : Int)
      · have HE : Hid (∀ s, RAddDone w (wr.drewN s) B S r wd most C es key ln (ac, xs) (.returned (.int .i64 10))) := fun s => radd_keep HT.out (below_drewN B2.out s) (by unfold addCode; rw [if_pos HG.out, HC.out, if_neg (by simp), if_pos hfull]) (by decide)
        clear HG HT B1 B2 S2 T2 HC HA HND HMEM H4 HROW
        go_wp2
        go_ret
        exact HE.out _
      · have hfl : (es.length : Int) < most := by omega
        go_wp2_with fail
        have B3 := hid (below_drewN B2.out nq)
        have hf3 : (wr.drewN nq).frozen? ⟨r, 4, none⟩ = false := T2.out.f4
        have z4 : (wr.drewN nq).cell? ⟨r, 4, none⟩ = some (.slice la es.length cap) := r4
        have ROW3 := hid (HROW.out.keep (w' := wr.drewN nq) (fun _ _ _ => rfl) (fun _ _ _ _ h => h))
        have S3 : Hid (Six (wr.drewN nq) w.heap.size (.slice (some ⟨kg, ko, none⟩) 1 kc) (.slice none 0 0) (.int .i64 ln) (.int .i64 0) (.int .i64 ac) (.slice aa an ca)) := S2.out.step (drew_below wr nq)
        have RH3 := hid (T2.out.hd.step (drew_below wr nq))
        clear y0 y1 y2 y3 y4 y5 r0 r3 r4 S2 T2 B2 HROW B1 hne
        generalize wr.drewN nq = w3 at *
        obtain ⟨y0, y1, y2, y3, y4, y5, -, -, -, -, -, -⟩ := S3.out
        have A3 := hid (HA.out.step B3.out)
        have hbd : Below w3.heap.size w3 w3.drew := (Below.refl _ _).drew
        have HKP := hid (kept_any (ln := ln) (ac := ac) (RH3.out.step hbd) (A3.out.step hbd))
        obtain ⟨ds, dl, _, dow, _, dgood⟩ := ROW3.out
        have DOW := hid dow
        have DG := hid dgood
        have hBs : B ≤ w3.heap.size := by have := HT.out.small; have := B3.out.size; omega
        clear dow dgood hfull
        go_region_law (first
          | (refine step6 (by rfl) _ _ (by rfl) B es.length cap la (ds.flatMap ED.cells) (ED.cells ⟨some ⟨kb, kf, none⟩, 1, ck, ln, ac, a4, an, c4⟩) ⟨w4.heap.size, 0, none⟩ 1 (by rfl) (by rfl) ((owns_below DOW.out (bl_step hbd hb4)).alloc _) rfl (six_cells w4 ⟨some ⟨kb, kf, none⟩, 1, ck, ln, ac, a4, an, c4⟩ 33) (six_one _) hl (by have := hb4.size; have := hbd.size; simp; omega) ?_; intro g5 cap5 w5 ho5 hg5; obtain ⟨q4, qf⟩ := store_ok RH3.out z4 hf3 ROW3.out (bl_alloc (bl_step hbd hb4)) hg5)
          | (go_simp; go_at_call 42; refine HKP.out.mono ?_; rintro e w4 ⟨kb, kf, ck, a4, c4, rfl, lk4, la4, hb4⟩; have p4 : w4.cell? ⟨r, 4, none⟩ = some (.slice la es.length cap) := ((bl_step hbd hb4).cell (p := ⟨r, 4, none⟩) (show r < w3.heap.size from World.block_lt_of_cell? w3 _ z4)).trans z4; have hrl4 : r < w4.heap.size := World.block_lt_of_cell? w4 _ p4))
        all_goals
          rw [fst_one] at lk4
          have hwA : Below w4.heap.size w4 (w4.alloc (EC (some ⟨kb, kf, none⟩) 1 ck none 0 0 ln 0 ac a4 an c4)) := bl_alloc (Below.refl _ _)
          have HEND := hid (radd_end HT.out HMEM.out HG.out HC.out hfl (bl_step (bl_step (bl_step B3.out hbd) hb4) hwA) H4.out dl (fun i d e hd he => ⟨((DG.out i d e hd he).1.moved (moved_below (bl_step hbd hb4))).moved (moved_below hwA), (DG.out i d e hd he).2⟩) ((lk4.step hwA).mono (Nat.zero_le _)) ((la4.step hwA).mono (Nat.zero_le _)) (by have := HA.out.small; omega) hg5 ho5)
          clear ho5 hg5 lk4 la4 hb4 HKP
          go_wp2
          go_ret
          exact HEND.out
    · go_wp2_with fail
      go_quiet (fail)
      by_cases hfull : most ≤ (es.length : Int)
      · have HE : Hid (∀ s, RAddDone w (wr.drewN s) B S r wd most C es key ln (ac, xs) (.returned (.int .i64 10))) := fun s => radd_keep HT.out (below_drewN B2.out s) (by unfold addCode; rw [if_pos HG.out, HC.out, if_neg (by simp), if_pos hfull]) (by decide)
        clear HG HT B1 B2 S2 T2 HC HA HND HMEM H4 HROW
        go_wp2
        go_ret
        exact HE.out _
      · have hfl : (es.length : Int) < most := by omega
        go_wp2_with fail
        have B3 := hid (below_drewN B2.out nq)
        have hf3 : (wr.drewN nq).frozen? ⟨r, 4, none⟩ = false := T2.out.f4
        have z4 : (wr.drewN nq).cell? ⟨r, 4, none⟩ = some (.slice la es.length cap) := r4
        have ROW3 := hid (HROW.out.keep (w' := wr.drewN nq) (fun _ _ _ => rfl) (fun _ _ _ _ h => h))
        have S3 : Hid (Six (wr.drewN nq) w.heap.size (.slice (some ⟨kg, ko, none⟩) 1 kc) (.slice none 0 0) (.int .i64 ln) (.int .i64 0) (.int .i64 ac) (.slice aa an ca)) := S2.out.step (drew_below wr nq)
        have RH3 := hid (T2.out.hd.step (drew_below wr nq))
        clear y0 y1 y2 y3 y4 y5 r0 r3 r4 S2 T2 B2 HROW B1 hne
        generalize wr.drewN nq = w3 at *
        obtain ⟨y0, y1, y2, y3, y4, y5, -, -, -, -, -, -⟩ := S3.out
        have A3 := hid (HA.out.step B3.out)
        have hbd : Below w3.heap.size w3 w3.drew := (Below.refl _ _).drew
        have HKP := hid (kept_any (ln := ln) (ac := ac) (RH3.out.step hbd) (A3.out.step hbd))
        obtain ⟨ds, dl, _, dow, _, dgood⟩ := ROW3.out
        have DOW := hid dow
        have DG := hid dgood
        have hBs : B ≤ w3.heap.size := by have := HT.out.small; have := B3.out.size; omega
        clear dow dgood hfull
        go_region_law (first
          | (refine step6 (by rfl) _ _ (by rfl) B es.length cap la (ds.flatMap ED.cells) (ED.cells ⟨some ⟨kb, kf, none⟩, 1, ck, ln, ac, a4, an, c4⟩) ⟨w4.heap.size, 0, none⟩ 1 (by rfl) (by rfl) ((owns_below DOW.out (bl_step hbd hb4)).alloc _) rfl (six_cells w4 ⟨some ⟨kb, kf, none⟩, 1, ck, ln, ac, a4, an, c4⟩ 33) (six_one _) hl (by have := hb4.size; have := hbd.size; simp; omega) ?_; intro g5 cap5 w5 ho5 hg5; obtain ⟨q4, qf⟩ := store_ok RH3.out z4 hf3 ROW3.out (bl_alloc (bl_step hbd hb4)) hg5)
          | (go_simp; go_at_call 42; refine HKP.out.mono ?_; rintro e w4 ⟨kb, kf, ck, a4, c4, rfl, lk4, la4, hb4⟩; have p4 : w4.cell? ⟨r, 4, none⟩ = some (.slice la es.length cap) := ((bl_step hbd hb4).cell (p := ⟨r, 4, none⟩) (show r < w3.heap.size from World.block_lt_of_cell? w3 _ z4)).trans z4; have hrl4 : r < w4.heap.size := World.block_lt_of_cell? w4 _ p4))
        all_goals
          rw [fst_one] at lk4
          have hwA : Below w4.heap.size w4 (w4.alloc (EC (some ⟨kb, kf, none⟩) 1 ck none 0 0 ln 0 ac a4 an c4)) := bl_alloc (Below.refl _ _)
          have HEND := hid (radd_end HT.out HMEM.out HG.out HC.out hfl (bl_step (bl_step (bl_step B3.out hbd) hb4) hwA) H4.out dl (fun i d e hd he => ⟨((DG.out i d e hd he).1.moved (moved_below (bl_step hbd hb4))).moved (moved_below hwA), (DG.out i d e hd he).2⟩) ((lk4.step hwA).mono (Nat.zero_le _)) ((la4.step hwA).mono (Nat.zero_le _)) (by have := HA.out.small; omega) hg5 ho5)
          clear ho5 hg5 lk4 la4 hb4 HKP
          go_wp2
          go_ret
          exact HEND.out

theorem radd_any {w : World} {B S r : Nat} {wd most : Int} {C : Told2} {es : List (Nat × Nat)} {kg ko kc : Nat} {ln ac : Int} {aa : Option Addr} {an ca key : Nat} {xs : List Int} (t : Rws w B S r wd most C es) (nd : es.Nodup) (mem : ∀ n v, (n, v) ∈ es ↔ (C n v).isSome = true) (hl : es.length ≤ 100000) (ha : Arg w kg ko kc aa an ca key xs) :
    Calls Try.prog 13 #[.pointer (some ⟨r, 0, none⟩), AV kg ko kc ln ac aa an ca] w fun e w' => RAddDone w w' B S r wd most C es key ln (ac, xs) e := by
  by_cases hg : Good wd key ln
  · by_cases hC : (C (place wd key ln).1 (place wd key ln).2).isSome = true
    · exact radd_twice t nd mem hl ha hg hC
    · exact radd_rest t nd mem hl ha hg (isSome_not hC)
  · exact radd_bad t ha hg
end Go.Proofs.Ytlnkfgdepddmlac
