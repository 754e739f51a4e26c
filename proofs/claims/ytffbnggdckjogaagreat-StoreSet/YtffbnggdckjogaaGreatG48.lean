/- Texts of one chain, joined: SRules2, SRules3, SRules4. -/
import Derived.Test.YtffbnggdckjogaaGreatG22
import Derived.Test.YtffbnggdckjogaaGreatG19
namespace Go.Proofs.YtffbnggdckjogaaGreat
open Go.RowKit Mth
def hitC (M : List (Int × List Int)) (act : Int) (xs : List Int) : Int :=
  match M.find? (fun x => decide (x.1 = act)) with
  | none => 5
  | some x => if xs.length = x.2.length then (if Narrow xs x.2 then 0 else 6) else 2
theorem hitC_none {M : List (Int × List Int)} {act : Int} (xs : List Int) (h : ∀ x ∈ M, x.1 ≠ act) : hitC M act xs = 5 := by
  have e : M.find? (fun x => decide (x.1 = act)) = none := List.find?_eq_none.2 fun x hx => by simpa using h x hx
  unfold hitC
  rw [e]
theorem hitC_at {M : List (Int × List Int)} {act : Int} {f : Nat} {x : Int × List Int} (xs : List Int) (h : At1 M act f x) : hitC M act xs = if xs.length = x.2.length then (if Narrow xs x.2 then 0 else 6) else 2 := by
  have e : M.find? (fun x => decide (x.1 = act)) = some x := by
    rw [List.find?_eq_some_iff_getElem]
    obtain ⟨h1, h2, h3⟩ := h
    obtain ⟨hl, he⟩ := List.getElem?_eq_some_iff.1 h1
    refine ⟨by simpa using h2, f, hl, he, fun j hj => ?_⟩
    have := h3 j _ hj (List.getElem?_eq_getElem (by omega))
    simpa using this
  unfold hitC
  rw [e]
def HitDone (w w' : World) (M : List (Int × List Int)) (act : Int) (xs : List Int) (q : Ending) : Prop := q = .returned (.int .i64 (hitC M act xs)) ∧ Grew w w'
set_option maxHeartbeats 4000000 in
set_option maxRecDepth 20000 in
theorem whit_any {w : World} {b o : Nat} {kind : Int} {ws : List Int} {M : List (Int × List Int)} {a : Option Addr} {n c : Nat} {act : Int} {xs : List Int} (hr : Rul w b o kind ws M) (hx : Has .u64 w a n xs) (hn : n ≤ 100000) (hm : M.length ≤ 100000) :
    Calls Tryz.prog 27 #[.pointer (some ⟨b, o, none⟩), .agg #[.int .i64 act, .slice a n c]] w fun q w' => HitDone w w' M act xs q := by
  have hb0 := bl_alloc (o := HC act a n c) (Below.refl w.heap.size w)
  obtain ⟨ma, mn, mc, r2, hM⟩ := hr.c2
  have hbl : b < w.heap.size := World.block_lt_of_cell? w _ hr.c0
  have hbne : ¬ w.heap.size = b := by omega
  have q2 := (hb0.cell (p := ⟨b, o + 2, none⟩) hbl).trans r2
  obtain ⟨t0, t1, -, -⟩ := new_two w (.int .i64 act) (.slice a n c) 50
  have hmn := hM.1
  have HI := hid (mayidx_any (c := mc) (hM.step hb0) (by omega) t0)
  have HM := hid (hM.step hb0)
  have HX := hid (hx.step hb0)
  have hxl := hx.1
  have HGR := hid (grew_alloc w (HC act a n c) 0)
  have HXL := hid hxl
  have HMN := hid hmn
  clear hr hx hM hb0 r2 hxl hmn
  go_enter Tryz.func27, Tryz.ntmps27
  go_wp2_with fail
  refine HI.out.mono ?_
  rintro r w1 ⟨v, rfl, hg1, hcase⟩
  have HG1 := hid (HGR.out.trans hg1)
  rcases hcase with ⟨rfl, hno⟩ | ⟨f, x, rfl, hat⟩
  · have HE : Hid (HitDone w w1 M act xs (.returned (.int .i64 5))) := ⟨by rw [hitC_none xs hno], HG1.out⟩
    clear hno hg1 HI
    go_wp2
    go_ret
    exact HE.out
  · obtain ⟨g, pa, pn, pc, rfl, -, e1, hp⟩ := (HM.out.step hg1.below).2 f x hat.1
    have hfl : f < mn := by rw [← HMN.out]; exact (List.getElem?_eq_some_iff.1 hat.1).1
    have hf0 : ¬ (f : Int) < 0 := by omega
    have hfm : (f : Int) < (mn : Int) := by omega
    have x1 := (hg1.below.cell (p := ⟨w.heap.size, 1, none⟩) (by simp)).trans t1
    have r2 := (hg1.below.cell (p := ⟨b, o + 2, none⟩) (by simp; omega)).trans q2
    have HC1 := hid (hitC_at xs hat)
    have HP := hid hp
    have HPL := hid hp.1
    have HX1 := hid (HX.out.step hg1.below)
    clear hat hg1 HI hp t0 t1 q2
    by_cases hl : n = pn
    · have hd : ((n : Int) != (pn : Int)) = false := by simp [hl]
      have HL := hid hl
      clear hl
      go_wp2_with fail
      go_quiet (fail)
      have HGQ : Hid (Grew w (w1.drewN nq)) := grew_drew HG1.out nq
      have y1 : (w1.drewN nq).cell? ⟨w.heap.size, 1, none⟩ = some (.slice a n c) := x1
      have s2 : (w1.drewN nq).cell? ⟨b, o + 2, none⟩ = some (.slice (some ⟨g, 0, none⟩) mn mc) := r2
      have d1 : (w1.drewN nq).cell? ⟨g, f * 2 + 1, none⟩ = some (.slice pa pn pc) := e1
      have HXQ : Hid (Has .u64 (w1.drewN nq) a n xs) := HX1.out
      have HPQ : Hid (Has .i64 (w1.drewN nq) pa pn x.2) := HP.out
      clear x1 r2 e1 HX1 HP HG1
      generalize w1.drewN nq = w2 at *
      have hbl2 : b < w2.heap.size := World.block_lt_of_cell? w2 _ s2
      have hgl2 : g < w2.heap.size := World.block_lt_of_cell? w2 _ d1
      have hwl2 : w.heap.size < w2.heap.size := World.block_lt_of_cell? w2 _ y1
      have Y1 := cell_grown (a := ⟨w.heap.size, 1, none⟩) hwl2 y1
      have S2 := cell_grown (a := ⟨b, o + 2, none⟩) hbl2 s2
      have D1 := cell_grown (a := ⟨g, f * 2 + 1, none⟩) hgl2 d1
      have HN := hid (fun q os => (narrow_any (w := Sort.grow (w2.drewN q) os) c pc (by rw [HL.out]; exact Nat.le_refl _) hn (HXQ.out.step (below_grow w2 q os)) (HPQ.out.step (below_grow w2 q os))).mono fun _ _ h => ask_dec h)
      have hc := HC1.out
      rw [if_pos (by rw [HXL.out, HPL.out]; exact HL.out)] at hc
      clear y1 s2 d1 hbl2 hgl2 hwl2 HXQ HPQ HC1
      by_cases hnar : Narrow xs x.2
      · have hdec : decide (Narrow xs x.2) = true := decide_eq_true hnar
        rw [if_pos hnar] at hc
        have HCC := hid hc
        clear hnar hc
        go_wp2_with fail
        refine wp_region_quiet_grown (by kernel_rfl) (by kernel_rfl) ?_
        repeat (go_big_quiet_step ((go_at_call 33; exact Calls.grown_of (HN.out _ _))))
        refine wpQuiet_nil ?_
        intro _ hw'
        obtain ⟨⟨nr, osr⟩, hw''⟩ := hw'
        subst hw''
        have HE : Hid (HitDone w (Sort.grow (w2.drewN nr) osr) M act xs (.returned (.int .i64 0))) := ⟨by rw [HCC.out], HGQ.out.trans ⟨nr, osr, rfl⟩⟩
        clear HN Y1 S2 D1 HCC
        go_wp2
        go_ret
        exact HE.out
      · have hdec : decide (Narrow xs x.2) = false := decide_eq_false hnar
        rw [if_neg hnar] at hc
        have HCC := hid hc
        clear hnar hc
        go_wp2_with fail
        refine wp_region_quiet_grown (by kernel_rfl) (by kernel_rfl) ?_
        repeat (go_big_quiet_step ((go_at_call 33; exact Calls.grown_of (HN.out _ _))))
        refine wpQuiet_nil ?_
        intro _ hw'
        obtain ⟨⟨nr, osr⟩, hw''⟩ := hw'
        subst hw''
        have HE : Hid (HitDone w (Sort.grow (w2.drewN nr) osr) M act xs (.returned (.int .i64 6))) := ⟨by rw [HCC.out], HGQ.out.trans ⟨nr, osr, rfl⟩⟩
        clear HN Y1 S2 D1 HCC
        go_wp2
        go_ret
        exact HE.out
    · have hd : ((n : Int) != (pn : Int)) = true := by simp; omega
      have hc := HC1.out
      rw [if_neg (by rw [HXL.out, HPL.out]; exact hl)] at hc
      have HE : Hid (∀ s, HitDone w (w1.drewN s) M act xs (.returned (.int .i64 2))) := fun s => ⟨by rw [hc], grew_drew HG1.out s⟩
      clear hc hl HC1 HP HX1
      go_wp2_with fail
      go_quiet (fail)
      go_wp2
      go_ret
      exact HE.out _
end Go.Proofs.YtffbnggdckjogaaGreat

namespace Go.Proofs.YtffbnggdckjogaaGreat
open Go.RowKit Mth
def placeC (kind : Int) (ws : List Int) (e : TE) (ln : Int) : Int :=
  if e.ks.length ≠ ws.length ∨ (kind = 3 ∧ e.ms.length ≠ ws.length) then 2
  else if (kind ≠ 3 ∧ (e.ms.length ≠ 0 ∨ e.pr ≠ 0)) ∨ (kind ≠ 2 ∧ ln ≠ 0) then 4
  else if ¬ Narrow e.ks ws ∨ ¬ Narrow e.ms ws then 6
  else 0
def PlaceDone (w w' : World) (kind : Int) (ws : List Int) (e : TE) (ln : Int) (q : Ending) : Prop := q = .returned (.int .i64 (placeC kind ws e ln)) ∧ Grew w w'
set_option maxHeartbeats 8000000 in
set_option maxRecDepth 20000 in
theorem wplace_any {w : World} {b o : Nat} {kind : Int} {ws : List Int} {M : List (Int × List Int)} {d : MD} {e : TE} (hr : Rul w b o kind ws M) (hd : d.good w e) :
    Calls Tryz.prog 19 #[.pointer (some ⟨b, o, none⟩), d.ev] w fun q w' => PlaceDone w w' kind ws e d.ln q := by
  obtain ⟨ka, kn, kc, ma, mn, mc, ln, pr, ac, a, n, c⟩ := d
  obtain ⟨-, h3, hks, -, h4, hms, hpr, -, -, -, -⟩ := hd
  simp only at *
  subst hpr
  obtain ⟨wa, wn, wc, r1, hw⟩ := hr.c1
  have hbl : b < w.heap.size := World.block_lt_of_cell? w _ hr.c0
  have hbne : ¬ w.heap.size = b := by omega
  have hb0 := bl_alloc (o := EC ka kn kc ma mn mc ln e.pr ac a n c) (Below.refl w.heap.size w)
  have c0 := (hb0.cell (p := ⟨b, o, none⟩) hbl).trans hr.c0
  have c1 := (hb0.cell (p := ⟨b, o + 1, none⟩) hbl).trans r1
  have SX := six_new w (.slice ka kn kc) (.slice ma mn mc) (.int .i64 ln) (.int .i64 e.pr) (.int .i64 ac) (.slice a n c) 38
  obtain ⟨k0, k1, k2, k3, -, -, -, -, -, -, -, -⟩ := SX
  have K0 := cell_grown (a := ⟨w.heap.size, 0, none⟩) (World.block_lt_of_cell? _ _ k0) k0
  have K1 := cell_grown (a := ⟨w.heap.size, 1, none⟩) (World.block_lt_of_cell? _ _ k1) k1
  have R1 := cell_grown (a := ⟨b, o + 1, none⟩) (World.block_lt_of_cell? _ _ c1) c1
  have HNK : Hid (∀ q os, kn ≤ wn → Calls Tryz.prog 33 #[.slice ka kn kc, .slice wa wn wc] (Sort.grow ((w.alloc (EC ka kn kc ma mn mc ln e.pr ac a n c)).drewN q) os) fun r w' => r = .returned (.bool (decide (Narrow e.ks ws))) ∧ Grew (Sort.grow ((w.alloc (EC ka kn kc ma mn mc ln e.pr ac a n c)).drewN q) os) w') := fun q os h => (narrow_any kc wc h (by omega) ((hks.step hb0).step (below_grow _ q os)) ((hw.step hb0).step (below_grow _ q os))).mono fun _ _ h => ask_dec h
  have HNM : Hid (∀ q os, mn ≤ wn → Calls Tryz.prog 33 #[.slice ma mn mc, .slice wa wn wc] (Sort.grow ((w.alloc (EC ka kn kc ma mn mc ln e.pr ac a n c)).drewN q) os) fun r w' => r = .returned (.bool (decide (Narrow e.ms ws))) ∧ Grew (Sort.grow ((w.alloc (EC ka kn kc ma mn mc ln e.pr ac a n c)).drewN q) os) w') := fun q os h => (narrow_any mc wc h (by omega) ((hms.step hb0).step (below_grow _ q os)) ((hw.step hb0).step (below_grow _ q os))).mono fun _ _ h => ask_dec h
  have LK := hid hks.1
  have LM := hid hms.1
  have LW := hid hw.1
  have HGR : Hid (Grew w (w.alloc (EC ka kn kc ma mn mc ln e.pr ac a n c))) := grew_alloc w (EC ka kn kc ma mn mc ln e.pr ac a n c) 0
  clear hr hks hms hw hb0 r1 hbl
  by_cases hA : kn = wn
  case neg =>
    have a1 : ((kn : Int) != (wn : Int)) = true := by simp; omega
    have HA := hid hA
    clear hA
    by_cases h3k : kind = 3
    · have a2 : (kind == 3) = true := by simp [h3k]
      clear h3k
      have HE : Hid (PlaceDone w (w.alloc (EC ka kn kc ma mn mc ln e.pr ac a n c)) kind ws e ln (.returned (.int .i64 2))) := ⟨by rw [show placeC kind ws e ln = 2 from by unfold placeC; have lk := LK.out; have lm := LM.out; have lw := LW.out; rw [if_pos (.inl (by have := HA.out; omega))]], HGR.out⟩
      clear HNK HNM K0 K1 R1
      go_enter Tryz.func19, Tryz.ntmps19
      go_wp2
      go_ret
      exact HE.out
    · have a2 : (kind == 3) = false := by simpa using h3k
      clear h3k
      have HE : Hid (PlaceDone w (w.alloc (EC ka kn kc ma mn mc ln e.pr ac a n c)) kind ws e ln (.returned (.int .i64 2))) := ⟨by rw [show placeC kind ws e ln = 2 from by unfold placeC; have lk := LK.out; have lm := LM.out; have lw := LW.out; rw [if_pos (.inl (by have := HA.out; omega))]], HGR.out⟩
      clear HNK HNM K0 K1 R1
      go_enter Tryz.func19, Tryz.ntmps19
      go_wp2
      go_ret
      exact HE.out
  subst hA
  have a1 : ((kn : Int) != (kn : Int)) = false := by simp
  by_cases h3k : kind = 3
  · have a2 : (kind == 3) = true := by simp [h3k]
    have a5 : (kind != 2) = true := by simp [h3k]
    have H3 := hid h3k
    clear h3k
    by_cases hB : mn = kn
    case neg =>
      have a3 : ((mn : Int) != (kn : Int)) = true := by simp; omega
      have HB := hid hB
      clear hB
      have HE : Hid (PlaceDone w (w.alloc (EC ka kn kc ma mn mc ln e.pr ac a n c)) kind ws e ln (.returned (.int .i64 2))) := ⟨by rw [show placeC kind ws e ln = 2 from by unfold placeC; have lk := LK.out; have lm := LM.out; have lw := LW.out; rw [if_pos (.inr ⟨H3.out, by have := HB.out; omega⟩)]], HGR.out⟩
      clear HNK HNM K0 K1 R1
      go_enter Tryz.func19, Tryz.ntmps19
      go_wp2
      go_ret
      exact HE.out
    have HB := hid hB
    have a3 : ((mn : Int) != (kn : Int)) = false := by simp [hB]
    clear hB
    by_cases hl : ln = 0
    · have a4 : (ln != 0) = false := by simp [hl]
      have HL := hid hl
      clear hl
      by_cases n1 : Narrow e.ks ws
      · have N1 : decide (Narrow e.ks ws) = true := decide_eq_true n1
        by_cases n2 : Narrow e.ms ws
        · have N2 : decide (Narrow e.ms ws) = true := decide_eq_true n2
          have P1 := hid n1
          have P2 := hid n2
          clear n1 n2
          have HEC : Hid (placeC kind ws e ln = 0) := by show placeC kind ws e ln = 0; unfold placeC; have lk := LK.out; have lm := LM.out; have lw := LW.out; rw [if_neg (by rintro (h | ⟨_, h⟩); omega; have := HB.out; omega), if_neg (by rintro (⟨h, _⟩ | ⟨_, h⟩); exact h H3.out; exact h HL.out)]; rw [if_neg (by rintro (h | h); exact h P1.out; exact h P2.out)]
          have HK2 := hid (fun q os => HNK.out q os (Nat.le_refl _))
          have HM2 := hid (fun q os => HNM.out q os (by rw [HB.out]; exact Nat.le_refl _))
          clear P1 P2 HNK HNM
          go_enter Tryz.func19, Tryz.ntmps19
          go_wp2_with fail
          generalize w.alloc (EC ka kn kc ma mn mc ln e.pr ac a n c) = w0 at *
          refine wp_region_quiet_grown (by kernel_rfl) (by kernel_rfl) ?_
          repeat (go_big_quiet_step ((go_at_call 33; first | (with_reducible exact Calls.grown_of (HK2.out _ _)) | (with_reducible exact Calls.grown_of (HM2.out _ _)))))
          refine wpQuiet_nil ?_
          intro _ hw'
          obtain ⟨⟨nr, osr⟩, hw''⟩ := hw'
          subst hw''
          have HE : Hid (PlaceDone w (Sort.grow (w0.drewN nr) osr) kind ws e ln (.returned (.int .i64 0))) := ⟨by rw [HEC.out], HGR.out.trans ⟨nr, osr, rfl⟩⟩
          clear HK2 HM2 HEC K0 K1 R1
          go_wp2
          go_ret
          exact HE.out
        · have N2 : decide (Narrow e.ms ws) = false := decide_eq_false n2
          have P1 := hid n1
          have P2 := hid n2
          clear n1 n2
          have HEC : Hid (placeC kind ws e ln = 6) := by show placeC kind ws e ln = 6; unfold placeC; have lk := LK.out; have lm := LM.out; have lw := LW.out; rw [if_neg (by rintro (h | ⟨_, h⟩); omega; have := HB.out; omega), if_neg (by rintro (⟨h, _⟩ | ⟨_, h⟩); exact h H3.out; exact h HL.out)]; rw [if_pos (.inr P2.out)]
          have HK2 := hid (fun q os => HNK.out q os (Nat.le_refl _))
          have HM2 := hid (fun q os => HNM.out q os (by rw [HB.out]; exact Nat.le_refl _))
          clear P1 P2 HNK HNM
          go_enter Tryz.func19, Tryz.ntmps19
          go_wp2_with fail
          generalize w.alloc (EC ka kn kc ma mn mc ln e.pr ac a n c) = w0 at *
          refine wp_region_quiet_grown (by kernel_rfl) (by kernel_rfl) ?_
          repeat (go_big_quiet_step ((go_at_call 33; first | (with_reducible exact Calls.grown_of (HK2.out _ _)) | (with_reducible exact Calls.grown_of (HM2.out _ _)))))
          refine wpQuiet_nil ?_
          intro _ hw'
          obtain ⟨⟨nr, osr⟩, hw''⟩ := hw'
          subst hw''
          have HE : Hid (PlaceDone w (Sort.grow (w0.drewN nr) osr) kind ws e ln (.returned (.int .i64 6))) := ⟨by rw [HEC.out], HGR.out.trans ⟨nr, osr, rfl⟩⟩
          clear HK2 HM2 HEC K0 K1 R1
          go_wp2
          go_ret
          exact HE.out
      · have N1 : decide (Narrow e.ks ws) = false := decide_eq_false n1
        have P1 := hid n1
        have P2 := hid n1
        clear n1
        have HEC : Hid (placeC kind ws e ln = 6) := by show placeC kind ws e ln = 6; unfold placeC; have lk := LK.out; have lm := LM.out; have lw := LW.out; rw [if_neg (by rintro (h | ⟨_, h⟩); omega; have := HB.out; omega), if_neg (by rintro (⟨h, _⟩ | ⟨_, h⟩); exact h H3.out; exact h HL.out)]; rw [if_pos (.inl P1.out)]
        have HK2 := hid (fun q os => HNK.out q os (Nat.le_refl _))
        have HM2 := hid (fun q os => HNM.out q os (by rw [HB.out]; exact Nat.le_refl _))
        clear P1 P2 HNK HNM
        go_enter Tryz.func19, Tryz.ntmps19
        go_wp2_with fail
        generalize w.alloc (EC ka kn kc ma mn mc ln e.pr ac a n c) = w0 at *
        refine wp_region_quiet_grown (by kernel_rfl) (by kernel_rfl) ?_
        repeat (go_big_quiet_step ((go_at_call 33; first | (with_reducible exact Calls.grown_of (HK2.out _ _)) | (with_reducible exact Calls.grown_of (HM2.out _ _)))))
        refine wpQuiet_nil ?_
        intro _ hw'
        obtain ⟨⟨nr, osr⟩, hw''⟩ := hw'
        subst hw''
        have HE : Hid (PlaceDone w (Sort.grow (w0.drewN nr) osr) kind ws e ln (.returned (.int .i64 6))) := ⟨by rw [HEC.out], HGR.out.trans ⟨nr, osr, rfl⟩⟩
        clear HK2 HM2 HEC K0 K1 R1
        go_wp2
        go_ret
        exact HE.out
    · have a4 : (ln != 0) = true := by simpa using hl
      have HL := hid hl
      clear hl
      have HE : Hid (PlaceDone w (w.alloc (EC ka kn kc ma mn mc ln e.pr ac a n c)) kind ws e ln (.returned (.int .i64 4))) := ⟨by rw [show placeC kind ws e ln = 4 from by unfold placeC; have lk := LK.out; have lm := LM.out; have lw := LW.out; rw [if_neg (by rintro (h | ⟨_, h⟩); omega; have := HB.out; omega), if_pos (.inr ⟨by have := H3.out; omega, HL.out⟩)]], HGR.out⟩
      clear HNK HNM K0 K1 R1
      go_enter Tryz.func19, Tryz.ntmps19
      go_wp2
      go_ret
      exact HE.out
  · have a2 : (kind == 3) = false := by simpa using h3k
    have H3 := hid h3k
    clear h3k
    by_cases hB : mn = 0
    case neg =>
      have a3 : ((mn : Int) != 0) = true := by simp; omega
      have HB := hid hB
      clear hB
      have HE : Hid (PlaceDone w (w.alloc (EC ka kn kc ma mn mc ln e.pr ac a n c)) kind ws e ln (.returned (.int .i64 4))) := ⟨by rw [show placeC kind ws e ln = 4 from by unfold placeC; have lk := LK.out; have lm := LM.out; have lw := LW.out; rw [if_neg (by rintro (h | ⟨h, _⟩); omega; exact H3.out h), if_pos (.inl ⟨H3.out, .inl (by have := HB.out; omega)⟩)]], HGR.out⟩
      clear HNK HNM K0 K1 R1
      go_enter Tryz.func19, Tryz.ntmps19
      go_wp2
      go_ret
      exact HE.out
    have a3 : ((mn : Int) != 0) = false := by simp [hB]
    have HB := hid hB
    clear hB
    by_cases hp : e.pr = 0
    case neg =>
      have a4 : (e.pr != 0) = true := by simpa using hp
      have HP := hid hp
      clear hp
      have HE : Hid (PlaceDone w (w.alloc (EC ka kn kc ma mn mc ln e.pr ac a n c)) kind ws e ln (.returned (.int .i64 4))) := ⟨by rw [show placeC kind ws e ln = 4 from by unfold placeC; have lk := LK.out; have lm := LM.out; have lw := LW.out; rw [if_neg (by rintro (h | ⟨h, _⟩); omega; exact H3.out h), if_pos (.inl ⟨H3.out, .inr HP.out⟩)]], HGR.out⟩
      clear HNK HNM K0 K1 R1
      go_enter Tryz.func19, Tryz.ntmps19
      go_wp2
      go_ret
      exact HE.out
    have a4 : (e.pr != 0) = false := by simp [hp]
    have HP := hid hp
    clear hp
    by_cases h2k : kind = 2
    · have a5 : (kind != 2) = false := by simp [h2k]
      have H2 := hid h2k
      clear h2k
      by_cases n1 : Narrow e.ks ws
      · have N1 : decide (Narrow e.ks ws) = true := decide_eq_true n1
        by_cases n2 : Narrow e.ms ws
        · have N2 : decide (Narrow e.ms ws) = true := decide_eq_true n2
          have P1 := hid n1
          have P2 := hid n2
          clear n1 n2
          have HEC : Hid (placeC kind ws e ln = 0) := by show placeC kind ws e ln = 0; unfold placeC; have lk := LK.out; have lm := LM.out; have lw := LW.out; rw [if_neg (by rintro (h | ⟨h, _⟩); omega; exact H3.out h), if_neg (by rintro (⟨_, h | h⟩ | ⟨h, _⟩); (have := HB.out; omega); exact h HP.out; exact h H2.out)]; rw [if_neg (by rintro (h | h); exact h P1.out; exact h P2.out)]
          have HK2 := hid (fun q os => HNK.out q os (Nat.le_refl _))
          have HM2 := hid (fun q os => HNM.out q os (by rw [HB.out]; exact Nat.zero_le _))
          clear P1 P2 HNK HNM
          go_enter Tryz.func19, Tryz.ntmps19
          go_wp2_with fail
          generalize w.alloc (EC ka kn kc ma mn mc ln e.pr ac a n c) = w0 at *
          refine wp_region_quiet_grown (by kernel_rfl) (by kernel_rfl) ?_
          repeat (go_big_quiet_step ((go_at_call 33; first | (with_reducible exact Calls.grown_of (HK2.out _ _)) | (with_reducible exact Calls.grown_of (HM2.out _ _)))))
          refine wpQuiet_nil ?_
          intro _ hw'
          obtain ⟨⟨nr, osr⟩, hw''⟩ := hw'
          subst hw''
          have HE : Hid (PlaceDone w (Sort.grow (w0.drewN nr) osr) kind ws e ln (.returned (.int .i64 0))) := ⟨by rw [HEC.out], HGR.out.trans ⟨nr, osr, rfl⟩⟩
          clear HK2 HM2 HEC K0 K1 R1
          go_wp2
          go_ret
          exact HE.out
        · have N2 : decide (Narrow e.ms ws) = false := decide_eq_false n2
          have P1 := hid n1
          have P2 := hid n2
          clear n1 n2
          have HEC : Hid (placeC kind ws e ln = 6) := by show placeC kind ws e ln = 6; unfold placeC; have lk := LK.out; have lm := LM.out; have lw := LW.out; rw [if_neg (by rintro (h | ⟨h, _⟩); omega; exact H3.out h), if_neg (by rintro (⟨_, h | h⟩ | ⟨h, _⟩); (have := HB.out; omega); exact h HP.out; exact h H2.out)]; rw [if_pos (.inr P2.out)]
          have HK2 := hid (fun q os => HNK.out q os (Nat.le_refl _))
          have HM2 := hid (fun q os => HNM.out q os (by rw [HB.out]; exact Nat.zero_le _))
          clear P1 P2 HNK HNM
          go_enter Tryz.func19, Tryz.ntmps19
          go_wp2_with fail
          generalize w.alloc (EC ka kn kc ma mn mc ln e.pr ac a n c) = w0 at *
          refine wp_region_quiet_grown (by kernel_rfl) (by kernel_rfl) ?_
          repeat (go_big_quiet_step ((go_at_call 33; first | (with_reducible exact Calls.grown_of (HK2.out _ _)) | (with_reducible exact Calls.grown_of (HM2.out _ _)))))
          refine wpQuiet_nil ?_
          intro _ hw'
          obtain ⟨⟨nr, osr⟩, hw''⟩ := hw'
          subst hw''
          have HE : Hid (PlaceDone w (Sort.grow (w0.drewN nr) osr) kind ws e ln (.returned (.int .i64 6))) := ⟨by rw [HEC.out], HGR.out.trans ⟨nr, osr, rfl⟩⟩
          clear HK2 HM2 HEC K0 K1 R1
          go_wp2
          go_ret
          exact HE.out
      · have N1 : decide (Narrow e.ks ws) = false := decide_eq_false n1
        have P1 := hid n1
        have P2 := hid n1
        clear n1
        have HEC : Hid (placeC kind ws e ln = 6) := by show placeC kind ws e ln = 6; unfold placeC; have lk := LK.out; have lm := LM.out; have lw := LW.out; rw [if_neg (by rintro (h | ⟨h, _⟩); omega; exact H3.out h), if_neg (by rintro (⟨_, h | h⟩ | ⟨h, _⟩); (have := HB.out; omega); exact h HP.out; exact h H2.out)]; rw [if_pos (.inl P1.out)]
        have HK2 := hid (fun q os => HNK.out q os (Nat.le_refl _))
        have HM2 := hid (fun q os => HNM.out q os (by rw [HB.out]; exact Nat.zero_le _))
        clear P1 P2 HNK HNM
        go_enter Tryz.func19, Tryz.ntmps19
        go_wp2_with fail
        generalize w.alloc (EC ka kn kc ma mn mc ln e.pr ac a n c) = w0 at *
        refine wp_region_quiet_grown (by kernel_rfl) (by kernel_rfl) ?_
        repeat (go_big_quiet_step ((go_at_call 33; first | (with_reducible exact Calls.grown_of (HK2.out _ _)) | (with_reducible exact Calls.grown_of (HM2.out _ _)))))
        refine wpQuiet_nil ?_
        intro _ hw'
        obtain ⟨⟨nr, osr⟩, hw''⟩ := hw'
        subst hw''
        have HE : Hid (PlaceDone w (Sort.grow (w0.drewN nr) osr) kind ws e ln (.returned (.int .i64 6))) := ⟨by rw [HEC.out], HGR.out.trans ⟨nr, osr, rfl⟩⟩
        clear HK2 HM2 HEC K0 K1 R1
        go_wp2
        go_ret
        exact HE.out
    · have a5 : (kind != 2) = true := by simpa using h2k
      have H2 := hid h2k
      clear h2k
      by_cases hl : ln = 0
      · have a6 : (ln != 0) = false := by simp [hl]
        have HL := hid hl
        clear hl
        by_cases n1 : Narrow e.ks ws
        · have N1 : decide (Narrow e.ks ws) = true := decide_eq_true n1
          by_cases n2 : Narrow e.ms ws
          · have N2 : decide (Narrow e.ms ws) = true := decide_eq_true n2
            have P1 := hid n1
            have P2 := hid n2
            clear n1 n2
            have HEC : Hid (placeC kind ws e ln = 0) := by show placeC kind ws e ln = 0; unfold placeC; have lk := LK.out; have lm := LM.out; have lw := LW.out; rw [if_neg (by rintro (h | ⟨h, _⟩); omega; exact H3.out h), if_neg (by rintro (⟨_, h | h⟩ | ⟨_, h⟩); (have := HB.out; omega); exact h HP.out; exact h HL.out)]; rw [if_neg (by rintro (h | h); exact h P1.out; exact h P2.out)]
            have HK2 := hid (fun q os => HNK.out q os (Nat.le_refl _))
            have HM2 := hid (fun q os => HNM.out q os (by rw [HB.out]; exact Nat.zero_le _))
            clear P1 P2 HNK HNM
            go_enter Tryz.func19, Tryz.ntmps19
            go_wp2_with fail
            generalize w.alloc (EC ka kn kc ma mn mc ln e.pr ac a n c) = w0 at *
            refine wp_region_quiet_grown (by kernel_rfl) (by kernel_rfl) ?_
            repeat (go_big_quiet_step ((go_at_call 33; first | (with_reducible exact Calls.grown_of (HK2.out _ _)) | (with_reducible exact Calls.grown_of (HM2.out _ _)))))
            refine wpQuiet_nil ?_
            intro _ hw'
            obtain ⟨⟨nr, osr⟩, hw''⟩ := hw'
            subst hw''
            have HE : Hid (PlaceDone w (Sort.grow (w0.drewN nr) osr) kind ws e ln (.returned (.int .i64 0))) := ⟨by rw [HEC.out], HGR.out.trans ⟨nr, osr, rfl⟩⟩
            clear HK2 HM2 HEC K0 K1 R1
            go_wp2
            go_ret
            exact HE.out
          · have N2 : decide (Narrow e.ms ws) = false := decide_eq_false n2
            have P1 := hid n1
            have P2 := hid n2
            clear n1 n2
            have HEC : Hid (placeC kind ws e ln = 6) := by show placeC kind ws e ln = 6; unfold placeC; have lk := LK.out; have lm := LM.out; have lw := LW.out; rw [if_neg (by rintro (h | ⟨h, _⟩); omega; exact H3.out h), if_neg (by rintro (⟨_, h | h⟩ | ⟨_, h⟩); (have := HB.out; omega); exact h HP.out; exact h HL.out)]; rw [if_pos (.inr P2.out)]
            have HK2 := hid (fun q os => HNK.out q os (Nat.le_refl _))
            have HM2 := hid (fun q os => HNM.out q os (by rw [HB.out]; exact Nat.zero_le _))
            clear P1 P2 HNK HNM
            go_enter Tryz.func19, Tryz.ntmps19
            go_wp2_with fail
            generalize w.alloc (EC ka kn kc ma mn mc ln e.pr ac a n c) = w0 at *
            refine wp_region_quiet_grown (by kernel_rfl) (by kernel_rfl) ?_
            repeat (go_big_quiet_step ((go_at_call 33; first | (with_reducible exact Calls.grown_of (HK2.out _ _)) | (with_reducible exact Calls.grown_of (HM2.out _ _)))))
            refine wpQuiet_nil ?_
            intro _ hw'
            obtain ⟨⟨nr, osr⟩, hw''⟩ := hw'
            subst hw''
            have HE : Hid (PlaceDone w (Sort.grow (w0.drewN nr) osr) kind ws e ln (.returned (.int .i64 6))) := ⟨by rw [HEC.out], HGR.out.trans ⟨nr, osr, rfl⟩⟩
            clear HK2 HM2 HEC K0 K1 R1
            go_wp2
            go_ret
            exact HE.out
        · have N1 : decide (Narrow e.ks ws) = false := decide_eq_false n1
          have P1 := hid n1
          have P2 := hid n1
          clear n1
          have HEC : Hid (placeC kind ws e ln = 6) := by show placeC kind ws e ln = 6; unfold placeC; have lk := LK.out; have lm := LM.out; have lw := LW.out; rw [if_neg (by rintro (h | ⟨h, _⟩); omega; exact H3.out h), if_neg (by rintro (⟨_, h | h⟩ | ⟨_, h⟩); (have := HB.out; omega); exact h HP.out; exact h HL.out)]; rw [if_pos (.inl P1.out)]
          have HK2 := hid (fun q os => HNK.out q os (Nat.le_refl _))
          have HM2 := hid (fun q os => HNM.out q os (by rw [HB.out]; exact Nat.zero_le _))
          clear P1 P2 HNK HNM
          go_enter Tryz.func19, Tryz.ntmps19
          go_wp2_with fail
          generalize w.alloc (EC ka kn kc ma mn mc ln e.pr ac a n c) = w0 at *
          refine wp_region_quiet_grown (by kernel_rfl) (by kernel_rfl) ?_
          repeat (go_big_quiet_step ((go_at_call 33; first | (with_reducible exact Calls.grown_of (HK2.out _ _)) | (with_reducible exact Calls.grown_of (HM2.out _ _)))))
          refine wpQuiet_nil ?_
          intro _ hw'
          obtain ⟨⟨nr, osr⟩, hw''⟩ := hw'
          subst hw''
          have HE : Hid (PlaceDone w (Sort.grow (w0.drewN nr) osr) kind ws e ln (.returned (.int .i64 6))) := ⟨by rw [HEC.out], HGR.out.trans ⟨nr, osr, rfl⟩⟩
          clear HK2 HM2 HEC K0 K1 R1
          go_wp2
          go_ret
          exact HE.out
      · have a6 : (ln != 0) = true := by simpa using hl
        have HL := hid hl
        clear hl
        have HE : Hid (PlaceDone w (w.alloc (EC ka kn kc ma mn mc ln e.pr ac a n c)) kind ws e ln (.returned (.int .i64 4))) := ⟨by rw [show placeC kind ws e ln = 4 from by unfold placeC; have lk := LK.out; have lm := LM.out; have lw := LW.out; rw [if_neg (by rintro (h | ⟨h, _⟩); omega; exact H3.out h), if_pos (.inr ⟨H2.out, HL.out⟩)]], HGR.out⟩
        clear HNK HNM K0 K1 R1
        go_enter Tryz.func19, Tryz.ntmps19
        go_wp2
        go_ret
        exact HE.out
end Go.Proofs.YtffbnggdckjogaaGreat

namespace Go.Proofs.YtffbnggdckjogaaGreat
open Go.RowKit Mth
theorem or2_any {w : World} {b : Nat} {x y : Int} (o : Int) (ho : (if x ≠ 0 then x else y) = o) (h0 : w.cell? ⟨b, 0, none⟩ = some (.int .i64 x)) (h1 : w.cell? ⟨b, 1, none⟩ = some (.int .i64 y)) :
    Calls Tryz.prog 31 #[.slice (some ⟨b, 0, none⟩) 2 2] w fun e w' => e = .returned (.int .i64 o) ∧ w' = w := by
  have h3 : (x ≠ 0 ∧ o = x) ∨ (x = 0 ∧ o = y) := by rw [← ho]; split <;> omega
  have H3 := hid h3
  clear h3 ho
  go_enter Tryz.func31, Tryz.ntmps31
  go_wp2
  go_loop [8] (fun q => q = .int .i64 0 ∨ (q = .int .i64 1 ∧ x = 0) ∨ (q = .int .i64 2 ∧ x = 0 ∧ y = 0)) (fun q => 2 - (intOf q).toNat)
  case atStart => exact .inl rfl
  case round =>
    rcases hrel with rfl | ⟨rfl, rfl⟩ | ⟨rfl, rfl, rfl⟩
    · by_cases hx : x = 0
      · subst hx
        go_wp2
        go_round
        case rel => simp
        case measure => simp [intOf]
      · have hd : (x != 0) = true := by simpa using hx
        have e : o = x := by have := H3.out; omega
        subst e
        go_wp2
        go_ret
        exact ⟨rfl, rfl⟩
    · by_cases hx : y = 0
      · subst hx
        go_wp2
        go_round
        case rel => simp
        case measure => simp [intOf]
      · have hd : (y != 0) = true := by simpa using hx
        have e : o = y := by have := H3.out; omega
        subst e
        go_wp2
        go_ret
        exact ⟨rfl, rfl⟩
    · have e : o = 0 := by have := H3.out; omega
      subst e
      go_wp2
      go_ret
      exact ⟨rfl, rfl⟩
def entryC (kind : Int) (ws : List Int) (M : List (Int × List Int)) (e : TE) (ln : Int) : Int := if placeC kind ws e ln ≠ 0 then placeC kind ws e ln else hitC M e.ac e.xs
def EntryDone (w w' : World) (kind : Int) (ws : List Int) (M : List (Int × List Int)) (e : TE) (ln : Int) (q : Ending) : Prop := q = .returned (.int .i64 (entryC kind ws M e ln)) ∧ Below w.heap.size w w'
set_option maxHeartbeats 4000000 in
set_option maxRecDepth 20000 in
theorem wentry_any {w : World} {b o : Nat} {kind : Int} {ws : List Int} {M : List (Int × List Int)} {d : MD} {e : TE} (hr : Rul w b o kind ws M) (hd : d.good w e) (hm : M.length ≤ 100000) :
    Calls Tryz.prog 18 #[.pointer (some ⟨b, o, none⟩), d.ev] w fun q w' => EntryDone w w' kind ws M e d.ln q := by
  obtain ⟨ka, kn, kc, ma, mn, mc, ln, pr, ac, a, n, c⟩ := d
  have hb0 := bl_alloc (o := EC ka kn kc ma mn mc ln pr ac a n c) (Below.refl w.heap.size w)
  have hb1 := bl_step hb0 (Below.refl _ _).drew
  have HPL0 := wplace_any (hr.step hb1) (hd.step hb1)
  have HHO0 := fun w' => shitOf_any (MD.mk ka kn kc ma mn mc ln pr ac a n c) w'
  dsimp only [MD.ev] at HPL0 HHO0
  have HPL := hid HPL0
  have HHO := hid HHO0
  have HR := hid (hr.step hb1)
  have HX : Hid (Has .u64 _ a n e.xs) := (hd.step hb1).xs
  have eac : ac = e.ac := hd.ac
  have hn : n ≤ 100000 := Nat.le_trans hd.xs3 (by omega)
  have HB1 := hid hb1
  obtain ⟨k0, k1, k2, k3, k4, k5, -, -, -, -, -, -⟩ := six_new w (.slice ka kn kc) (.slice ma mn mc) (.int .i64 ln) (.int .i64 pr) (.int .i64 ac) (.slice a n c) 38
  subst eac
  clear hr hd hb0 hb1 HPL0 HHO0
  go_enter Tryz.func18, Tryz.ntmps18
  go_wp2
  generalize w.alloc (EC ka kn kc ma mn mc ln pr e.ac a n c) = w0 at *
  go_region_held3 (fun w' => w'.cell? ⟨w.heap.size, 0, none⟩ = some (.slice ka kn kc) ∧ w'.cell? ⟨w.heap.size, 1, none⟩ = some (.slice ma mn mc) ∧ w'.cell? ⟨w.heap.size, 2, none⟩ = some (.int .i64 ln) ∧ w'.cell? ⟨w.heap.size, 3, none⟩ = some (.int .i64 pr) ∧ w'.cell? ⟨w.heap.size, 4, none⟩ = some (.int .i64 e.ac) ∧ w'.cell? ⟨w.heap.size, 5, none⟩ = some (.slice a n c))
    (first
      | go_keep
      | (go_split_ands
         first
         | exact ⟨by assumption, by assumption, by assumption, by assumption, by assumption, by assumption⟩
         | exact keep6g ⟨by assumption, by assumption, by assumption, by assumption, by assumption, by assumption⟩ g1.below
         | exact keep6g ⟨by assumption, by assumption, by assumption, by assumption, by assumption, by assumption⟩ g2.below
         | exact keep6g ⟨by assumption, by assumption, by assumption, by assumption, by assumption, by assumption⟩ g3.below
         | exact keep6g ⟨by assumption, by assumption, by assumption, by assumption, by assumption, by assumption⟩ (bl_alloc (Below.refl _ _))))
    (first
      | (go_at_call 19; refine HPL.out.mono ?_; rintro r w1 ⟨rfl, g1⟩)
      | (go_at_call 32; refine (HHO.out _).mono ?_; rintro r w2 ⟨rfl, g2⟩)
      | (go_at_call 27; refine (whit_any ((HR.out.step g1.below).step g2.below) ((HX.out.step g1.below).step g2.below) hn hm).mono ?_; rintro r w3 ⟨rfl, g3⟩)
      | (go_at_call 31; refine (or2_any (entryC kind ws M e ln) rfl (by simp) (by simp)).mono ?_; rintro r w4 ⟨rfl, rfl⟩))
  all_goals
    have HE : Hid (∀ ob, EntryDone w (w3.alloc ob) kind ws M e ln (.returned (.int .i64 (entryC kind ws M e ln)))) := fun _ => ⟨rfl, bl_alloc (bl_step (bl_step (bl_step HB1.out g1.below) g2.below) g3.below)⟩
    clear g1 g2 g3 HPL HHO
    go_wp2
    go_ret
    exact HE.out _
set_option maxHeartbeats 1000000 in
set_option maxRecDepth 20000 in
theorem akeys_any {w : World} {b o : Nat} {kind : Int} {ws : List Int} {M : List (Int × List Int)} {a : Option Addr} {n c : Nat} {k : List Int} (hr : Rul w b o kind ws M) (hk : Has .u64 w a n k) (hn : n ≤ 100000) :
    Calls Tryz.prog 20 #[.pointer (some ⟨b, o, none⟩), .slice a n c] w fun q w' => AskDone w w' (k.length = ws.length ∧ Narrow k ws) q := by
  obtain ⟨wa, wn, wc, r1, hw⟩ := hr.c1
  have LK := hid hk.1
  have LW := hid hw.1
  by_cases hl : n = wn
  · have hd : ((n : Int) == (wn : Int)) = true := by simp [hl]
    have HL := hid hl
    have HN := hid (narrow_any c wc (by rw [hl]; exact Nat.le_refl _) hn hk hw)
    clear hr hk hw hl
    go_enter Tryz.func20, Tryz.ntmps20
    go_wp2_with fail
    refine HN.out.mono ?_
    rintro q w1 ⟨b1, rfl, hb, hg⟩
    have HE : Hid (AskDone w w1 (k.length = ws.length ∧ Narrow k ws) (.returned (.bool b1))) := ⟨b1, rfl, ⟨fun h => ⟨by rw [LK.out, LW.out]; exact HL.out, hb.1 h⟩, fun h => hb.2 h.2⟩, hg⟩
    clear hb hg HN
    go_wp2
    go_ret
    exact HE.out
  · have hd : ((n : Int) == (wn : Int)) = false := by simp; omega
    have HE : Hid (AskDone w w (k.length = ws.length ∧ Narrow k ws) (.returned (.bool false))) := ⟨false, rfl, ⟨fun h => (by cases h), fun h => absurd h.1 (by rw [LK.out, LW.out]; exact hl)⟩, grew_refl w⟩
    clear hr hk hw hl
    go_enter Tryz.func20, Tryz.ntmps20
    go_wp2
    go_ret
    exact HE.out
end Go.Proofs.YtffbnggdckjogaaGreat
