/- What Find of the document's own table by masks does. -/
import Derived.Test.YtlnkfgdepddmlacKRows
import Derived.Test.YtlnkfgdepddmlacMFind
namespace Go.Proofs.Ytlnkfgdepddmlac
open Go.RowKit Mth

/-- of the first i that fit, the one with the lowest rank; -1: none fits -/
def BestM (E : List TE) (k : List Int) (i : Nat) (b : Int) : Prop :=
  (b = -1 ∧ ∀ t x, t < i → E[t]? = some x → ¬ FitsE x k) ∨ ∃ (f : Nat) (x : TE), b = (f : Int) ∧ f < i ∧ E[f]? = some x ∧ FitsE x k ∧ ∀ t y, t < i → E[t]? = some y → FitsE y k → x.pr ≤ y.pr

theorem bestM_zero (E : List TE) (k : List Int) : BestM E k 0 (-1) := .inl ⟨rfl, fun _ _ h => absurd h (Nat.not_lt_zero _)⟩

theorem bestM_skip {E : List TE} {k : List Int} {i : Nat} {b : Int} {y : TE} (h : BestM E k i b) (hy : E[i]? = some y) (hn : ¬ FitsE y k) : BestM E k (i + 1) b := by
  have key : ∀ t z, t < i + 1 → E[t]? = some z → FitsE z k → t < i := fun t z ht hz hf => by
    by_cases e : t = i
    · subst e; rw [hy] at hz; cases hz; exact absurd hf hn
    · omega
  rcases h with ⟨h1, h2⟩ | ⟨f, x, h1, h2, h3, h4, h5⟩
  · exact .inl ⟨h1, fun t x ht hx hf => h2 t x (key t x ht hx hf) hx hf⟩
  · exact .inr ⟨f, x, h1, by omega, h3, h4, fun t z ht hz hf => h5 t z (key t z ht hz hf) hz hf⟩

theorem bestM_new {E : List TE} {k : List Int} {i : Nat} {b : Int} {y : TE} (h : BestM E k i b) (hy : E[i]? = some y) (hf : FitsE y k) (hb : b = -1 ∨ ∃ (f : Nat) (x : TE), b = (f : Int) ∧ E[f]? = some x ∧ y.pr < x.pr) : BestM E k (i + 1) i := by
  refine .inr ⟨i, y, rfl, by omega, hy, hf, fun t z ht hz hfz => ?_⟩
  by_cases e : t = i
  · subst e; rw [hy] at hz; cases hz; exact Int.le_refl _
  · rcases h with ⟨h1, h2⟩ | ⟨f, x, h1, h2, h3, h4, h5⟩
    · exact absurd hfz (h2 t z (by omega) hz)
    · have := h5 t z (by omega) hz hfz
      rcases hb with hb | ⟨f', x', e1, e2, e3⟩
      · omega
      · have : f' = f := by omega
        subst this
        rw [h3] at e2; cases e2
        omega

theorem bestM_old {E : List TE} {k : List Int} {i f : Nat} {x y : TE} (h : BestM E k i f) (hx : E[f]? = some x) (hy : E[i]? = some y) (hp : ¬ y.pr < x.pr) : BestM E k (i + 1) f := by
  rcases h with ⟨h1, h2⟩ | ⟨f', x', h1, h2, h3, h4, h5⟩
  · omega
  · have : f' = f := by omega
    subst this
    rw [hx] at h3; cases h3
    refine .inr ⟨f', x, rfl, by omega, hx, h4, fun t z ht hz hfz => ?_⟩
    by_cases e : t = i
    · subst e; rw [hy] at hz; cases hz; omega
    · exact h5 t z (by omega) hz hfz

/-- the one with the lowest rank is the first of those in order -/
theorem bestM_end {keys m : Int} {T E : List TE} {k : List Int} (ok : OkM keys m T) (hp : T.Perm E) {x : TE} (hx : x ∈ E) (hf : FitsE x k) (hmin : ∀ y ∈ E, FitsE y k → x.pr ≤ y.pr) : T.find? (fun x => decide (FitsE x k)) = some x := by
  obtain ⟨t, ht, ext⟩ := List.getElem_of_mem (hp.mem_iff.2 hx)
  have hxt : T[t]? = some x := by rw [List.getElem?_eq_getElem ht, ext]
  refine found_hit (f := t) ⟨hxt, hf, fun s y hs hy hfy => ?_⟩
  -- one ahead of it that fits would have a lower rank, or meet it
  have h1 := hmin y (hp.mem_iff.1 (List.mem_of_getElem? hy)) hfy
  have h2 := cmpE_pr (sorted_at ok.srt hs hy hxt)
  have hl : y.ks.length = x.ks.length := by
    have := (ok.good y (List.mem_of_getElem? hy)).1
    have := (ok.good x (List.mem_of_getElem? hxt)).1
    omega
  exact apart_at ok.apart hs hy hxt (by omega) (fits_meets hl hfy hf)

def KFindDone (w w' : World) (R : Option HitM) (q : Ending) : Prop :=
  ∃ v, q = .returned (.tuple #[v, .int .i64 0, .bool R.isSome]) ∧ Says w' v (R.getD (0, [])) ∧ Below w.heap.size w w'

set_option maxHeartbeats 8000000 in
set_option maxRecDepth 20000 in
theorem kfind_any {w : World} {B r : Nat} {keys most m : Int} {E T : List TE} {ka : Option Addr} {kn kc : Nat} {k : List Int} (t : KRws w B r keys most E) (ok : OkM keys m T) (hp : T.Perm E) (hk : Has .u64 w ka kn k) (hn : E.length ≤ 100000) :
    Calls Try.prog 19 #[.pointer (some ⟨r, 0, none⟩), .slice ka kn kc] w fun q w' => KFindDone w w' (foundM keys T k) q := by
  have hb0 := bl_alloc (o := HC 0 none 0 0) (Below.refl w.heap.size w)
  have hkl := hk.1
  have c0 := (t.step hb0).hd.c0
  have c1 := (t.step hb0).hd.c1
  have HX := hid (new_two w (.int .i64 0) (.slice none 0 0) 40)
  have HT := hid (t.step hb0)
  have HB0 := hid hb0
  have HK := hid (hk.step hb0)
  have HOK := hid ok
  have HP := hid hp
  have HGD := hid t.good
  have hrl : r < w.heap.size := World.block_lt_of_cell? w _ t.hd.c0
  have hne : ¬ w.heap.size = r := by omega
  clear t hb0 hk ok hp hrl
  generalize hR : foundM keys T k = R
  have HR := hid hR
  clear hR
  go_enter Try.func19, Try.ntmps19
  go_upto_region 1 with fail
  generalize w.alloc (HC 0 none 0 0) = w0 at *
  by_cases hkk : (kn : Int) = keys
  · have hd : ((kn : Int) != keys) = false := by simpa using hkk
    have HKL := hid (fun x hx => by have := (HGD.out x hx).1; have := (HGD.out x hx).2.1; omega : ∀ x ∈ E, x.ks.length = kn ∧ x.ms.length = kn)
    go_quiet (fail)
    have hbq := below_drewN (Below.refl w0.heap.size w0) nq
    have T1 := hid (HT.out.step hbq)
    have K1 := hid (HK.out.step hbq)
    have X1 : Hid ((w0.drewN nq).cell? ⟨w.heap.size, 0, none⟩ = some (.int .i64 0) ∧ (w0.drewN nq).cell? ⟨w.heap.size, 1, none⟩ = some (.slice none 0 0) ∧ (w0.drewN nq).frozen? ⟨w.heap.size, 0, none⟩ = false ∧ (w0.drewN nq).frozen? ⟨w.heap.size, 1, none⟩ = false) := HX.out
    have B1 := hid (below_drewN HB0.out nq)
    clear hbq hd c0 c1 HT HK HX HB0
    generalize w0.drewN nq = w1 at *
    go_wp2_with fail
    go_loopw [7, 8] (fun x q wr => ∃ (i : Nat) (b : Int), i ≤ E.length ∧ q = .int .i64 i ∧ x = .int .i64 b ∧ Hid (BestM E k i b) ∧ Hid (Grew w1 wr)) (fun _ q _ => E.length - (intOf q).toNat)
    case atStart => exact ⟨0, -1, Nat.zero_le _, rfl, rfl, bestM_zero _ _, grew_refl _⟩
    case round =>
      obtain ⟨i, b, hi, rfl, rfl, hbest, hgr⟩ := hrel
      have TR := hid (T1.out.step hgr.out.below)
      obtain ⟨la, cap, r4, hrow⟩ := TR.out.lst
      by_cases hlt : i < E.length
      · obtain ⟨g, d, y, rfl, hy, hat, hgd, -, hdl⟩ := hrow.at i hlt
        have hgl : g < wr.heap.size := World.block_lt_of_cell? wr _ hat.c0
        have hrl : r < wr.heap.size := World.block_lt_of_cell? wr _ r4
        have hxl := HKL.out y (List.mem_of_getElem? hy)
        have hdk : d.kn = kn := by rw [← hxl.1, hgd.ks.1]
        have hdm : d.mn = d.kn := by rw [hdk, ← hxl.2, hgd.ms.1]
        have HC := fun q os => (kfits_any (w := Sort.grow (wr.drewN q) os) (kc := kc) (k := k) (ka := ka) (TR.out.step (below_grow wr q os)).hd (hgd.step (below_grow wr q os)) hdm (by rw [hdk]; exact (K1.out.step hgr.out.below).step (below_grow wr q os))).mono (fun _ _ h => ask_dec h)
        rw [hdk] at HC
        have R4 := cell_grown (a := ⟨r, 4, none⟩) hrl r4
        have E0 := cell_grown (a := ⟨g, i * 6, none⟩) hgl hat.c0
        have E1 := cell_grown (a := ⟨g, i * 6 + 1, none⟩) hgl hat.c1
        have E2 := cell_grown (a := ⟨g, i * 6 + 2, none⟩) hgl hat.c2
        have E3 := cell_grown (a := ⟨g, i * 6 + 3, none⟩) hgl hat.c3
        have E4 := cell_grown (a := ⟨g, i * 6 + 4, none⟩) hgl hat.c4
        have E5 := cell_grown (a := ⟨g, i * 6 + 5, none⟩) hgl hat.c5
        have HY := hid hy
        have HROW := hid hrow
        have hii : (i : Int) < (E.length : Int) := by omega
        have HDL := hid hdl
        have HPR := hid hgd.pr
        clear hat hgd hy hdl hxl hdk hdm hrow
        by_cases hfit : FitsE y k
        · rw [decide_eq_true hfit] at HC
          have HC := hid HC
          have HB2 := hid hbest.out
          rcases HB2.out with ⟨rfl, -⟩ | ⟨f, x, rfl, hfi, hx, -, -⟩
          · have HNX := hid (bestM_new hbest.out HY.out hfit (.inl rfl))
            clear hbest HB2 hfit
            go_wp2_with fail
            refine wp_region_quiet_grown (by kernel_rfl) (by kernel_rfl) ?_
            repeat (go_big_quiet_step ((go_at_call 46; exact Calls.grown_of (HC.out _ _))))
            refine wpQuiet_nil ?_
            intro _ hw'
            obtain ⟨⟨nq, osq⟩, hw''⟩ := hw'
            subst hw''
            have HGR := hid (hgr.out.trans ⟨nq, osq, rfl⟩)
            clear HC R4 E0 E1 E2 E3 E4 E5
            go_wp2
            go_roundw
            case rel => exact ⟨i + 1, _, by omega, by go_num, rfl, HNX.out, HGR.out⟩
            case measure => simp [intOf]; omega
          · obtain ⟨g2, d2, x2, eg, hx2, hat2, hgd2, -, hdl2⟩ := HROW.out.at f (by omega)
            have eg' : g = g2 := by simpa using eg
            subst eg'
            have exx : x = x2 := by rw [hx] at hx2; exact Option.some.inj hx2
            subst exx
            have Z2 := cell_grown (a := ⟨g, f * 6 + 2, none⟩) hgl hat2.c2
            have Z3 := cell_grown (a := ⟨g, f * 6 + 3, none⟩) hgl hat2.c3
            have hll : decide (d2.ln < d.ln) = false := decide_eq_false (by rw [HDL.out, hdl2]; omega)
            have hf0d : decide ((f : Int) < 0) = false := decide_eq_false (by omega)
            have hf0 : ¬ (f : Int) < 0 := by omega
            have hfl : (f : Int) < (E.length : Int) := by omega
            by_cases hpp : d.pr < d2.pr
            · have hpd : decide (d.pr < d2.pr) = true := decide_eq_true hpp
              have HNX := hid (bestM_new hbest.out HY.out hfit (.inr ⟨f, x, rfl, hx, by rw [← HPR.out, ← hgd2.pr]; exact hpp⟩))
              clear hbest HB2 hfit hpp hx hx2 hat2 hgd2 hdl2 eg
              go_wp2_with fail
              refine wp_region_quiet_grown (by kernel_rfl) (by kernel_rfl) ?_
              repeat (go_big_quiet_step ((go_at_call 46; exact Calls.grown_of (HC.out _ _))))
              refine wpQuiet_nil ?_
              intro _ hw'
              obtain ⟨⟨nq, osq⟩, hw''⟩ := hw'
              subst hw''
              have HGR := hid (hgr.out.trans ⟨nq, osq, rfl⟩)
              clear HC R4 E0 E1 E2 E3 E4 E5 Z2 Z3
              go_wp2
              go_roundw
              case rel => exact ⟨i + 1, _, by omega, by go_num, rfl, HNX.out, HGR.out⟩
              case measure => simp [intOf]; omega
            · have hpd : decide (d.pr < d2.pr) = false := decide_eq_false hpp
              have HNX := hid (bestM_old hbest.out hx HY.out (by rw [← HPR.out, ← hgd2.pr]; exact hpp))
              clear hbest HB2 hfit hpp hx hx2 hat2 hgd2 hdl2 eg
              go_wp2_with fail
              refine wp_region_quiet_grown (by kernel_rfl) (by kernel_rfl) ?_
              repeat (go_big_quiet_step ((go_at_call 46; exact Calls.grown_of (HC.out _ _))))
              refine wpQuiet_nil ?_
              intro _ hw'
              obtain ⟨⟨nq, osq⟩, hw''⟩ := hw'
              subst hw''
              have HGR := hid (hgr.out.trans ⟨nq, osq, rfl⟩)
              clear HC R4 E0 E1 E2 E3 E4 E5 Z2 Z3
              go_wp2
              go_roundw
              case rel => exact ⟨i + 1, _, by omega, by go_num, rfl, HNX.out, HGR.out⟩
              case measure => simp [intOf]; omega
        · rw [decide_eq_false hfit] at HC
          have HC := hid HC
          have HNX := hid (bestM_skip hbest.out HY.out hfit)
          clear hbest hfit
          go_wp2_with fail
          refine wp_region_quiet_grown (by kernel_rfl) (by kernel_rfl) ?_
          repeat (go_big_quiet_step ((go_at_call 46; exact Calls.grown_of (HC.out _ _))))
          refine wpQuiet_nil ?_
          intro _ hw'
          obtain ⟨⟨nq, osq⟩, hw''⟩ := hw'
          subst hw''
          have HGR := hid (hgr.out.trans ⟨nq, osq, rfl⟩)
          clear HC R4 E0 E1 E2 E3 E4 E5
          go_wp2
          go_roundw
          case rel => exact ⟨i + 1, _, by omega, by go_num, rfl, HNX.out, HGR.out⟩
          case measure => simp [intOf]; omega
      · have ei : i = E.length := by omega
        subst ei
        have hxl : w.heap.size < w1.heap.size := World.block_lt_of_cell? w1 _ X1.out.1
        have x0 := (hgr.out.below.cell (p := ⟨w.heap.size, 0, none⟩) hxl).trans X1.out.1
        have x1 := (hgr.out.below.cell (p := ⟨w.heap.size, 1, none⟩) hxl).trans X1.out.2.1
        have y0 := (hgr.out.below.frozen (p := ⟨w.heap.size, 0, none⟩) hxl).trans X1.out.2.2.1
        have y1 := (hgr.out.below.frozen (p := ⟨w.heap.size, 1, none⟩) hxl).trans X1.out.2.2.2
        have BW := hid (bl_step B1.out hgr.out.below)
        rcases hbest.out with ⟨rfl, hno⟩ | ⟨f, x, rfl, hfi, hx, hfx, hmin⟩
        · have hRn : R = none := by
            rw [← HR.out]; unfold foundM
            rw [if_pos (by omega), found_no (fun x hx => by
              obtain ⟨j, hj, rfl⟩ := List.getElem_of_mem (HP.out.mem_iff.1 hx)
              exact hno j _ hj (List.getElem?_eq_getElem hj))]
            rfl
          subst hRn
          clear hno hbest hrow TR
          go_wp2
          exact bodyPost_ret (v := .tuple #[NoHit, .int .i64 0, .bool false]) (by simp [results, Try.results19, go_sem, x0, x1]) rfl ⟨_, rfl, says_none _, (BW.out.setCell (by simp) _).setCell (by simp) _⟩
        · have hRs : R = some (x.ac, x.xs) := by
            rw [← HR.out]; unfold foundM
            rw [if_pos (by omega), bestM_end HOK.out HP.out (List.mem_of_getElem? hx) hfx (fun y hy hfy => by
              obtain ⟨j, hj, rfl⟩ := List.getElem_of_mem hy
              exact hmin j _ hj (List.getElem?_eq_getElem hj) hfy)]
            rfl
          subst hRs
          obtain ⟨g, d, y, rfl, hy, hat, hgd, -, hdl⟩ := hrow.at f hfi
          have exy : x = y := by rw [hx] at hy; exact Option.some.inj hy
          subst exy
          obtain ⟨c0, c1, c2, c3, c4, c5⟩ := hat
          have hfl : (f : Int) < (E.length : Int) := by omega
          have hf0 : ¬ (f : Int) < 0 := by omega
          have HOWN := hid (own_any (kc := d.kc) (mc := d.mc) (c := d.c) (ln := d.ln) (pr := d.pr) (ac := d.ac) hgd.kn0 hgd.ks hgd.ks3 hgd.mn0 hgd.ms hgd.ms3 hgd.n0 hgd.xs hgd.xs3)
          have HAC := hid hgd.ac
          have HX3 := hid hgd.xs3
          have HDL := hid hdl
          clear TR T1 HR hmin HOK HP HGD HKL hgd hy hx hfx hbest hrow hdl
          go_wp2_with fail
          refine HOWN.out.mono ?_
          rintro q w3 ⟨ak, ck, am, cm, oa, oc, rfl, -, -, lo, hb3⟩
          have hws : w.heap.size < wr.heap.size := World.block_lt_of_cell? wr _ x0
          have hal : Below w3.heap.size w3 (w3.alloc (EC ak d.kn ck am d.mn cm d.ln d.pr d.ac oa d.n oc)) := bl_alloc (Below.refl _ _)
          have hb4 := bl_step hb3 hal
          have Y0 := (hb4.cell (p := ⟨w.heap.size, 0, none⟩) hws).trans x0
          have Y1 := (hb4.cell (p := ⟨w.heap.size, 1, none⟩) hws).trans x1
          have G0 := (hb4.frozen (p := ⟨w.heap.size, 0, none⟩) hws).trans y0
          have G1 := (hb4.frozen (p := ⟨w.heap.size, 1, none⟩) hws).trans y1
          have SX := hid (six_new w3 (.slice ak d.kn ck) (.slice am d.mn cm) (.int .i64 d.ln) (.int .i64 d.pr) (.int .i64 d.ac) (.slice oa d.n oc) 33)
          have SY : Hid (Says (w3.alloc (EC ak d.kn ck am d.mn cm d.ln d.pr d.ac oa d.n oc)) (.agg #[.int .i64 d.ac, .slice oa d.n oc]) (x.ac, x.xs)) := ⟨oa, d.n, oc, by rw [HAC.out], lo.1, HX3.out, (lo.step hal).2.2.1⟩
          have BB := hid (bl_step BW.out hb4)
          have hne1 : ¬ w3.heap.size = w.heap.size := by have := hb3.size; omega
          have hne2 : ¬ w.heap.size = w3.heap.size := by have := hb3.size; omega
          clear HOWN lo hb3 hal hb4 x0 x1 y0 y1 BW c0 c1 c2 c3 c4 c5 r4
          go_upto_region 12 with fail
          generalize w3.alloc (EC ak d.kn ck am d.mn cm d.ln d.pr d.ac oa d.n oc) = w4 at *
          generalize w3.heap.size = eb at *
          obtain ⟨-, -, s2, -, s4, s5, -, -, -, -, -, -⟩ := SX.out
          have HEND : Hid (KFindDone w ((w4.drew.setCell ⟨w.heap.size, 0, none⟩ (.int .i64 d.ac)).setCell ⟨w.heap.size, 1, none⟩ (.slice oa d.n oc)) (some (x.ac, x.xs)) (.returned (.tuple #[.agg #[.int .i64 d.ac, .slice oa d.n oc], .int .i64 d.ln, .bool true]))) := by
            rw [HDL.out]
            exact ⟨_, rfl, msays_over (SY.out.moved (moved_below (Below.refl w4.heap.size w4).drew)) (show w4.drew.cell? _ = _ from Y0) (show w4.drew.cell? _ = _ from Y1) _ _, (BB.out.drew.setCell (by simp) _).setCell (by simp) _⟩
          go_region
          all_goals
            go_wp2
            exact bodyPost_ret (v := .tuple #[.agg #[.int .i64 d.ac, .slice oa d.n oc], .int .i64 d.ln, .bool true]) (by simp [results, Try.results19, go_sem, Y0, Y1]) rfl HEND.out
  · have hd : ((kn : Int) != keys) = true := by simpa using hkk
    have hRn : R = none := by
      rw [← HR.out]; unfold foundM; rw [if_neg (by rw [hkl]; exact hkk)]
    subst hRn
    go_quiet (fail)
    have x0 : (w0.drewN nq).cell? ⟨w.heap.size, 0, none⟩ = _ := HX.out.1
    have x1 : (w0.drewN nq).cell? ⟨w.heap.size, 1, none⟩ = _ := HX.out.2.1
    have y0 : (w0.drewN nq).frozen? ⟨w.heap.size, 0, none⟩ = _ := HX.out.2.2.1
    have y1 : (w0.drewN nq).frozen? ⟨w.heap.size, 1, none⟩ = _ := HX.out.2.2.2
    have B1 := hid (below_drewN HB0.out nq)
    clear hd c0 c1 HX
    generalize w0.drewN nq = w1 at *
    go_wp2
    exact bodyPost_ret (v := .tuple #[NoHit, .int .i64 0, .bool false]) (by simp [results, Try.results19, go_sem, x0, x1]) rfl ⟨_, rfl, says_none _, (B1.out.setCell (by simp) _).setCell (by simp) _⟩
end Go.Proofs.Ytlnkfgdepddmlac
