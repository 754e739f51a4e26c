/- TernaryFirst answers true. -/
import Derived.Test.YtlnkfgdepddmlacMBegun
import Derived.Test.YtlnkfgdepddmlacLSame
import Derived.Deep.CutRange
namespace Go.Proofs.Ytlnkfgdepddmlac
open Go.RowKit Mth

/-- a step's entry -/
def SD.md (d : SD) : MD := ⟨d.ka, d.kn, d.kc, d.ma, d.mn, d.mc, d.ln, d.pr, d.ac, d.a, d.n, d.c⟩
def SD.te (d : SD) : TE := ⟨d.ks, d.ms, d.pr, d.ac, d.xs⟩

theorem SD.ok.good {d : SD} {w : World} (h : d.ok w) (hs : d.small) : d.md.good w d.te := by
  obtain ⟨h0, h1, h2, h3, h4, h5⟩ := h
  obtain ⟨s1, s2, s3⟩ := hs
  exact ⟨h0, Nat.le_trans s1 (by omega), h1, h2, Nat.le_trans s2 (by omega), h3, rfl, rfl, h4, Nat.le_trans s3 (by omega), h5⟩

/-- while the table is filled -/
def MPh (w : World) (p : Nat) (keys most : Int) (k : Nat) (wr : World) : Prop := (∃ T, MTab wr w.heap.size p keys most T ∧ T.length ≤ k) ∧ Below w.heap.size w wr

theorem addTM_le {keys most : Int} {T : List TE} {e : TE} {k : Nat} (h : T.length ≤ k) : (addTM keys most T e).length ≤ k + 1 := by
  unfold addTM
  split
  · simp; omega
  · omega

theorem dropTM_le {keys : Int} {T : List TE} {e : TE} {k : Nat} (h : T.length ≤ k) : (dropTM keys T e).length ≤ k + 1 := by
  unfold dropTM
  split
  · have := (List.eraseIdx_sublist T (cutI T e)).length_le; omega
  · omega

theorem MPh.next {w wr w6 : World} {p : Nat} {keys most : Int} {k : Nat} {T : List TE} (h : Below w.heap.size w wr) (t : MTo wr w6 w.heap.size p keys most T) (hl : T.length ≤ k + 1) : MPh w p keys most (k + 1) w6 := ⟨⟨T, t.t, hl⟩, h.trans t.bel⟩

/-- the first that fits of the first i, and how many of its rank -/
def FirstOf (T : List TE) (ks : List Int) (i : Nat) (b m : Int) : Prop :=
  (b = -1 ∧ m = 0 ∧ ∀ t x, t < i → T[t]? = some x → ¬ FitsE x ks) ∨ ∃ (f : Nat) (x : TE), b = (f : Int) ∧ f < i ∧ Hit1 T ks f x ∧ m = 1

theorem first_zero (T : List TE) (ks : List Int) : FirstOf T ks 0 (-1) 0 := .inl ⟨rfl, rfl, fun _ _ h => absurd h (Nat.not_lt_zero _)⟩

theorem first_skip {T : List TE} {ks : List Int} {i : Nat} {b m : Int} {y : TE} (h : FirstOf T ks i b m) (hy : T[i]? = some y) (hn : ¬ FitsE y ks) : FirstOf T ks (i + 1) b m := by
  rcases h with ⟨h1, h2, h3⟩ | ⟨f, x, h1, h2, h3, h4⟩
  · refine .inl ⟨h1, h2, fun t x ht hx => ?_⟩
    by_cases e : t = i
    · subst e; rw [hy] at hx; cases hx; exact hn
    · exact h3 t x (by omega) hx
  · exact .inr ⟨f, x, h1, by omega, h3, h4⟩

theorem first_new {T : List TE} {ks : List Int} {i : Nat} {m : Int} {y : TE} (h : FirstOf T ks i (-1) m) (hy : T[i]? = some y) (hf : FitsE y ks) : FirstOf T ks (i + 1) i 1 := by
  rcases h with ⟨_, _, h3⟩ | ⟨f, x, h1, _⟩
  · exact .inr ⟨i, y, rfl, by omega, ⟨hy, hf, fun t x ht hx => h3 t x ht hx⟩, rfl⟩
  · omega

theorem first_more {T : List TE} {ks : List Int} {i : Nat} {b m : Int} (h : FirstOf T ks i b m) (hb : 0 ≤ b) : FirstOf T ks (i + 1) b m := by
  rcases h with ⟨h1, _⟩ | ⟨f, x, h1, h2, h3, h4⟩
  · omega
  · exact .inr ⟨f, x, h1, by omega, h3, h4⟩

theorem fits_two {x : TE} {ks : List Int} (h2 : x.ks.length = 2) : FitsE x ks ↔ (nz ks 0 &&& nz x.ms 0 = nz x.ks 0 ∧ nz ks 1 &&& nz x.ms 1 = nz x.ks 1) := by
  constructor
  · intro h; exact ⟨h 0 (by omega), h 1 (by omega)⟩
  · rintro ⟨h0, h1⟩ i hi
    match i, hi with
    | 0, _ => exact h0
    | 1, _ => exact h1
    | n + 2, h => omega

theorem fit_num {k m q : Int} (hk : N64 k) (hm : N64 m) (hq : N64 q) : ∃ a, bits .and .u64 k m = a ∧ (a = q ↔ k.toNat &&& m.toNat = q.toNat) := by
  refine ⟨_, rfl, ?_⟩
  rw [mfit_nums hk hm]
  have := hq.1
  constructor <;> intro h <;> omega

set_option maxHeartbeats 400000 in
set_option maxRecDepth 20000 in
theorem msame_hit {w : World} {u v : Value} {h : HitM} (su : Says w u h) (sv : Says w v h) :
    Calls Try.prog 20 #[u, v] w fun e w' => e = .returned (.bool true) ∧ Grew w w' := by
  obtain ⟨a, n, c, rfl, _, hs, hu⟩ := su
  obtain ⟨b, m, d, rfl, _, _, hv⟩ := sv
  have e : m = n := by rw [← hu.1, ← hv.1]
  subst e
  have hx : (h.1 == h.1) = true := by simp
  have HU := hid hu
  have HV := hid hv
  clear hu hv
  go_enter Try.func20, Try.ntmps20
  go_wp2_with (go_at_call 48; refine (same_nums _ _ hs HU.out.alloc.alloc HV.out.alloc.alloc).mono ?_; rintro e w1 ⟨rfl, s1, rfl⟩)
  go_ret
  exact ⟨rfl, grew_alloc2 _ _ _ _⟩

theorem mhitOf_any (k m a : Option Addr) (nk ck nm cm na ca : Nat) (x y z : Int) (w : World) :
    Calls Try.prog 12 #[EV k nk ck m nm cm x y z a na ca] w fun e w' => e = .returned (.agg #[.int .i64 z, .slice a na ca]) ∧ Grew w w' := by
  go_enter Try.func12, Try.ntmps12
  go_wp2
  exact bodyPost_ret (v := .agg #[.int .i64 z, .slice a na ca]) (by simp [results, Try.results12, go_sem]) rfl ⟨rfl, grew_alloc2 w _ _ 0⟩

set_option maxHeartbeats 8000000 in
set_option maxRecDepth 40000 in
theorem first_main (most : Int) (a : Option Addr) (n c : Nat) (S : List SD) (ka : Option Addr) (kn kc : Nat) (ks : List Int) (w : World) (h : Steps w a n S) (hk : Has .u64 w ka kn ks) :
    Calls Try.prog 6 #[.int .i64 most, .slice a n c, .slice ka kn kc] w fun e w' => e = .returned (.bool true) ∧ Below w.heap.size w w' := by
  have HS := hid h
  have HK := hid hk
  clear h hk
  go_enter Try.func6, Try.ntmps6
  go_wp2_with fail
  refine (ternary_begun _).mono ?_
  rintro e w1 ⟨rfl, hb1⟩
  have HB1 := hid hb1
  clear hb1
  go_wp2_with fail
  refine (great_any (HS.out.step HB1.out)).mono ?_
  rintro e w2 ⟨ht, rfl⟩
  rcases ht with rfl | ⟨rfl, hn, hsm⟩
  · clear HS
    go_wp2
    go_ret
    exact ⟨rfl, HB1.out⟩
  · have HSM := hid hsm
    clear hsm
    by_cases hk2 : kn = 2
    · subst hk2
      go_wp2_with fail
      refine (mnew_any 2 most _ w.heap.size HB1.out.size).mono ?_
      rintro e w3 ⟨rfl, t3, hb3⟩
      have P0 : MPh w w2.heap.size 2 most 0 w3 := ⟨⟨_, t3, by simp⟩, bl_step HB1.out hb3⟩
      generalize w2.heap.size = p at *
      clear t3 hb3 HB1
      go_wp2_with fail
      go_loopw [8] (fun q wr => ∃ k : Nat, k ≤ n ∧ q = .int .i64 k ∧ MPh w p 2 most k wr) (fun q _ => n - (intOf q).toNat)
      case atStart => exact ⟨0, Nat.zero_le _, rfl, P0⟩
      case round =>
        obtain ⟨k, hk, rfl, hP⟩ := hrel
        clear P0
        by_cases hlt : k < n
        · have hd : S[k]? = some (S[k]'(by have := HS.out.1; omega)) := List.getElem?_eq_getElem _
          have hsd := HSM.out _ (List.getElem_mem (l := S) (n := k) (by have := HS.out.1; omega))
          obtain ⟨g, off, rfl, hat, hok⟩ := (HS.out.step hP.2).2 k _ hd
          clear hd
          generalize S[k]'(by have := HS.out.1; omega) = d at *
          obtain ⟨⟨T, t, hTl⟩, hPb⟩ := hP
          have HPB := hid hPb
          have HD := mdrop_any t (hok.good hsd) (by omega)
          have HA := madd_any t (hok.good hsd) (by omega)
          dsimp only [MD.ev, SD.md] at HD HA
          have HDD := hid HD
          have HAA := hid HA
          obtain ⟨h0, h1, h2, h3, h4, h5, h6⟩ := hat
          clear t hok hsd HD HA hPb
          have hki : (k : Int) < (n : Int) := by omega
          by_cases hdo : d.doo = 2
          · have e2 : (d.doo == 2) = true := by simp [hdo]
            clear hdo
            go_wp2_with fail
            refine HDD.out.mono ?_
            rintro e w6 ⟨rfl, t6⟩
            have HN := hid (MPh.next HPB.out t6 (dropTM_le hTl))
            clear t6 HDD HAA
            generalize hasCM 2 T d.te = cc at *
            go_wp2
            go_roundw
            case rel => exact ⟨k + 1, by omega, by go_num, HN.out⟩
            case measure => simp [intOf]; omega
          · have e2 : (d.doo == 2) = false := by simpa using hdo
            clear hdo
            go_wp2_with fail
            refine HAA.out.mono ?_
            rintro e w6 ⟨rfl, t6⟩
            have HN := hid (MPh.next HPB.out t6 (addTM_le hTl))
            clear t6 HDD HAA
            generalize addCM 2 most T d.te = cc at *
            go_wp2
            go_roundw
            case rel => exact ⟨k + 1, by omega, by go_num, HN.out⟩
            case measure => simp [intOf]; omega
        · obtain ⟨⟨T, t, hTl⟩, hB⟩ := hP
          have HT := hid t
          have HB := hid hB
          have HOK := hid t.ok
          clear t hB HS HSM
          go_wp2_with fail
          refine (mall_any HT.out (by omega)).mono ?_
          rintro e w4 ⟨ea, ec, rfl, hE, hb4⟩
          have HE := hid hE
          have B4 := hid hb4
          have HF := hid (mfind_any (kc := kc) (HT.out.step B4.out) ((HK.out.step HB.out).step B4.out) (by omega))
          clear hE hb4
          go_wp2_with fail
          refine HF.out.mono ?_
          rintro e w5 ⟨v, rfl, hs, hb5⟩
          generalize hR : foundM 2 T ks = R at *
          have HR := hid hR
          have hs' := hs
          obtain ⟨fa, fn, fc, rfl, -⟩ := hs
          have hal := bl_alloc (o := HC (R.getD (0, [])).1 fa fn fc) (Below.refl w5.heap.size w5)
          have HSX := hid (hs'.moved (moved_below hal))
          have HQ := hid (new_two w5 (.int .i64 (R.getD (0, [])).1) (.slice fa fn fc) 40)
          have HE6 := hid ((HE.out.step hb5).step hal)
          have HK6 := hid ((((HK.out.step HB.out).step B4.out).step hb5).step hal)
          have B6 := hid (bl_step (bl_step (bl_step HB.out B4.out) hb5) hal)
          have hks2 : ks.length = 2 := HK.out.1
          clear hR hs' hal hb5 HE HF HT B4 HB
          go_upto_region 14 with fail
          generalize w5.alloc (HC (R.getD (0, [])).1 fa fn fc) = w6 at *
          generalize w5.heap.size = hb at *
          go_wp2_with fail
          go_loopw [12, 13, 14] (fun x y q wr => ∃ (i : Nat) (b m : Int), i ≤ T.length ∧ q = .int .i64 i ∧ x = .int .i64 b ∧ y = .int .i64 m ∧ Hid (FirstOf T ks i b m) ∧ Hid (Below w6.heap.size w6 wr)) (fun _ _ q _ => T.length - (intOf q).toNat)
          case atStart => exact ⟨0, -1, 0, Nat.zero_le _, rfl, rfl, rfl, first_zero _ _, Below.refl _ _⟩
          case round =>
            obtain ⟨i, b, m, hi, rfl, rfl, rfl, hfo, hwr⟩ := hrel
            have HER := hid (HE6.out.step hwr.out)
            by_cases hlt2 : i < T.length
            · have hy : T[i]? = some (T[i]'hlt2) := List.getElem?_eq_getElem _
              generalize T[i]'hlt2 = y at *
              obtain ⟨g, d, rfl, hat, hgd, hdl⟩ := HER.out.2 i y hy
              have hgy := HOK.out.good y (List.mem_of_getElem? hy)
              have hyk : y.ks.length = 2 := by have := hgy.1; omega
              have hym : y.ms.length = 2 := by have := hgy.2.1; omega
              have hdk : d.kn = 2 := by rw [← hgd.ks.1]; exact hyk
              have hdm : d.mn = 2 := by rw [← hgd.ms.1]; exact hym
              obtain ⟨kb, ko, eka, -, hkc⟩ := (HK6.out.step hwr.out).some (by omega)
              obtain ⟨qb, qo, eqa, -, hqc⟩ := hgd.ks.some (by omega)
              obtain ⟨mb, mo, ema, -, hmc⟩ := hgd.ms.some (by omega)
              subst eka
              have v0 := hkc 0 (by omega)
              have v1 := hkc 1 (by omega)
              have y0 := hqc 0 (by omega)
              have y1 := hqc 1 (by omega)
              have m0 := hmc 0 (by omega)
              have m1 := hmc 1 (by omega)
              obtain ⟨a0, ea0, fa0⟩ := fit_num (n64_at HK6.out 0) (n64_at hgd.ms 0) (n64_at hgd.ks 0)
              obtain ⟨a1, ea1, fa1⟩ := fit_num (n64_at HK6.out 1) (n64_at hgd.ms 1) (n64_at hgd.ks 1)
              have HFIT : Hid (FitsE y ks ↔ (a0 = y.ks.getD 0 0 ∧ a1 = y.ks.getD 1 0)) := by
                show FitsE y ks ↔ _
                rw [fits_two hyk]
                exact ⟨fun h => ⟨fa0.2 h.1, fa1.2 h.2⟩, fun h => ⟨fa0.1 h.1, fa1.1 h.2⟩⟩
              have HGD := hid hgd
              have HY := hid hy
              have hpr := hgd.pr
              obtain ⟨c0, c1, c2, c3, c4, c5⟩ := hat
              obtain ⟨dka, dkn, dkc, dma, dmn, dmc, dln, dpr, dac, da, dn, dc⟩ := d
              simp only at hdk hdm hdl hpr eqa ema c0 c1 c2 c3 c4 c5
              subst hdk; subst hdm; subst hdl; subst eqa; subst ema; subst hpr
              have hal : Below wr.heap.size wr (wr.alloc (EC (some ⟨qb, qo, none⟩) 2 dkc (some ⟨mb, mo, none⟩) 2 dmc 0 y.pr dac da dn dc)) := bl_alloc (Below.refl _ _)
              have SN : Six (wr.alloc (EC (some ⟨qb, qo, none⟩) 2 dkc (some ⟨mb, mo, none⟩) 2 dmc 0 y.pr dac da dn dc)) wr.heap.size (.slice (some ⟨qb, qo, none⟩) 2 dkc) (.slice (some ⟨mb, mo, none⟩) 2 dmc) (.int .i64 0) (.int .i64 y.pr) (.int .i64 dac) (.slice da dn dc) := six_new wr _ _ _ _ _ _ _
              have lt1 : kb < wr.heap.size := World.block_lt_of_cell? wr _ v0
              have lt2 : qb < wr.heap.size := World.block_lt_of_cell? wr _ y0
              have lt3 : mb < wr.heap.size := World.block_lt_of_cell? wr _ m0
              rw [Nat.add_zero] at v0 y0 m0
              have V0 := (hal.cell (p := ⟨kb, ko, none⟩) lt1).trans v0
              have V1 := (hal.cell (p := ⟨kb, ko + 1, none⟩) lt1).trans v1
              have Y0 := (hal.cell (p := ⟨qb, qo, none⟩) lt2).trans y0
              have Y1 := (hal.cell (p := ⟨qb, qo + 1, none⟩) lt2).trans y1
              have M0 := (hal.cell (p := ⟨mb, mo, none⟩) lt3).trans m0
              have M1 := (hal.cell (p := ⟨mb, mo + 1, none⟩) lt3).trans m1
              have HBB := hid (bl_step hwr.out hal)
              have HENT := hid (HER.out.step hal)
              obtain ⟨n0, n1, -, n3, -, -, -, -, -, -, -, -⟩ := SN
              have hii : (i : Int) < (T.length : Int) := by omega
              clear hgd hy hkc hqc hmc v0 v1 y0 y1 m0 m1 fa0 fa1 HER hal lt1 lt2 lt3
              generalize ks.getD 0 0 = k0 at *
              generalize ks.getD 1 0 = k1 at *
              generalize y.ks.getD 0 0 = q0 at *
              generalize y.ks.getD 1 0 = q1 at *
              generalize y.ms.getD 0 0 = s0 at *
              generalize y.ms.getD 1 0 = s1 at *
              go_upto_region 19 with fail
              generalize wr.alloc (EC (some ⟨qb, qo, none⟩) 2 dkc (some ⟨mb, mo, none⟩) 2 dmc 0 y.pr dac da dn dc) = wb at *
              generalize wr.heap.size = eb at *
              clear c0 c1 c2 c3 c4 c5
              by_cases d0 : a0 = q0
              · have D0 : (a0 != q0) = false := by simpa using d0
                by_cases d1 : a1 = q1
                · have D1 : (a1 != q1) = false := by simpa using d1
                  have HFY := hid (HFIT.out.2 ⟨d0, d1⟩)
                  clear d0 d1
                  go_quiet (fail)
                  have HBQ := hid (bl_step HBB.out (below_drewN (Below.refl wb.heap.size wb) nq))
                  have HEQ := hid (HENT.out.step (below_drewN (Below.refl wb.heap.size wb) nq))
                  have n3' : (wb.drewN nq).cell? ⟨eb, 3, none⟩ = some (.int .i64 y.pr) := n3
                  clear V0 V1 Y0 Y1 M0 M1 n0 n1 n3 HBB HENT D0 D1
                  generalize wb.drewN nq = wq at *
                  have HFO2 := hid hfo.out
                  rcases HFO2.out with ⟨rfl, rfl, -⟩ | ⟨f, x, rfl, hfi, hhit, rfl⟩
                  · have HNX := hid (first_new hfo.out HY.out HFY.out)
                    obtain ⟨g', d', eg, hat', hgd', -⟩ := HEQ.out.2 i y HY.out
                    have eg' : g = g' := by simpa using eg
                    subst eg'
                    have z3 := hat'.c3
                    rw [hgd'.pr] at z3
                    have hpe : (y.pr == y.pr) = true := by simp
                    clear hfo HFO2 eg hat' hgd' HEQ
                    generalize y.pr = yp at *
                    go_wp2_with fail
                    go_quiet (fail)
                    have n4 : (wq.drewN nq).cell? ⟨eb, 3, none⟩ = some (.int .i64 yp) := n3'
                    have z4 : (wq.drewN nq).cell? ⟨g, i * 6 + 3, none⟩ = some (.int .i64 yp) := z3
                    have HBR := hid (bl_step HBQ.out (below_drewN (Below.refl wq.heap.size wq) nq))
                    clear n3' z3 HBQ
                    generalize wq.drewN nq = wt at *
                    go_wp2_with fail
                    go_quiet (fail)
                    have HBS := hid (bl_step HBR.out (below_drewN (Below.refl wt.heap.size wt) nq))
                    clear n4 z4
                    go_wp2
                    go_roundw
                    case rel => exact ⟨i + 1, _, _, by omega, by go_num, rfl, rfl, HNX.out, HBS.out⟩
                    case measure => simp [intOf]; omega
                  · have HNX := hid (first_more hfo.out (by omega))
                    have hlt3 := hit_only HOK.out hhit hfi HY.out HFY.out
                    obtain ⟨g', d', eg, hat', hgd', -⟩ := HEQ.out.2 f x hhit.1
                    have eg' : g = g' := by simpa using eg
                    subst eg'
                    have z3 := hat'.c3
                    rw [hgd'.pr] at z3
                    have hp1 : decide (y.pr < x.pr) = false := decide_eq_false (by omega)
                    have hp2 : (y.pr == x.pr) = false := by simp; omega
                    have hf0 : ¬ (f : Int) < 0 := by omega
                    have hf0d : decide ((f : Int) < 0) = false := decide_eq_false hf0
                    have hfl : (f : Int) < (T.length : Int) := by omega
                    clear hfo HFO2 eg hat' hgd' HEQ hhit hlt3
                    generalize y.pr = yp at *
                    generalize x.pr = xp at *
                    go_wp2_with fail
                    go_quiet (fail)
                    have n4 : (wq.drewN nq).cell? ⟨eb, 3, none⟩ = some (.int .i64 yp) := n3'
                    have z4 : (wq.drewN nq).cell? ⟨g, f * 6 + 3, none⟩ = some (.int .i64 xp) := z3
                    have HBR := hid (bl_step HBQ.out (below_drewN (Below.refl wq.heap.size wq) nq))
                    clear n3' z3 HBQ
                    generalize wq.drewN nq = wt at *
                    go_wp2_with fail
                    go_quiet (fail)
                    have HBS := hid (bl_step HBR.out (below_drewN (Below.refl wt.heap.size wt) nq))
                    clear n4 z4
                    go_wp2
                    go_roundw
                    case rel => exact ⟨i + 1, _, _, by omega, by go_num, rfl, rfl, HNX.out, HBS.out⟩
                    case measure => simp [intOf]; omega
                · have D1 : (a1 != q1) = true := by simpa using d1
                  have HNX := hid (first_skip hfo.out HY.out (fun h => d1 (HFIT.out.1 h).2))
                  clear d0 d1 hfo
                  go_quiet (fail)
                  have HBQ := hid (bl_step HBB.out (below_drewN (Below.refl wb.heap.size wb) nq))
                  go_wp2
                  go_roundw
                  case rel => exact ⟨i + 1, _, _, by omega, by go_num, rfl, rfl, HNX.out, HBQ.out⟩
                  case measure => simp [intOf]; omega
              · have D0 : (a0 != q0) = true := by simpa using d0
                have HNX := hid (first_skip hfo.out HY.out (fun h => d0 (HFIT.out.1 h).1))
                clear d0 hfo
                go_quiet (fail)
                have HBQ := hid (bl_step HBB.out (below_drewN (Below.refl wb.heap.size wb) nq))
                go_wp2
                go_roundw
                case rel => exact ⟨i + 1, _, _, by omega, by go_num, rfl, rfl, HNX.out, HBQ.out⟩
                case measure => simp [intOf]; omega
            · have ei : i = T.length := by omega
              subst ei
              rcases hfo.out with ⟨rfl, rfl, hno⟩ | ⟨f, x, rfl, hfi, hhit, rfl⟩
              · have hRn : R = none := by
                  rw [← HR.out]; unfold foundM
                  rw [if_pos (by omega), found_no (fun x hx => by
                    obtain ⟨j, hj, rfl⟩ := List.getElem_of_mem hx
                    exact hno j _ (by omega) (List.getElem?_eq_getElem hj))]
                  rfl
                subst hRn
                have HW := hid (bl_step B6.out hwr.out)
                clear hno hfo HER HQ HSX
                go_wp2
                go_ret
                exact ⟨rfl, HW.out⟩
              · have hRs : R = some (x.ac, x.xs) := by
                  rw [← HR.out]; unfold foundM; rw [if_pos (by omega), found_hit hhit]; rfl
                subst hRs
                simp only [Option.getD_some, Option.isSome_some] at *
                obtain ⟨g, d, rfl, hat, hgd, -⟩ := HER.out.2 f x hhit.1
                have hgl : g < wr.heap.size := World.block_lt_of_cell? wr _ hat.c0
                have hbl : hb < w6.heap.size := World.block_lt_of_cell? w6 _ HQ.out.1
                have q0 := (hwr.out.cell (p := ⟨hb, 0, none⟩) hbl).trans HQ.out.1
                have q1 := (hwr.out.cell (p := ⟨hb, 1, none⟩) hbl).trans HQ.out.2.1
                have hbr : hb < wr.heap.size := World.block_lt_of_cell? wr _ q0
                have X0 := cell_grown (a := ⟨hb, 0, none⟩) hbr q0
                have X1 := cell_grown (a := ⟨hb, 1, none⟩) hbr q1
                have E0 := cell_grown (a := ⟨g, f * 6, none⟩) hgl hat.c0
                have E1 := cell_grown (a := ⟨g, f * 6 + 1, none⟩) hgl hat.c1
                have E2 := cell_grown (a := ⟨g, f * 6 + 2, none⟩) hgl hat.c2
                have E3 := cell_grown (a := ⟨g, f * 6 + 3, none⟩) hgl hat.c3
                have E4 := cell_grown (a := ⟨g, f * 6 + 4, none⟩) hgl hat.c4
                have E5 := cell_grown (a := ⟨g, f * 6 + 5, none⟩) hgl hat.c5
                have SD' : Says wr (.agg #[.int .i64 d.ac, .slice d.a d.n d.c]) (x.ac, x.xs) := ⟨d.a, d.n, d.c, by rw [hgd.ac], hgd.n0, hgd.xs3, hgd.xs⟩
                have HHO := hid (fun (q : Nat) (os : Array Obj) => mhitOf_any d.ka d.ma d.a d.kn d.kc d.mn d.mc d.n d.c d.ln d.pr d.ac (Sort.grow (wr.drewN q) os))
                have HSH := hid (fun (q : Nat) (os : Array Obj) => msame_hit ((HSX.out.moved (moved_below hwr.out)).moved (moved_below (below_grow wr q os))) (SD'.moved (moved_below (below_grow wr q os))))
                have hfl : (f : Int) < (T.length : Int) := by omega
                have hf0 : ¬ (f : Int) < 0 := by omega
                have hfew := HOK.out.few
                have hmp : 0 < most := by omega
                have hml : (T.length : Int) ≤ most := by omega
                have hmd : decide ((T.length : Int) ≤ most) = true := decide_eq_true hml
                have hmx : max most 0 = most := by omega
                have BR := hid (bl_step B6.out hwr.out)
                clear hat hgd hhit hfo HER q0 q1 SD' hfew HQ HSX
                go_wp2_with fail
                refine wp_region_quiet_grown (by kernel_rfl) (by kernel_rfl) ?_
                repeat (go_big_quiet_step (first | (go_at_call 12; exact Calls.grown_of (HHO.out _ _)) | (go_at_call 20; exact Calls.grown_of (HSH.out _ _))))
                refine wpQuiet_nil ?_
                intro _ hw'
                obtain ⟨⟨nq, osq⟩, hw''⟩ := hw'
                subst hw''
                have HB2 := hid (bl_step BR.out (below_grow wr nq osq))
                clear HHO HSH X0 X1 E0 E1 E2 E3 E4 E5
                go_wp2
                go_ret
                exact ⟨rfl, HB2.out⟩
    · have hd : ((kn : Int) != 2) = true := by simp; omega
      clear HS HSM
      go_wp2
      go_ret
      exact ⟨rfl, HB1.out⟩
end Go.Proofs.Ytlnkfgdepddmlac
