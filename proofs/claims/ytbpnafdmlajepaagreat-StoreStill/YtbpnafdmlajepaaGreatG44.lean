/- Texts of one chain, joined: SLaw. -/
import Derived.Test.YtbpnafdmlajepaaGreatG43
import Derived.Test.YtbpnafdmlajepaaGreatG51
import Derived.Test.YtbpnafdmlajepaaGreatG17
import Derived.Deep.CutBlock
import Derived.Deep.CutRange
import Derived.Deep.DeepCutAuto
import Derived.Deep.RegionHeld3
namespace Go.Proofs.YtbpnafdmlajepaaGreat
open Go.RowKit Mth
def EsOk (k : FK) (f : FSt) : Prop := k.kind = 2 → (f.es.length : Int) ≤ k.most
theorem es_add {k : FK} {f : FSt} {ws : List Int} {Ms : List (Int × List Int)} {e : TE} {ln : Int} (h : EsOk k f) : EsOk k (stAdd k f ws Ms e ln).2 := fun hk => by
  have h0 := h hk
  unfold stAdd
  split
  · exact h0
  unfold faceAdd
  rw [if_neg (by omega), if_pos hk]
  show ((addE f.C f.es k.wd k.most (key0 e) ln).length : Int) ≤ k.most
  unfold addE
  split
  · rename_i hc
    unfold addCode at hc
    split at hc
    · split at hc
      · cases hc
      · split at hc
        · cases hc
        · rw [List.length_append]
          show ((f.es.length + 1 : Nat) : Int) ≤ _
          omega
    · cases hc
  · exact h0
theorem es_chg {k : FK} {f : FSt} {ws : List Int} {Ms : List (Int × List Int)} {e : TE} {ln : Int} (h : EsOk k f) : EsOk k (stChg k f ws Ms e ln).2 := fun hk => by
  have h0 := h hk
  unfold stChg
  split
  · exact h0
  unfold faceChg
  rw [if_neg (by omega), if_pos hk]
  exact h0
theorem es_drop {k : FK} {f : FSt} {ws : List Int} {e : TE} {ln : Int} (h : EsOk k f) : EsOk k (stDrop k f ws e ln).2 := fun hk => by
  have h0 := h hk
  unfold stDrop
  split
  · exact h0
  unfold faceDrop
  rw [if_neg (by omega), if_pos hk]
  show ((dropE f.C f.es k.wd (key0 e) ln).length : Int) ≤ k.most
  unfold dropE
  split
  · have := List.length_erase_le (a := place k.wd (key0 e) ln) (l := f.es)
    omega
  · exact h0
theorem cap_of {w : World} {k : FK} {f : FSt} {t : TabD} {wl : List Int} {B : Nat} (h : FaceAt w k f) (hn : NewFace t wl B k) (he : EsOk k f) (h0 : 0 ≤ t.cap) : (faceLen k f : Int) ≤ t.cap := by
  unfold faceLen
  rcases h with ⟨e, x, _⟩ | ⟨e, x, _⟩ | ⟨e, x, _⟩
  · rw [if_pos e]
    have h1 := x.most
    have h2 := (hn.K (by rw [← hn.kind]; exact e)).2
    omega
  · rw [if_neg (by omega), if_pos e]
    have h1 := he e
    have h2 := (hn.wd (by rw [← hn.kind]; exact e)).2
    omega
  · rw [if_neg (by omega), if_neg (by omega)]
    have h1 := x.ok.few
    have h2 := (hn.keys (by rw [← hn.kind]; exact e)).2
    omega
def StL (WL : World) (K0 s : Nat) (k : FK) (ws : List Int) (Ms : List (Int × List Int)) (wr : World) : Prop := ∃ f h N X, StAt wr s k f ws Ms h N X ∧ EsOk k f ∧ Below K0 WL wr
def StM (W3 : World) (K0 s : Nat) (k : FK) (f : FSt) (ws : List Int) (Ms : List (Int × List Int)) (h : HitM) (C : Int) (wm : World) : Prop := ∃ f' h' N X, StAt wm s k f' ws Ms h' N X ∧ EsOk k f' ∧ Below K0 W3 wm ∧ (C ≠ 0 → f' = f ∧ h' = h ∧ Below W3.heap.size W3 wm)
set_option maxHeartbeats 16000000 in
set_option maxRecDepth 20000 in
theorem storestill_main (t : TabD) (wq : QSl) (wl : List Int) (aq : QSl) (al : List ActD) (la : Option Addr) (n lc : Nat) (S : List SD) (w : World) (hw : Has .i64 w wq.a wq.n wl) (hwn : wq.nil0) (hcap : (Lit.int .i64 t.cap).wf = true) (ht : Has .i64 w t.acts.a t.acts.n t.al) (hz : Has .u64 w t.args.a t.args.n t.zs) (hz0 : t.args.nil0) (ha : QRow 2 ActD.lie w aq al) (hS : Steps w la n S) :
    Calls Tryz.prog 3 #[t.v', .slice wq.a wq.n wq.c, .slice aq.a aq.n aq.c, .slice la n lc] w fun e w' => e = .returned (.bool true) ∧ Below w.heap.size w w' := by
  obtain ⟨W1, hW⟩ : ∃ W1, W1 = w.alloc t.box' := ⟨_, rfl⟩
  obtain ⟨tb, etb⟩ : ∃ b, b = w.heap.size := ⟨_, rfl⟩
  have b1 : Below w.heap.size w W1 := by rw [hW]; exact bl_alloc (Below.refl _ _)
  have hc : ∀ (o : Nat) (v : Value), (#[.int .i64 t.kind, .slice t.keys.a t.keys.n t.keys.c, .slice t.acts.a t.acts.n t.acts.c, .int .i64 t.cap, .int .i64 t.dflt, .slice t.args.a t.args.n t.args.c] : Array Value)[o]? = some v → W1.cell? ⟨tb, o, none⟩ = some v := fun o v hv => by rw [hW, etb]; exact (World.cell?_alloc_at _ _ _ _ rfl).trans hv
  have HCT := hid hc
  have HT : Hid (w.heap.size ≤ tb ∧ tb < W1.heap.size) := by rw [hW, etb]; exact ⟨Nat.le_refl _, by simp⟩
  have HBG := hid (store_begun W1)
  have HB1 := hid b1
  have HA : Hid (Has .i64 w wq.a wq.n wl ∧ Has .i64 w t.acts.a t.acts.n t.al ∧ Has .u64 w t.args.a t.args.n t.zs ∧ QRow 2 ActD.lie w aq al) := ⟨hw, ht, hz, ha⟩
  have HN0 : Hid (wq.nil0 ∧ t.args.nil0 ∧ (Lit.int .i64 t.cap).wf = true) := ⟨hwn, hz0, hcap⟩
  have HS := hid hS
  have EW := hid hW
  have ET := hid etb
  clear hW etb b1 hc hw hwn hcap ht hz hz0 ha hS
  go_enter Tryz.func3, Tryz.ntmps3
  go_wp2_with fail
  rw [← EW.out, ← ET.out]
  refine HBG.out.mono ?_
  rintro e w2 ⟨rfl, hb2⟩
  clear EW ET HBG
  have HB2 := hid (bl_step HB1.out hb2)
  have HC2 : Hid (∀ (o : Nat) (v : Value), (#[.int .i64 t.kind, .slice t.keys.a t.keys.n t.keys.c, .slice t.acts.a t.acts.n t.acts.c, .int .i64 t.cap, .int .i64 t.dflt, .slice t.args.a t.args.n t.args.c] : Array Value)[o]? = some v → w2.cell? ⟨tb, o, none⟩ = some v) := fun o v hv => cell_keep (HCT.out o v hv) hb2
  have HT2 : Hid (w.heap.size ≤ tb ∧ tb < w2.heap.size) := ⟨HT.out.1, Nat.lt_of_lt_of_le HT.out.2 hb2.size⟩
  clear hb2 HB1 HCT HT
  have z0 := HC2.out 0 _ rfl
  have z1 := HC2.out 1 _ rfl
  have z2 := HC2.out 2 _ rfl
  have z3 := HC2.out 3 _ rfl
  have z4 := HC2.out 4 _ rfl
  have z5 := HC2.out 5 _ rfl
  have HTG := hid (tgreat t wq.a wq.n wq.c aq al w2 (HA.out.2.2.2.step ActD.keeps HB2.out))
  go_wp2_with fail
  refine HTG.out.mono ?_
  rintro e w3 ⟨hb3, b, rfl, hgr⟩
  have HB3 := hid (bl_step HB2.out hb3)
  have HGR := hid hgr
  have HC3 : Hid (∀ (o : Nat) (v : Value), (#[.int .i64 t.kind, .slice t.keys.a t.keys.n t.keys.c, .slice t.acts.a t.acts.n t.acts.c, .int .i64 t.cap, .int .i64 t.dflt, .slice t.args.a t.args.n t.args.c] : Array Value)[o]? = some v → w3.cell? ⟨tb, o, none⟩ = some v) := fun o v hv => cell_keep (HC2.out o v hv) hb3
  have HT3 : Hid (w.heap.size ≤ tb ∧ tb < w3.heap.size) := ⟨HT2.out.1, Nat.lt_of_lt_of_le HT2.out.2 hb3.size⟩
  clear hb3 HB2 HC2 HT2 HTG hgr z0 z1 z2 z3 z4 z5
  cases b with
  | true =>
    go_wp2
    go_ret
    exact ⟨rfl, HB3.out⟩
  | false =>
    obtain ⟨g1, g2, g3, g4, g5⟩ := HGR.out rfl
    have HSG := hid (lgreat_any (c := lc) (HS.out.step HB3.out))
    have HG : Hid (t.acts.n ≤ 50 ∧ t.args.n ≤ 50 ∧ wq.n ≤ 50 ∧ aq.n ≤ 50 ∧ ∀ x ∈ al, x.w.n ≤ 50) := ⟨g1, g2, g3, g4, g5⟩
    clear HGR g1 g2 g3 g4 g5
    go_wp2_with fail
    refine HSG.out.mono ?_
    rintro e w4 ⟨hto, rfl⟩
    clear HSG
    rcases hto with rfl | ⟨rfl, hn200, hsm⟩
    · go_wp2
      go_ret
      exact ⟨rfl, HB3.out⟩
    have HSM := hid hsm
    clear hsm
    by_cases h60 : (60 : Int) < (n : Int)
    · go_wp2
      go_ret
      exact ⟨rfl, HB3.out⟩
    have HNW := hid (snew t wq wl aq al w4 (HA.out.1.step HB3.out) HN0.out.1 (by have := HG.out.2.2.1; omega) HN0.out.2.2 (HA.out.2.1.step HB3.out) (by have := HG.out.1; omega) (HA.out.2.2.1.step HB3.out) HN0.out.2.1 (by have := HG.out.2.1; omega) (HA.out.2.2.2.step ActD.keeps HB3.out) (by have := HG.out.2.2.2.1; omega) (fun x hx => by have := HG.out.2.2.2.2 x hx; omega))
    have z0 := HC3.out 0 _ rfl
    have z1 := HC3.out 1 _ rfl
    have z2 := HC3.out 2 _ rfl
    have z3 := HC3.out 3 _ rfl
    have z4 := HC3.out 4 _ rfl
    have z5 := HC3.out 5 _ rfl
    go_wp2_with fail
    refine HNW.out.mono ?_
    rintro e w5 ⟨hb5, hN⟩
    clear HNW z0 z1 z2 z3 z4 z5
    have HB5 := hid (bl_step HB3.out hb5)
    rcases hN with ⟨hc0, rfl⟩ | ⟨hc0, s, k, N, X, rfl, st, nf, hkB, hsB⟩
    · have hne : (storeC t.p wl (al.map ActD.p) != 0) = true := by simpa using hc0
      generalize storeC t.p wl (al.map ActD.p) = C at *
      clear hc0 hb5
      go_wp2
      go_ret
      exact ⟨rfl, bl_alloc HB5.out⟩
    obtain ⟨W6, e6⟩ : ∃ W6, W6 = w5.alloc (.cells #[.int .i64 0, .int .i64 0] 34) := ⟨_, rfl⟩
    have b56 : Below w5.heap.size w5 W6 := by rw [e6]; exact bl_alloc (Below.refl _ _)
    have HL0 : Hid (StL W6 (tb + 1) s k wl (sayL al t.al) W6) := ⟨FSt.none, (t.dflt, t.zs), N, X, st.step b56, fun hk2 => by
      have h1 := (store_ok hc0).2.2.2.2.1
      have h2 := (nf.wd (by rw [← nf.kind]; exact hk2)).2
      show ((0 : Nat) : Int) ≤ k.most
      have h3 : t.p.cap = t.cap := rfl
      omega, Below.refl _ _⟩
    have HX : Hid (tb + 1 ≤ k.B ∧ tb + 1 ≤ s ∧ tb + 1 ≤ W6.heap.size ∧ w.heap.size ≤ tb ∧ tb < w4.heap.size) := ⟨by have := HT3.out.2; omega, by have := HT3.out.2; omega, by have := HT3.out.2; have := hb5.size; have := b56.size; omega, HT3.out.1, HT3.out.2⟩
    have HNF := hid nf
    have HCP : Hid (0 ≤ t.cap) := (store_ok hc0).2.2.2.2.1
    have HC6 : Hid (W6.cell? ⟨tb, 3, none⟩ = some (.int .i64 t.cap)) := cell_keep (HC3.out 3 _ rfl) (bl_step hb5 b56)
    have HB6 := hid (bl_step HB5.out b56)
    have E6 := hid e6
    have HKK := hid st.face.kinds
    clear st nf hkB hsB hc0 hb5 b56 e6 HB5 HC3 HT3 HG HB3
    dsimp only
    go_upto_region 8 with fail
    rw [← E6.out]
    clear E6
    rcases HKK.out with hk | hk | hk
    · have HK := hid hk
      clear HKK hk
      haveI inhB : ∀ w : World, Inhabited (BelowBy w) := fun w => ⟨⟨w, Below.refl _ _⟩⟩
      go_wp2
      go_loopw [11] (fun q wr => ∃ i : Nat, i ≤ n ∧ q = .int .i64 i ∧ Hid (StL W6 (tb + 1) s k wl (sayL al t.al) wr)) (fun q _ => n - (intOf q).toNat)
      case atStart => exact ⟨0, Nat.zero_le _, rfl, HL0.out⟩
      case round =>
        obtain ⟨i, hi, rfl, hst⟩ := hrel
        obtain ⟨f, h, N1, X1, st, hes, hbk⟩ := hst.out
        have HBW : Hid (Below w.heap.size w wr) := HB6.out.trans (hbk.mono (by have := HX.out.2.2.2.1; omega))
        by_cases hlt : i < n
        · have hd : S[i]? = some (S[i]'(by have := HS.out.1; omega)) := List.getElem?_eq_getElem _
          have hsmall := HSM.out _ (List.mem_of_getElem? hd)
          obtain ⟨g, off, rfl, hat, hok⟩ := (HS.out.step HBW.out).2 i _ hd
          generalize S[i]'(by have := HS.out.1; omega) = d at *
          have HAT := hid hat
          have HOK := hid (hok.good hsmall)
          have hki : (i : Int) < (n : Int) := by omega
          have c0 := st.c0
          rw [faceV1 HK.out] at c0
          have hmt := fun w' => meth1All k.p w'
          have HALL := hid (face1_all HK.out st.face)
          have HST := hid st
          have HES := hid hes
          have HBK := hid hbk
          clear hst st hes hbk hd hat hok hsmall
          go_wp2_with fail
          refine HALL.out.mono ?_
          rintro e w7 ⟨v, rfl, hall, hb7⟩
          have HSY := hid (ssays_any (HST.out.step hb7).says)
          clear HALL c0 hmt
          go_wp2_with fail
          refine HSY.out.mono ?_
          rintro e w8 ⟨a8, n8, c8, rfl, -, hsy, hb8⟩
          obtain ⟨W9, e9⟩ : ∃ W9, W9 = w8.alloc (.cells #[.int .i64 h.1, .slice a8 n8 c8] 45) := ⟨_, rfl⟩
          obtain ⟨xb, exb⟩ : ∃ b, b = w8.heap.size := ⟨_, rfl⟩
          have b89 : Below w8.heap.size w8 W9 := by rw [e9]; exact bl_alloc (Below.refl _ _)
          have b9 := bl_step (bl_step hb7 hb8) b89
          have HY : Hid (W9.cell? ⟨xb, 0, none⟩ = some (.int .i64 h.1) ∧ W9.cell? ⟨xb, 1, none⟩ = some (.slice a8 n8 c8)) := by rw [e9, exb]; exact ⟨(World.cell?_alloc_at _ _ _ _ rfl).trans rfl, (World.cell?_alloc_at _ _ _ _ rfl).trans rfl⟩
          have HST9 := hid (HST.out.step b9)
          have HAL9 := hid (hall.step (bl_step hb8 b89))
          have HSY9 := hid (hsy.moved (moved_below b89))
          have HGD := hid (HOK.out.step b9)
          have HB9K : Hid (Below (tb + 1) W6 W9) := HBK.out.trans (b9.mono (by have := HBK.out.size; have := HX.out.2.2.1; omega))
          obtain ⟨x0, x1, x2, x3, x4, x5, x6⟩ := HAT.out.moved (moved_below b9)
          have E9 := hid e9
          have EX := hid exb
          clear e9 exb b89 b9 hb7 hb8 hall hsy HSY HST HOK HAT HBK
          dsimp only
          go_upto_region 13 with fail
          rw [← E9.out, ← EX.out]
          clear E9 EX
          go_upto_block 2 with fail
          go_cut [14] from 40 to 121 (fun v14 wx => ∃ C : Int, v14 = .int .i64 C ∧ Hid (StM W9 (tb + 1) s k f wl (sayL al t.al) h C wx))
          case first =>
            by_cases d0 : d.doo = 0
            · have q0 : (d.doo == 0) = true := by simpa using d0
              clear d0
              have HAD := hid (st_add HST9.out HGD.out)
              go_wp2_with fail
              refine HAD.out.mono ?_
              rintro e wm ⟨rfl, stm, hbB, hcode⟩
              have MID : Hid (StM W9 (tb + 1) s k f wl (sayL al t.al) h (stAdd k f wl (sayL al t.al) d.te d.md.ln).1 wm) := ⟨_, h, N1, X1, stm, es_add HES.out, hbB.mono HX.out.1, fun hc => ⟨(hcode hc).1, rfl, (hcode hc).2⟩⟩
              clear stm hbB hcode HAD
              generalize (stAdd k f wl (sayL al t.al) d.te d.md.ln).1 = C at *
              dsimp only
              go_wp2_with fail
              go_meet
              exact ⟨C, rfl, MID.out⟩
            by_cases d1 : d.doo = 1
            · have q0 : (d.doo == 0) = false := by simpa using d0
              have q1 : (d.doo == 1) = true := by simpa using d1
              clear d0 d1
              have HAD := hid (st_chg HST9.out HGD.out)
              go_wp2_with fail
              refine HAD.out.mono ?_
              rintro e wm ⟨rfl, stm, hbB, hcode⟩
              have MID : Hid (StM W9 (tb + 1) s k f wl (sayL al t.al) h (stChg k f wl (sayL al t.al) d.te d.md.ln).1 wm) := ⟨_, h, N1, X1, stm, es_chg HES.out, hbB.mono HX.out.1, fun hc => ⟨(hcode hc).1, rfl, (hcode hc).2⟩⟩
              clear stm hbB hcode HAD
              generalize (stChg k f wl (sayL al t.al) d.te d.md.ln).1 = C at *
              dsimp only
              go_wp2_with fail
              go_meet
              exact ⟨C, rfl, MID.out⟩
            by_cases d2 : d.doo = 2
            · have q0 : (d.doo == 0) = false := by simpa using d0
              have q1 : (d.doo == 1) = false := by simpa using d1
              have q2 : (d.doo == 2) = true := by simpa using d2
              clear d0 d1 d2
              have HAD := hid (st_drop HST9.out HGD.out)
              go_wp2_with fail
              refine HAD.out.mono ?_
              rintro e wm ⟨rfl, stm, hbB, hcode⟩
              have MID : Hid (StM W9 (tb + 1) s k f wl (sayL al t.al) h (stDrop k f wl d.te d.md.ln).1 wm) := ⟨_, h, N1, X1, stm, es_drop HES.out, hbB.mono HX.out.1, fun hc => ⟨(hcode hc).1, rfl, (hcode hc).2⟩⟩
              clear stm hbB hcode HAD
              generalize (stDrop k f wl d.te d.md.ln).1 = C at *
              dsimp only
              go_wp2_with fail
              go_meet
              exact ⟨C, rfl, MID.out⟩
            by_cases d3 : d.doo = 3
            · have q0 : (d.doo == 0) = false := by simpa using d0
              have q1 : (d.doo == 1) = false := by simpa using d1
              have q2 : (d.doo == 2) = false := by simpa using d2
              have q3 : (d.doo == 3) = true := by simpa using d3
              clear d0 d1 d2 d3
              have HHO := hid (hitOf_any d.ka d.ma d.a d.kn d.kc d.mn d.mc d.n d.c d.ln d.pr d.ac W9)
              go_wp2_with fail
              refine HHO.out.mono ?_
              rintro e wh ⟨rfl, hbh⟩
              have HAD := hid (st_default (HST9.out.step hbh) (h' := (d.ac, d.xs)) ⟨d.a, d.n, d.c, rfl, HGD.out.n0, HGD.out.xs3, HGD.out.xs.step hbh⟩)
              have HBH := hid hbh
              clear HHO hbh
              go_wp2_with fail
              refine HAD.out.mono ?_
              rintro e wm ⟨rfl, hbad, hgood⟩
              have MID : Hid (StM W9 (tb + 1) s k f wl (sayL al t.al) h (hitC (sayL al t.al) d.ac d.xs) wm) := by
                by_cases hc : hitC (sayL al t.al) d.ac d.xs = 0
                · obtain ⟨⟨N', X', stm⟩, hbB⟩ := hgood hc
                  exact ⟨f, (d.ac, d.xs), N', X', stm, HES.out, (HBH.out.mono (by have := HB9K.out.size; have := HX.out.2.2.1; omega)).trans (hbB (tb + 1) HX.out.2.1 (by have := HB9K.out.size; have := HX.out.2.2.1; have := HBH.out.size; omega)), fun h => absurd hc h⟩
                · obtain ⟨stm, hbB⟩ := hbad hc
                  have := bl_step HBH.out hbB
                  exact ⟨f, h, N1, X1, stm, HES.out, this.mono (by have := HB9K.out.size; have := HX.out.2.2.1; omega), fun _ => ⟨rfl, rfl, this⟩⟩
              clear hbad hgood HAD HBH
              dsimp only
              generalize hitC (sayL al t.al) d.ac d.xs = C at *
              go_wp2_with fail
              go_meet
              exact ⟨C, rfl, MID.out⟩
            · have q0 : (d.doo == 0) = false := by simpa using d0
              have q1 : (d.doo == 1) = false := by simpa using d1
              have q2 : (d.doo == 2) = false := by simpa using d2
              have q3 : (d.doo == 3) = false := by simpa using d3
              go_wp2_with fail
              go_meet
              exact ⟨0, rfl, ⟨f, h, N1, X1, HST9.out, HES.out, Below.refl _ _, fun h => absurd rfl h⟩⟩
          case rest =>
            obtain ⟨C, rfl, MID⟩ := hcut
            clear x0 x1 x2 x3 x4 x5 x6
            obtain ⟨f2, h2, N2, X2, st2, hes2, hb2, hcd⟩ := MID.out
            clear MID
            by_cases hC : C = 0
            · subst hC
              have ST2 := hid st2
              have ES2 := hid hes2
              have B2 := hid hb2
              clear st2 hes2 hb2 hcd
              go_upto_region 22 with fail
              refine wp_region_quiet_below (by kernel_rfl) (by kernel_rfl) ?_
              repeat (go_big_quiet_step (fail))
              refine wpQuiet_nil ?_
              intro wz hw'
              obtain ⟨⟨_, hwz⟩, hw''⟩ := hw'
              subst hw''
              have st24 := ST2.out.step hwz
              have hes24 := ES2.out
              have HX24 : Hid (Below (tb + 1) W6 wz) := (HB9K.out.trans B2.out).trans (hwz.mono (by have := HB9K.out.size; have := B2.out.size; have := HX.out.2.2.1; omega))
              clear hwz ST2 ES2 B2
              have HL24 := hid (fun q : BelowBy wz => face1_len HK.out (st24.face.step q.h))
              have HLN : Hid (∀ q : BelowBy wz, Calls Tryz.prog 62 #[.pointer (some ⟨k.p, 0, none⟩)] q.to fun r w' => r = .returned (.int .i64 (faceLen k f2 : Int)) ∧ Below q.to.heap.size q.to w') := fun q => (HL24.out q).mono fun r w' hq => ⟨hq.1, by rw [hq.2]; exact Below.refl _ _⟩
              have hcap := cap_of st24.face HNF.out hes24 HCP.out
              have c0 := st24.c0
              rw [faceV1 HK.out] at c0
              have c3 := ((HX24.out.cell (p := ⟨tb, 3, none⟩) (by show tb < tb + 1; omega)).trans HC6.out)
              have c0' := cell_by c0
              have c3' := cell_by c3
              have hsl : s < wz.heap.size := World.block_lt_of_cell? _ _ c0
              have htl : tb < wz.heap.size := World.block_lt_of_cell? _ _ c3
              have hmt := fun w' => meth1Len k.p w'
              have HST := hid st24
              have HES2 := hid hes24
              clear st24 hes24 HL24 c0 c3
              generalize (faceLen k f2 : Int) = L at *
              have hnl : ¬ t.cap < L := by omega
              clear hcap
              go_upto_region 24 with fail
              refine wp_region_quiet_below (by kernel_rfl) (by kernel_rfl) ?_
              repeat (go_big_quiet_step (first | (go_at_call 62; exact calls_below _ (HLN.out _))))
              refine wpQuiet_nil ?_
              intro wy hw'
              obtain ⟨⟨_, hwy⟩, hw''⟩ := hw'
              subst hw''
              have HNX : Hid (StL W6 (tb + 1) s k wl (sayL al t.al) wy) := ⟨f2, h2, N2, X2, HST.out.step hwy, HES2.out, HX24.out.trans (hwy.mono (by have := HX24.out.size; have := HX.out.2.2.1; omega))⟩
              clear hwy HST HES2 HX24 HLN c0' c3' hmt hsl htl
              go_wp2
              go_roundw
              case rel => exact ⟨i + 1, by omega, by go_num, HNX.out⟩
              case measure => simp [intOf]; omega
            · obtain ⟨rfl, rfl, hbb⟩ := hcd hC
              have hcn : (C != 0) = true := by simpa using hC
              have ST2 := hid st2
              have ES2 := hid hes2
              have B2 := hid hb2
              have AL2 := hid (HAL9.out.step hbb)
              have SY2 := hid (HSY9.out.moved (moved_below hbb))
              have y0 := cell_keep HY.out.1 hbb
              have y1 := cell_keep HY.out.2 hbb
              have c0 := st2.c0
              rw [faceV1 HK.out] at c0
              have hmt := fun w' => meth1All k.p w'
              have HALL : Hid (∀ w', Below wc.heap.size wc w' → Calls Tryz.prog 58 #[.pointer (some ⟨k.p, 0, none⟩)] w' fun r w'' => ∃ v, r = .returned v ∧ AllIs w'' k f2 v ∧ Below w'.heap.size w' w'') := fun w' hb => face1_all HK.out (ST2.out.face.step hb)
              have HSE : Hid (∀ w' u, Below wc.heap.size wc w' → AllIs w' k f2 u → Calls Tryz.prog 15 #[u, v] w' fun e w'' => e = .returned (.bool true) ∧ Below w'.heap.size w' w'') := fun w' u hb hu => all_same (ST2.out.face.step hb) hu (AL2.out.step hb)
              have HSY : Hid (∀ w', Below wc.heap.size wc w' → Calls Tryz.prog 9 #[.pointer (some ⟨s, 0, none⟩)] w' fun q w'' => SaysDone w' w'' h2 q) := fun w' hb => ssays_any (ST2.out.step hb).says
              have HSH : Hid (∀ w' u, Below wc.heap.size wc w' → Says w' u h2 → Calls Tryz.prog 16 #[u, .agg #[.int .i64 h2.1, .slice a8 n8 c8]] w' fun e w'' => e = .returned (.bool true) ∧ Below w'.heap.size w' w'') := fun w' u hb hu => same_hit hu (SY2.out.moved (moved_below hb))
              have HBD : Hid (Below wc.heap.size wc wc.drew) := (Below.refl _ _).drew
              have hxl : xb < wc.heap.size := World.block_lt_of_cell? _ _ y0
              have hsl0 : s < wc.heap.size := World.block_lt_of_cell? _ _ c0
              clear st2 hes2 hb2 hcd hbb hC
              go_upto_region 22 with fail
              go_region_held3 (fun w' => w'.cell? ⟨s, 0, none⟩ = some (.iface 81 (boxV k.p)) ∧ w'.cell? ⟨xb, 0, none⟩ = some (.int .i64 h2.1) ∧ w'.cell? ⟨xb, 1, none⟩ = some (.slice a8 n8 c8))
                (first
                  | (go_split_ands
                     first
                       | exact ⟨by assumption, by assumption, by assumption⟩
                       | exact ⟨cell_keep (by assumption) hbd, cell_keep (by assumption) hbd, cell_keep (by assumption) hbd⟩
                       | exact ⟨cell_keep (by assumption) hbc, cell_keep (by assumption) hbc, cell_keep (by assumption) hbc⟩
                       | exact ⟨cell_keep (by assumption) hbb2, cell_keep (by assumption) hbb2, cell_keep (by assumption) hbb2⟩
                       | exact ⟨cell_keep (by assumption) hba, cell_keep (by assumption) hba, cell_keep (by assumption) hba⟩)
                  | go_keep)
                (first
                  | (go_at_call 58; refine (HALL.out _ HBD.out).mono ?_; rintro e wa ⟨va, rfl, hva, hba⟩; have BA := hid (bl_step HBD.out hba); have HVA := hid hva)
                  | (go_at_call 15; refine (HSE.out _ _ BA.out HVA.out).mono ?_; rintro e wb ⟨rfl, hbb2⟩; have BB := hid (bl_step BA.out hbb2))
                  | (go_at_call 9; refine (HSY.out _ BB.out).mono ?_; rintro e wsy ⟨sa, sn, sc, rfl, -, hvs, hbc⟩; have BC := hid (bl_step BB.out hbc); have HVS := hid hvs)
                  | (go_at_call 16; refine (HSH.out _ _ BC.out HVS.out).mono ?_; rintro e wd ⟨rfl, hbd⟩; have BD := hid (bl_step BC.out hbd)))
              all_goals
                have st24 := ST2.out.step BD.out
                have hes24 := ES2.out
                have HX24 : Hid (Below (tb + 1) W6 wd) := (HB9K.out.trans B2.out).trans (BD.out.mono (by have := HB9K.out.size; have := B2.out.size; have := HX.out.2.2.1; omega))
                clear ST2 ES2 B2 BA BB BC BD HVA HVS HALL HSE HSY HSH HBD AL2 SY2 hmt
                clear c0 y0 y1 hxl hsl0
                have HL24 := hid (fun q : BelowBy wd => face1_len HK.out (st24.face.step q.h))
                have HLN : Hid (∀ q : BelowBy wd, Calls Tryz.prog 62 #[.pointer (some ⟨k.p, 0, none⟩)] q.to fun r w' => r = .returned (.int .i64 (faceLen k f2 : Int)) ∧ Below q.to.heap.size q.to w') := fun q => (HL24.out q).mono fun r w' hq => ⟨hq.1, by rw [hq.2]; exact Below.refl _ _⟩
                have hcap := cap_of st24.face HNF.out hes24 HCP.out
                have c0 := st24.c0
                rw [faceV1 HK.out] at c0
                have c3 := ((HX24.out.cell (p := ⟨tb, 3, none⟩) (by show tb < tb + 1; omega)).trans HC6.out)
                have c0' := cell_by c0
                have c3' := cell_by c3
                have hsl : s < wd.heap.size := World.block_lt_of_cell? _ _ c0
                have htl : tb < wd.heap.size := World.block_lt_of_cell? _ _ c3
                have hmt := fun w' => meth1Len k.p w'
                have HST := hid st24
                have HES2 := hid hes24
                clear st24 hes24 HL24 c0 c3
                generalize (faceLen k f2 : Int) = L at *
                have hnl : ¬ t.cap < L := by omega
                clear hcap
                go_upto_region 24 with fail
                refine wp_region_quiet_below (by kernel_rfl) (by kernel_rfl) ?_
                repeat (go_big_quiet_step (first | (go_at_call 62; exact calls_below _ (HLN.out _))))
                refine wpQuiet_nil ?_
                intro wy hw'
                obtain ⟨⟨_, hwy⟩, hw''⟩ := hw'
                subst hw''
                have HNX : Hid (StL W6 (tb + 1) s k wl (sayL al t.al) wy) := ⟨f2, h2, N2, X2, HST.out.step hwy, HES2.out, HX24.out.trans (hwy.mono (by have := HX24.out.size; have := HX.out.2.2.1; omega))⟩
                clear hwy HST HES2 HX24 HLN c0' c3' hmt hsl htl
                go_wp2
                go_roundw
                case rel => exact ⟨i + 1, by omega, by go_num, HNX.out⟩
                case measure => simp [intOf]; omega
        · have hki : ¬ (i : Int) < (n : Int) := by omega
          clear hst st hes hbk
          go_wp2
          go_ret
          exact ⟨rfl, HBW.out⟩
    · have HK := hid hk
      clear HKK hk
      haveI inhB : ∀ w : World, Inhabited (BelowBy w) := fun w => ⟨⟨w, Below.refl _ _⟩⟩
      go_wp2
      go_loopw [11] (fun q wr => ∃ i : Nat, i ≤ n ∧ q = .int .i64 i ∧ Hid (StL W6 (tb + 1) s k wl (sayL al t.al) wr)) (fun q _ => n - (intOf q).toNat)
      case atStart => exact ⟨0, Nat.zero_le _, rfl, HL0.out⟩
      case round =>
        obtain ⟨i, hi, rfl, hst⟩ := hrel
        obtain ⟨f, h, N1, X1, st, hes, hbk⟩ := hst.out
        have HBW : Hid (Below w.heap.size w wr) := HB6.out.trans (hbk.mono (by have := HX.out.2.2.2.1; omega))
        by_cases hlt : i < n
        · have hd : S[i]? = some (S[i]'(by have := HS.out.1; omega)) := List.getElem?_eq_getElem _
          have hsmall := HSM.out _ (List.mem_of_getElem? hd)
          obtain ⟨g, off, rfl, hat, hok⟩ := (HS.out.step HBW.out).2 i _ hd
          generalize S[i]'(by have := HS.out.1; omega) = d at *
          have HAT := hid hat
          have HOK := hid (hok.good hsmall)
          have hki : (i : Int) < (n : Int) := by omega
          have c0 := st.c0
          rw [faceV2 HK.out] at c0
          have hmt := fun w' => meth2All k.p w'
          have HALL := hid (face2_all HK.out st.face)
          have HST := hid st
          have HES := hid hes
          have HBK := hid hbk
          clear hst st hes hbk hd hat hok hsmall
          go_wp2_with fail
          refine HALL.out.mono ?_
          rintro e w7 ⟨v, rfl, hall, hb7⟩
          have HSY := hid (ssays_any (HST.out.step hb7).says)
          clear HALL c0 hmt
          go_wp2_with fail
          refine HSY.out.mono ?_
          rintro e w8 ⟨a8, n8, c8, rfl, -, hsy, hb8⟩
          obtain ⟨W9, e9⟩ : ∃ W9, W9 = w8.alloc (.cells #[.int .i64 h.1, .slice a8 n8 c8] 45) := ⟨_, rfl⟩
          obtain ⟨xb, exb⟩ : ∃ b, b = w8.heap.size := ⟨_, rfl⟩
          have b89 : Below w8.heap.size w8 W9 := by rw [e9]; exact bl_alloc (Below.refl _ _)
          have b9 := bl_step (bl_step hb7 hb8) b89
          have HY : Hid (W9.cell? ⟨xb, 0, none⟩ = some (.int .i64 h.1) ∧ W9.cell? ⟨xb, 1, none⟩ = some (.slice a8 n8 c8)) := by rw [e9, exb]; exact ⟨(World.cell?_alloc_at _ _ _ _ rfl).trans rfl, (World.cell?_alloc_at _ _ _ _ rfl).trans rfl⟩
          have HST9 := hid (HST.out.step b9)
          have HAL9 := hid (hall.step (bl_step hb8 b89))
          have HSY9 := hid (hsy.moved (moved_below b89))
          have HGD := hid (HOK.out.step b9)
          have HB9K : Hid (Below (tb + 1) W6 W9) := HBK.out.trans (b9.mono (by have := HBK.out.size; have := HX.out.2.2.1; omega))
          obtain ⟨x0, x1, x2, x3, x4, x5, x6⟩ := HAT.out.moved (moved_below b9)
          have E9 := hid e9
          have EX := hid exb
          clear e9 exb b89 b9 hb7 hb8 hall hsy HSY HST HOK HAT HBK
          dsimp only
          go_upto_region 13 with fail
          rw [← E9.out, ← EX.out]
          clear E9 EX
          go_upto_block 2 with fail
          go_cut [14] from 40 to 121 (fun v14 wx => ∃ C : Int, v14 = .int .i64 C ∧ Hid (StM W9 (tb + 1) s k f wl (sayL al t.al) h C wx))
          case first =>
            by_cases d0 : d.doo = 0
            · have q0 : (d.doo == 0) = true := by simpa using d0
              clear d0
              have HAD := hid (st_add HST9.out HGD.out)
              go_wp2_with fail
              refine HAD.out.mono ?_
              rintro e wm ⟨rfl, stm, hbB, hcode⟩
              have MID : Hid (StM W9 (tb + 1) s k f wl (sayL al t.al) h (stAdd k f wl (sayL al t.al) d.te d.md.ln).1 wm) := ⟨_, h, N1, X1, stm, es_add HES.out, hbB.mono HX.out.1, fun hc => ⟨(hcode hc).1, rfl, (hcode hc).2⟩⟩
              clear stm hbB hcode HAD
              generalize (stAdd k f wl (sayL al t.al) d.te d.md.ln).1 = C at *
              dsimp only
              go_wp2_with fail
              go_meet
              exact ⟨C, rfl, MID.out⟩
            by_cases d1 : d.doo = 1
            · have q0 : (d.doo == 0) = false := by simpa using d0
              have q1 : (d.doo == 1) = true := by simpa using d1
              clear d0 d1
              have HAD := hid (st_chg HST9.out HGD.out)
              go_wp2_with fail
              refine HAD.out.mono ?_
              rintro e wm ⟨rfl, stm, hbB, hcode⟩
              have MID : Hid (StM W9 (tb + 1) s k f wl (sayL al t.al) h (stChg k f wl (sayL al t.al) d.te d.md.ln).1 wm) := ⟨_, h, N1, X1, stm, es_chg HES.out, hbB.mono HX.out.1, fun hc => ⟨(hcode hc).1, rfl, (hcode hc).2⟩⟩
              clear stm hbB hcode HAD
              generalize (stChg k f wl (sayL al t.al) d.te d.md.ln).1 = C at *
              dsimp only
              go_wp2_with fail
              go_meet
              exact ⟨C, rfl, MID.out⟩
            by_cases d2 : d.doo = 2
            · have q0 : (d.doo == 0) = false := by simpa using d0
              have q1 : (d.doo == 1) = false := by simpa using d1
              have q2 : (d.doo == 2) = true := by simpa using d2
              clear d0 d1 d2
              have HAD := hid (st_drop HST9.out HGD.out)
              go_wp2_with fail
              refine HAD.out.mono ?_
              rintro e wm ⟨rfl, stm, hbB, hcode⟩
              have MID : Hid (StM W9 (tb + 1) s k f wl (sayL al t.al) h (stDrop k f wl d.te d.md.ln).1 wm) := ⟨_, h, N1, X1, stm, es_drop HES.out, hbB.mono HX.out.1, fun hc => ⟨(hcode hc).1, rfl, (hcode hc).2⟩⟩
              clear stm hbB hcode HAD
              generalize (stDrop k f wl d.te d.md.ln).1 = C at *
              dsimp only
              go_wp2_with fail
              go_meet
              exact ⟨C, rfl, MID.out⟩
            by_cases d3 : d.doo = 3
            · have q0 : (d.doo == 0) = false := by simpa using d0
              have q1 : (d.doo == 1) = false := by simpa using d1
              have q2 : (d.doo == 2) = false := by simpa using d2
              have q3 : (d.doo == 3) = true := by simpa using d3
              clear d0 d1 d2 d3
              have HHO := hid (hitOf_any d.ka d.ma d.a d.kn d.kc d.mn d.mc d.n d.c d.ln d.pr d.ac W9)
              go_wp2_with fail
              refine HHO.out.mono ?_
              rintro e wh ⟨rfl, hbh⟩
              have HAD := hid (st_default (HST9.out.step hbh) (h' := (d.ac, d.xs)) ⟨d.a, d.n, d.c, rfl, HGD.out.n0, HGD.out.xs3, HGD.out.xs.step hbh⟩)
              have HBH := hid hbh
              clear HHO hbh
              go_wp2_with fail
              refine HAD.out.mono ?_
              rintro e wm ⟨rfl, hbad, hgood⟩
              have MID : Hid (StM W9 (tb + 1) s k f wl (sayL al t.al) h (hitC (sayL al t.al) d.ac d.xs) wm) := by
                by_cases hc : hitC (sayL al t.al) d.ac d.xs = 0
                · obtain ⟨⟨N', X', stm⟩, hbB⟩ := hgood hc
                  exact ⟨f, (d.ac, d.xs), N', X', stm, HES.out, (HBH.out.mono (by have := HB9K.out.size; have := HX.out.2.2.1; omega)).trans (hbB (tb + 1) HX.out.2.1 (by have := HB9K.out.size; have := HX.out.2.2.1; have := HBH.out.size; omega)), fun h => absurd hc h⟩
                · obtain ⟨stm, hbB⟩ := hbad hc
                  have := bl_step HBH.out hbB
                  exact ⟨f, h, N1, X1, stm, HES.out, this.mono (by have := HB9K.out.size; have := HX.out.2.2.1; omega), fun _ => ⟨rfl, rfl, this⟩⟩
              clear hbad hgood HAD HBH
              dsimp only
              generalize hitC (sayL al t.al) d.ac d.xs = C at *
              go_wp2_with fail
              go_meet
              exact ⟨C, rfl, MID.out⟩
            · have q0 : (d.doo == 0) = false := by simpa using d0
              have q1 : (d.doo == 1) = false := by simpa using d1
              have q2 : (d.doo == 2) = false := by simpa using d2
              have q3 : (d.doo == 3) = false := by simpa using d3
              go_wp2_with fail
              go_meet
              exact ⟨0, rfl, ⟨f, h, N1, X1, HST9.out, HES.out, Below.refl _ _, fun h => absurd rfl h⟩⟩
          case rest =>
            obtain ⟨C, rfl, MID⟩ := hcut
            clear x0 x1 x2 x3 x4 x5 x6
            obtain ⟨f2, h2, N2, X2, st2, hes2, hb2, hcd⟩ := MID.out
            clear MID
            by_cases hC : C = 0
            · subst hC
              have ST2 := hid st2
              have ES2 := hid hes2
              have B2 := hid hb2
              clear st2 hes2 hb2 hcd
              go_upto_region 22 with fail
              refine wp_region_quiet_below (by kernel_rfl) (by kernel_rfl) ?_
              repeat (go_big_quiet_step (fail))
              refine wpQuiet_nil ?_
              intro wz hw'
              obtain ⟨⟨_, hwz⟩, hw''⟩ := hw'
              subst hw''
              have st24 := ST2.out.step hwz
              have hes24 := ES2.out
              have HX24 : Hid (Below (tb + 1) W6 wz) := (HB9K.out.trans B2.out).trans (hwz.mono (by have := HB9K.out.size; have := B2.out.size; have := HX.out.2.2.1; omega))
              clear hwz ST2 ES2 B2
              have HL24 := hid (fun q : BelowBy wz => face2_len HK.out (st24.face.step q.h))
              have HLN : Hid (∀ q : BelowBy wz, Calls Tryz.prog 103 #[.pointer (some ⟨k.p, 0, none⟩)] q.to fun r w' => r = .returned (.int .i64 (faceLen k f2 : Int)) ∧ Below q.to.heap.size q.to w') := fun q => (HL24.out q).mono fun r w' hq => ⟨hq.1, by rw [hq.2]; exact Below.refl _ _⟩
              have hcap := cap_of st24.face HNF.out hes24 HCP.out
              have c0 := st24.c0
              rw [faceV2 HK.out] at c0
              have c3 := ((HX24.out.cell (p := ⟨tb, 3, none⟩) (by show tb < tb + 1; omega)).trans HC6.out)
              have c0' := cell_by c0
              have c3' := cell_by c3
              have hsl : s < wz.heap.size := World.block_lt_of_cell? _ _ c0
              have htl : tb < wz.heap.size := World.block_lt_of_cell? _ _ c3
              have hmt := fun w' => meth2Len k.p w'
              have HST := hid st24
              have HES2 := hid hes24
              clear st24 hes24 HL24 c0 c3
              generalize (faceLen k f2 : Int) = L at *
              have hnl : ¬ t.cap < L := by omega
              clear hcap
              go_upto_region 24 with fail
              refine wp_region_quiet_below (by kernel_rfl) (by kernel_rfl) ?_
              repeat (go_big_quiet_step (first | (go_at_call 103; exact calls_below _ (HLN.out _))))
              refine wpQuiet_nil ?_
              intro wy hw'
              obtain ⟨⟨_, hwy⟩, hw''⟩ := hw'
              subst hw''
              have HNX : Hid (StL W6 (tb + 1) s k wl (sayL al t.al) wy) := ⟨f2, h2, N2, X2, HST.out.step hwy, HES2.out, HX24.out.trans (hwy.mono (by have := HX24.out.size; have := HX.out.2.2.1; omega))⟩
              clear hwy HST HES2 HX24 HLN c0' c3' hmt hsl htl
              go_wp2
              go_roundw
              case rel => exact ⟨i + 1, by omega, by go_num, HNX.out⟩
              case measure => simp [intOf]; omega
            · obtain ⟨rfl, rfl, hbb⟩ := hcd hC
              have hcn : (C != 0) = true := by simpa using hC
              have ST2 := hid st2
              have ES2 := hid hes2
              have B2 := hid hb2
              have AL2 := hid (HAL9.out.step hbb)
              have SY2 := hid (HSY9.out.moved (moved_below hbb))
              have y0 := cell_keep HY.out.1 hbb
              have y1 := cell_keep HY.out.2 hbb
              have c0 := st2.c0
              rw [faceV2 HK.out] at c0
              have hmt := fun w' => meth2All k.p w'
              have HALL : Hid (∀ w', Below wc.heap.size wc w' → Calls Tryz.prog 99 #[.pointer (some ⟨k.p, 0, none⟩)] w' fun r w'' => ∃ v, r = .returned v ∧ AllIs w'' k f2 v ∧ Below w'.heap.size w' w'') := fun w' hb => face2_all HK.out (ST2.out.face.step hb)
              have HSE : Hid (∀ w' u, Below wc.heap.size wc w' → AllIs w' k f2 u → Calls Tryz.prog 15 #[u, v] w' fun e w'' => e = .returned (.bool true) ∧ Below w'.heap.size w' w'') := fun w' u hb hu => all_same (ST2.out.face.step hb) hu (AL2.out.step hb)
              have HSY : Hid (∀ w', Below wc.heap.size wc w' → Calls Tryz.prog 9 #[.pointer (some ⟨s, 0, none⟩)] w' fun q w'' => SaysDone w' w'' h2 q) := fun w' hb => ssays_any (ST2.out.step hb).says
              have HSH : Hid (∀ w' u, Below wc.heap.size wc w' → Says w' u h2 → Calls Tryz.prog 16 #[u, .agg #[.int .i64 h2.1, .slice a8 n8 c8]] w' fun e w'' => e = .returned (.bool true) ∧ Below w'.heap.size w' w'') := fun w' u hb hu => same_hit hu (SY2.out.moved (moved_below hb))
              have HBD : Hid (Below wc.heap.size wc wc.drew) := (Below.refl _ _).drew
              have hxl : xb < wc.heap.size := World.block_lt_of_cell? _ _ y0
              have hsl0 : s < wc.heap.size := World.block_lt_of_cell? _ _ c0
              clear st2 hes2 hb2 hcd hbb hC
              go_upto_region 22 with fail
              go_region_held3 (fun w' => w'.cell? ⟨s, 0, none⟩ = some (.iface 85 (boxV k.p)) ∧ w'.cell? ⟨xb, 0, none⟩ = some (.int .i64 h2.1) ∧ w'.cell? ⟨xb, 1, none⟩ = some (.slice a8 n8 c8))
                (first
                  | (go_split_ands
                     first
                       | exact ⟨by assumption, by assumption, by assumption⟩
                       | exact ⟨cell_keep (by assumption) hbd, cell_keep (by assumption) hbd, cell_keep (by assumption) hbd⟩
                       | exact ⟨cell_keep (by assumption) hbc, cell_keep (by assumption) hbc, cell_keep (by assumption) hbc⟩
                       | exact ⟨cell_keep (by assumption) hbb2, cell_keep (by assumption) hbb2, cell_keep (by assumption) hbb2⟩
                       | exact ⟨cell_keep (by assumption) hba, cell_keep (by assumption) hba, cell_keep (by assumption) hba⟩)
                  | go_keep)
                (first
                  | (go_at_call 99; refine (HALL.out _ HBD.out).mono ?_; rintro e wa ⟨va, rfl, hva, hba⟩; have BA := hid (bl_step HBD.out hba); have HVA := hid hva)
                  | (go_at_call 15; refine (HSE.out _ _ BA.out HVA.out).mono ?_; rintro e wb ⟨rfl, hbb2⟩; have BB := hid (bl_step BA.out hbb2))
                  | (go_at_call 9; refine (HSY.out _ BB.out).mono ?_; rintro e wsy ⟨sa, sn, sc, rfl, -, hvs, hbc⟩; have BC := hid (bl_step BB.out hbc); have HVS := hid hvs)
                  | (go_at_call 16; refine (HSH.out _ _ BC.out HVS.out).mono ?_; rintro e wd ⟨rfl, hbd⟩; have BD := hid (bl_step BC.out hbd)))
              all_goals
                have st24 := ST2.out.step BD.out
                have hes24 := ES2.out
                have HX24 : Hid (Below (tb + 1) W6 wd) := (HB9K.out.trans B2.out).trans (BD.out.mono (by have := HB9K.out.size; have := B2.out.size; have := HX.out.2.2.1; omega))
                clear ST2 ES2 B2 BA BB BC BD HVA HVS HALL HSE HSY HSH HBD AL2 SY2 hmt
                clear c0 y0 y1 hxl hsl0
                have HL24 := hid (fun q : BelowBy wd => face2_len HK.out (st24.face.step q.h))
                have HLN : Hid (∀ q : BelowBy wd, Calls Tryz.prog 103 #[.pointer (some ⟨k.p, 0, none⟩)] q.to fun r w' => r = .returned (.int .i64 (faceLen k f2 : Int)) ∧ Below q.to.heap.size q.to w') := fun q => (HL24.out q).mono fun r w' hq => ⟨hq.1, by rw [hq.2]; exact Below.refl _ _⟩
                have hcap := cap_of st24.face HNF.out hes24 HCP.out
                have c0 := st24.c0
                rw [faceV2 HK.out] at c0
                have c3 := ((HX24.out.cell (p := ⟨tb, 3, none⟩) (by show tb < tb + 1; omega)).trans HC6.out)
                have c0' := cell_by c0
                have c3' := cell_by c3
                have hsl : s < wd.heap.size := World.block_lt_of_cell? _ _ c0
                have htl : tb < wd.heap.size := World.block_lt_of_cell? _ _ c3
                have hmt := fun w' => meth2Len k.p w'
                have HST := hid st24
                have HES2 := hid hes24
                clear st24 hes24 HL24 c0 c3
                generalize (faceLen k f2 : Int) = L at *
                have hnl : ¬ t.cap < L := by omega
                clear hcap
                go_upto_region 24 with fail
                refine wp_region_quiet_below (by kernel_rfl) (by kernel_rfl) ?_
                repeat (go_big_quiet_step (first | (go_at_call 103; exact calls_below _ (HLN.out _))))
                refine wpQuiet_nil ?_
                intro wy hw'
                obtain ⟨⟨_, hwy⟩, hw''⟩ := hw'
                subst hw''
                have HNX : Hid (StL W6 (tb + 1) s k wl (sayL al t.al) wy) := ⟨f2, h2, N2, X2, HST.out.step hwy, HES2.out, HX24.out.trans (hwy.mono (by have := HX24.out.size; have := HX.out.2.2.1; omega))⟩
                clear hwy HST HES2 HX24 HLN c0' c3' hmt hsl htl
                go_wp2
                go_roundw
                case rel => exact ⟨i + 1, by omega, by go_num, HNX.out⟩
                case measure => simp [intOf]; omega
        · have hki : ¬ (i : Int) < (n : Int) := by omega
          clear hst st hes hbk
          go_wp2
          go_ret
          exact ⟨rfl, HBW.out⟩
    · have HK := hid hk
      clear HKK hk
      haveI inhB : ∀ w : World, Inhabited (BelowBy w) := fun w => ⟨⟨w, Below.refl _ _⟩⟩
      go_wp2
      go_loopw [11] (fun q wr => ∃ i : Nat, i ≤ n ∧ q = .int .i64 i ∧ Hid (StL W6 (tb + 1) s k wl (sayL al t.al) wr)) (fun q _ => n - (intOf q).toNat)
      case atStart => exact ⟨0, Nat.zero_le _, rfl, HL0.out⟩
      case round =>
        obtain ⟨i, hi, rfl, hst⟩ := hrel
        obtain ⟨f, h, N1, X1, st, hes, hbk⟩ := hst.out
        have HBW : Hid (Below w.heap.size w wr) := HB6.out.trans (hbk.mono (by have := HX.out.2.2.2.1; omega))
        by_cases hlt : i < n
        · have hd : S[i]? = some (S[i]'(by have := HS.out.1; omega)) := List.getElem?_eq_getElem _
          have hsmall := HSM.out _ (List.mem_of_getElem? hd)
          obtain ⟨g, off, rfl, hat, hok⟩ := (HS.out.step HBW.out).2 i _ hd
          generalize S[i]'(by have := HS.out.1; omega) = d at *
          have HAT := hid hat
          have HOK := hid (hok.good hsmall)
          have hki : (i : Int) < (n : Int) := by omega
          have c0 := st.c0
          rw [faceV3 HK.out] at c0
          have hmt := fun w' => meth3All k.p w'
          have HALL := hid (face3_all HK.out st.face)
          have HST := hid st
          have HES := hid hes
          have HBK := hid hbk
          clear hst st hes hbk hd hat hok hsmall
          go_wp2_with fail
          refine HALL.out.mono ?_
          rintro e w7 ⟨v, rfl, hall, hb7⟩
          have HSY := hid (ssays_any (HST.out.step hb7).says)
          clear HALL c0 hmt
          go_wp2_with fail
          refine HSY.out.mono ?_
          rintro e w8 ⟨a8, n8, c8, rfl, -, hsy, hb8⟩
          obtain ⟨W9, e9⟩ : ∃ W9, W9 = w8.alloc (.cells #[.int .i64 h.1, .slice a8 n8 c8] 45) := ⟨_, rfl⟩
          obtain ⟨xb, exb⟩ : ∃ b, b = w8.heap.size := ⟨_, rfl⟩
          have b89 : Below w8.heap.size w8 W9 := by rw [e9]; exact bl_alloc (Below.refl _ _)
          have b9 := bl_step (bl_step hb7 hb8) b89
          have HY : Hid (W9.cell? ⟨xb, 0, none⟩ = some (.int .i64 h.1) ∧ W9.cell? ⟨xb, 1, none⟩ = some (.slice a8 n8 c8)) := by rw [e9, exb]; exact ⟨(World.cell?_alloc_at _ _ _ _ rfl).trans rfl, (World.cell?_alloc_at _ _ _ _ rfl).trans rfl⟩
          have HST9 := hid (HST.out.step b9)
          have HAL9 := hid (hall.step (bl_step hb8 b89))
          have HSY9 := hid (hsy.moved (moved_below b89))
          have HGD := hid (HOK.out.step b9)
          have HB9K : Hid (Below (tb + 1) W6 W9) := HBK.out.trans (b9.mono (by have := HBK.out.size; have := HX.out.2.2.1; omega))
          obtain ⟨x0, x1, x2, x3, x4, x5, x6⟩ := HAT.out.moved (moved_below b9)
          have E9 := hid e9
          have EX := hid exb
          clear e9 exb b89 b9 hb7 hb8 hall hsy HSY HST HOK HAT HBK
          dsimp only
          go_upto_region 13 with fail
          rw [← E9.out, ← EX.out]
          clear E9 EX
          go_upto_block 2 with fail
          go_cut [14] from 40 to 121 (fun v14 wx => ∃ C : Int, v14 = .int .i64 C ∧ Hid (StM W9 (tb + 1) s k f wl (sayL al t.al) h C wx))
          case first =>
            by_cases d0 : d.doo = 0
            · have q0 : (d.doo == 0) = true := by simpa using d0
              clear d0
              have HAD := hid (st_add HST9.out HGD.out)
              go_wp2_with fail
              refine HAD.out.mono ?_
              rintro e wm ⟨rfl, stm, hbB, hcode⟩
              have MID : Hid (StM W9 (tb + 1) s k f wl (sayL al t.al) h (stAdd k f wl (sayL al t.al) d.te d.md.ln).1 wm) := ⟨_, h, N1, X1, stm, es_add HES.out, hbB.mono HX.out.1, fun hc => ⟨(hcode hc).1, rfl, (hcode hc).2⟩⟩
              clear stm hbB hcode HAD
              generalize (stAdd k f wl (sayL al t.al) d.te d.md.ln).1 = C at *
              dsimp only
              go_wp2_with fail
              go_meet
              exact ⟨C, rfl, MID.out⟩
            by_cases d1 : d.doo = 1
            · have q0 : (d.doo == 0) = false := by simpa using d0
              have q1 : (d.doo == 1) = true := by simpa using d1
              clear d0 d1
              have HAD := hid (st_chg HST9.out HGD.out)
              go_wp2_with fail
              refine HAD.out.mono ?_
              rintro e wm ⟨rfl, stm, hbB, hcode⟩
              have MID : Hid (StM W9 (tb + 1) s k f wl (sayL al t.al) h (stChg k f wl (sayL al t.al) d.te d.md.ln).1 wm) := ⟨_, h, N1, X1, stm, es_chg HES.out, hbB.mono HX.out.1, fun hc => ⟨(hcode hc).1, rfl, (hcode hc).2⟩⟩
              clear stm hbB hcode HAD
              generalize (stChg k f wl (sayL al t.al) d.te d.md.ln).1 = C at *
              dsimp only
              go_wp2_with fail
              go_meet
              exact ⟨C, rfl, MID.out⟩
            by_cases d2 : d.doo = 2
            · have q0 : (d.doo == 0) = false := by simpa using d0
              have q1 : (d.doo == 1) = false := by simpa using d1
              have q2 : (d.doo == 2) = true := by simpa using d2
              clear d0 d1 d2
              have HAD := hid (st_drop HST9.out HGD.out)
              go_wp2_with fail
              refine HAD.out.mono ?_
              rintro e wm ⟨rfl, stm, hbB, hcode⟩
              have MID : Hid (StM W9 (tb + 1) s k f wl (sayL al t.al) h (stDrop k f wl d.te d.md.ln).1 wm) := ⟨_, h, N1, X1, stm, es_drop HES.out, hbB.mono HX.out.1, fun hc => ⟨(hcode hc).1, rfl, (hcode hc).2⟩⟩
              clear stm hbB hcode HAD
              generalize (stDrop k f wl d.te d.md.ln).1 = C at *
              dsimp only
              go_wp2_with fail
              go_meet
              exact ⟨C, rfl, MID.out⟩
            by_cases d3 : d.doo = 3
            · have q0 : (d.doo == 0) = false := by simpa using d0
              have q1 : (d.doo == 1) = false := by simpa using d1
              have q2 : (d.doo == 2) = false := by simpa using d2
              have q3 : (d.doo == 3) = true := by simpa using d3
              clear d0 d1 d2 d3
              have HHO := hid (hitOf_any d.ka d.ma d.a d.kn d.kc d.mn d.mc d.n d.c d.ln d.pr d.ac W9)
              go_wp2_with fail
              refine HHO.out.mono ?_
              rintro e wh ⟨rfl, hbh⟩
              have HAD := hid (st_default (HST9.out.step hbh) (h' := (d.ac, d.xs)) ⟨d.a, d.n, d.c, rfl, HGD.out.n0, HGD.out.xs3, HGD.out.xs.step hbh⟩)
              have HBH := hid hbh
              clear HHO hbh
              go_wp2_with fail
              refine HAD.out.mono ?_
              rintro e wm ⟨rfl, hbad, hgood⟩
              have MID : Hid (StM W9 (tb + 1) s k f wl (sayL al t.al) h (hitC (sayL al t.al) d.ac d.xs) wm) := by
                by_cases hc : hitC (sayL al t.al) d.ac d.xs = 0
                · obtain ⟨⟨N', X', stm⟩, hbB⟩ := hgood hc
                  exact ⟨f, (d.ac, d.xs), N', X', stm, HES.out, (HBH.out.mono (by have := HB9K.out.size; have := HX.out.2.2.1; omega)).trans (hbB (tb + 1) HX.out.2.1 (by have := HB9K.out.size; have := HX.out.2.2.1; have := HBH.out.size; omega)), fun h => absurd hc h⟩
                · obtain ⟨stm, hbB⟩ := hbad hc
                  have := bl_step HBH.out hbB
                  exact ⟨f, h, N1, X1, stm, HES.out, this.mono (by have := HB9K.out.size; have := HX.out.2.2.1; omega), fun _ => ⟨rfl, rfl, this⟩⟩
              clear hbad hgood HAD HBH
              dsimp only
              generalize hitC (sayL al t.al) d.ac d.xs = C at *
              go_wp2_with fail
              go_meet
              exact ⟨C, rfl, MID.out⟩
            · have q0 : (d.doo == 0) = false := by simpa using d0
              have q1 : (d.doo == 1) = false := by simpa using d1
              have q2 : (d.doo == 2) = false := by simpa using d2
              have q3 : (d.doo == 3) = false := by simpa using d3
              go_wp2_with fail
              go_meet
              exact ⟨0, rfl, ⟨f, h, N1, X1, HST9.out, HES.out, Below.refl _ _, fun h => absurd rfl h⟩⟩
          case rest =>
            obtain ⟨C, rfl, MID⟩ := hcut
            clear x0 x1 x2 x3 x4 x5 x6
            obtain ⟨f2, h2, N2, X2, st2, hes2, hb2, hcd⟩ := MID.out
            clear MID
            by_cases hC : C = 0
            · subst hC
              have ST2 := hid st2
              have ES2 := hid hes2
              have B2 := hid hb2
              clear st2 hes2 hb2 hcd
              go_upto_region 22 with fail
              refine wp_region_quiet_below (by kernel_rfl) (by kernel_rfl) ?_
              repeat (go_big_quiet_step (fail))
              refine wpQuiet_nil ?_
              intro wz hw'
              obtain ⟨⟨_, hwz⟩, hw''⟩ := hw'
              subst hw''
              have st24 := ST2.out.step hwz
              have hes24 := ES2.out
              have HX24 : Hid (Below (tb + 1) W6 wz) := (HB9K.out.trans B2.out).trans (hwz.mono (by have := HB9K.out.size; have := B2.out.size; have := HX.out.2.2.1; omega))
              clear hwz ST2 ES2 B2
              have HL24 := hid (fun q : BelowBy wz => face3_len HK.out (st24.face.step q.h))
              have HLN : Hid (∀ q : BelowBy wz, Calls Tryz.prog 122 #[.pointer (some ⟨k.p, 0, none⟩)] q.to fun r w' => r = .returned (.int .i64 (faceLen k f2 : Int)) ∧ Below q.to.heap.size q.to w') := fun q => (HL24.out q).mono fun r w' hq => ⟨hq.1, by rw [hq.2]; exact Below.refl _ _⟩
              have hcap := cap_of st24.face HNF.out hes24 HCP.out
              have c0 := st24.c0
              rw [faceV3 HK.out] at c0
              have c3 := ((HX24.out.cell (p := ⟨tb, 3, none⟩) (by show tb < tb + 1; omega)).trans HC6.out)
              have c0' := cell_by c0
              have c3' := cell_by c3
              have hsl : s < wz.heap.size := World.block_lt_of_cell? _ _ c0
              have htl : tb < wz.heap.size := World.block_lt_of_cell? _ _ c3
              have hmt := fun w' => meth3Len k.p w'
              have HST := hid st24
              have HES2 := hid hes24
              clear st24 hes24 HL24 c0 c3
              generalize (faceLen k f2 : Int) = L at *
              have hnl : ¬ t.cap < L := by omega
              clear hcap
              go_upto_region 24 with fail
              refine wp_region_quiet_below (by kernel_rfl) (by kernel_rfl) ?_
              repeat (go_big_quiet_step (first | (go_at_call 122; exact calls_below _ (HLN.out _))))
              refine wpQuiet_nil ?_
              intro wy hw'
              obtain ⟨⟨_, hwy⟩, hw''⟩ := hw'
              subst hw''
              have HNX : Hid (StL W6 (tb + 1) s k wl (sayL al t.al) wy) := ⟨f2, h2, N2, X2, HST.out.step hwy, HES2.out, HX24.out.trans (hwy.mono (by have := HX24.out.size; have := HX.out.2.2.1; omega))⟩
              clear hwy HST HES2 HX24 HLN c0' c3' hmt hsl htl
              go_wp2
              go_roundw
              case rel => exact ⟨i + 1, by omega, by go_num, HNX.out⟩
              case measure => simp [intOf]; omega
            · obtain ⟨rfl, rfl, hbb⟩ := hcd hC
              have hcn : (C != 0) = true := by simpa using hC
              have ST2 := hid st2
              have ES2 := hid hes2
              have B2 := hid hb2
              have AL2 := hid (HAL9.out.step hbb)
              have SY2 := hid (HSY9.out.moved (moved_below hbb))
              have y0 := cell_keep HY.out.1 hbb
              have y1 := cell_keep HY.out.2 hbb
              have c0 := st2.c0
              rw [faceV3 HK.out] at c0
              have hmt := fun w' => meth3All k.p w'
              have HALL : Hid (∀ w', Below wc.heap.size wc w' → Calls Tryz.prog 118 #[.pointer (some ⟨k.p, 0, none⟩)] w' fun r w'' => ∃ v, r = .returned v ∧ AllIs w'' k f2 v ∧ Below w'.heap.size w' w'') := fun w' hb => face3_all HK.out (ST2.out.face.step hb)
              have HSE : Hid (∀ w' u, Below wc.heap.size wc w' → AllIs w' k f2 u → Calls Tryz.prog 15 #[u, v] w' fun e w'' => e = .returned (.bool true) ∧ Below w'.heap.size w' w'') := fun w' u hb hu => all_same (ST2.out.face.step hb) hu (AL2.out.step hb)
              have HSY : Hid (∀ w', Below wc.heap.size wc w' → Calls Tryz.prog 9 #[.pointer (some ⟨s, 0, none⟩)] w' fun q w'' => SaysDone w' w'' h2 q) := fun w' hb => ssays_any (ST2.out.step hb).says
              have HSH : Hid (∀ w' u, Below wc.heap.size wc w' → Says w' u h2 → Calls Tryz.prog 16 #[u, .agg #[.int .i64 h2.1, .slice a8 n8 c8]] w' fun e w'' => e = .returned (.bool true) ∧ Below w'.heap.size w' w'') := fun w' u hb hu => same_hit hu (SY2.out.moved (moved_below hb))
              have HBD : Hid (Below wc.heap.size wc wc.drew) := (Below.refl _ _).drew
              have hxl : xb < wc.heap.size := World.block_lt_of_cell? _ _ y0
              have hsl0 : s < wc.heap.size := World.block_lt_of_cell? _ _ c0
              clear st2 hes2 hb2 hcd hbb hC
              go_upto_region 22 with fail
              go_region_held3 (fun w' => w'.cell? ⟨s, 0, none⟩ = some (.iface 86 (.pointer (some ⟨k.p, 0, none⟩))) ∧ w'.cell? ⟨xb, 0, none⟩ = some (.int .i64 h2.1) ∧ w'.cell? ⟨xb, 1, none⟩ = some (.slice a8 n8 c8))
                (first
                  | (go_split_ands
                     first
                       | exact ⟨by assumption, by assumption, by assumption⟩
                       | exact ⟨cell_keep (by assumption) hbd, cell_keep (by assumption) hbd, cell_keep (by assumption) hbd⟩
                       | exact ⟨cell_keep (by assumption) hbc, cell_keep (by assumption) hbc, cell_keep (by assumption) hbc⟩
                       | exact ⟨cell_keep (by assumption) hbb2, cell_keep (by assumption) hbb2, cell_keep (by assumption) hbb2⟩
                       | exact ⟨cell_keep (by assumption) hba, cell_keep (by assumption) hba, cell_keep (by assumption) hba⟩)
                  | go_keep)
                (first
                  | (go_at_call 118; refine (HALL.out _ HBD.out).mono ?_; rintro e wa ⟨va, rfl, hva, hba⟩; have BA := hid (bl_step HBD.out hba); have HVA := hid hva)
                  | (go_at_call 15; refine (HSE.out _ _ BA.out HVA.out).mono ?_; rintro e wb ⟨rfl, hbb2⟩; have BB := hid (bl_step BA.out hbb2))
                  | (go_at_call 9; refine (HSY.out _ BB.out).mono ?_; rintro e wsy ⟨sa, sn, sc, rfl, -, hvs, hbc⟩; have BC := hid (bl_step BB.out hbc); have HVS := hid hvs)
                  | (go_at_call 16; refine (HSH.out _ _ BC.out HVS.out).mono ?_; rintro e wd ⟨rfl, hbd⟩; have BD := hid (bl_step BC.out hbd)))
              all_goals
                have st24 := ST2.out.step BD.out
                have hes24 := ES2.out
                have HX24 : Hid (Below (tb + 1) W6 wd) := (HB9K.out.trans B2.out).trans (BD.out.mono (by have := HB9K.out.size; have := B2.out.size; have := HX.out.2.2.1; omega))
                clear ST2 ES2 B2 BA BB BC BD HVA HVS HALL HSE HSY HSH HBD AL2 SY2 hmt
                clear c0 y0 y1 hxl hsl0
                have HL24 := hid (fun q : BelowBy wd => face3_len HK.out (st24.face.step q.h))
                have HLN : Hid (∀ q : BelowBy wd, Calls Tryz.prog 122 #[.pointer (some ⟨k.p, 0, none⟩)] q.to fun r w' => r = .returned (.int .i64 (faceLen k f2 : Int)) ∧ Below q.to.heap.size q.to w') := fun q => (HL24.out q).mono fun r w' hq => ⟨hq.1, by rw [hq.2]; exact Below.refl _ _⟩
                have hcap := cap_of st24.face HNF.out hes24 HCP.out
                have c0 := st24.c0
                rw [faceV3 HK.out] at c0
                have c3 := ((HX24.out.cell (p := ⟨tb, 3, none⟩) (by show tb < tb + 1; omega)).trans HC6.out)
                have c0' := cell_by c0
                have c3' := cell_by c3
                have hsl : s < wd.heap.size := World.block_lt_of_cell? _ _ c0
                have htl : tb < wd.heap.size := World.block_lt_of_cell? _ _ c3
                have hmt := fun w' => meth3Len k.p w'
                have HST := hid st24
                have HES2 := hid hes24
                clear st24 hes24 HL24 c0 c3
                generalize (faceLen k f2 : Int) = L at *
                have hnl : ¬ t.cap < L := by omega
                clear hcap
                go_upto_region 24 with fail
                refine wp_region_quiet_below (by kernel_rfl) (by kernel_rfl) ?_
                repeat (go_big_quiet_step (first | (go_at_call 122; exact calls_below _ (HLN.out _))))
                refine wpQuiet_nil ?_
                intro wy hw'
                obtain ⟨⟨_, hwy⟩, hw''⟩ := hw'
                subst hw''
                have HNX : Hid (StL W6 (tb + 1) s k wl (sayL al t.al) wy) := ⟨f2, h2, N2, X2, HST.out.step hwy, HES2.out, HX24.out.trans (hwy.mono (by have := HX24.out.size; have := HX.out.2.2.1; omega))⟩
                clear hwy HST HES2 HX24 HLN c0' c3' hmt hsl htl
                go_wp2
                go_roundw
                case rel => exact ⟨i + 1, by omega, by go_num, HNX.out⟩
                case measure => simp [intOf]; omega
        · have hki : ¬ (i : Int) < (n : Int) := by omega
          clear hst st hes hbk
          go_wp2
          go_ret
          exact ⟨rfl, HBW.out⟩
end Go.Proofs.YtbpnafdmlajepaaGreat
