/- Texts of one chain, joined: MStill. -/
import Derived.Test.YtffbnggdckjogaaGreatG20
import Derived.Test.YtffbnggdckjogaaGreatG27
namespace Go.Proofs.YtffbnggdckjogaaGreat
open Go.RowKit Mth
def MAddStill (w w' : World) (B p : Nat) (keys most : Int) (T : List TE) (e : TE) (r : Ending) : Prop := MAddDone w w' B p keys most T e r ∧ (addCM keys most T e ≠ 0 → Below w.heap.size w w')
def MDropStill (w w' : World) (B p : Nat) (keys most : Int) (T : List TE) (e : TE) (r : Ending) : Prop := MDropDone w w' B p keys most T e r ∧ (hasCM keys T e ≠ 0 → Below w.heap.size w w')
def MChgStill (w w' : World) (B p : Nat) (keys most : Int) (T : List TE) (e : TE) (r : Ending) : Prop := MChgDone w w' B p keys most T e r ∧ (hasCM keys T e ≠ 0 → Below w.heap.size w w')
theorem madd_keepS {w w' : World} {B p : Nat} {keys most : Int} {T : List TE} {e : TE} {c : Int} (t : MTab w B p keys most T) (hb : Below w.heap.size w w') (hc : addCM keys most T e = c) (h0 : c ≠ 0) : MAddStill w w' B p keys most T e (.returned (.int .i64 c)) := ⟨madd_keep t hb hc h0, fun _ => hb⟩
theorem mdrop_keepS {w w' : World} {B p : Nat} {keys most : Int} {T : List TE} {e : TE} {c : Int} (t : MTab w B p keys most T) (hb : Below w.heap.size w w') (hc : hasCM keys T e = c) (h0 : c ≠ 0) : MDropStill w w' B p keys most T e (.returned (.int .i64 c)) := ⟨mdrop_keep t hb hc h0, fun _ => hb⟩
theorem mchg_keepS {w w' : World} {B p : Nat} {keys most : Int} {T : List TE} {e : TE} {c : Int} (t : MTab w B p keys most T) (hb : Below w.heap.size w w') (hc : hasCM keys T e = c) (h0 : c ≠ 0) : MChgStill w w' B p keys most T e (.returned (.int .i64 c)) := ⟨mchg_keep t hb hc h0, fun _ => hb⟩
set_option maxHeartbeats 1000000 in
set_option maxRecDepth 20000 in
theorem madd_badS {w : World} {B p : Nat} {keys most : Int} {T : List TE} {f : MD} {e : TE} (t : MTab w B p keys most T) (hf : f.good w e) (hg : ¬ GoodM keys e) :
    Calls Tryz.prog 114 #[.pointer (some ⟨p, 0, none⟩), f.ev] w fun r w' => MAddStill w w' B p keys most T e r := by
  have hb0 := bl_alloc (o := f.ec) (Below.refl w.heap.size w)
  have HI := hid (isEntry_any (t.step hb0).c0 (hf.step hb0))
  have SX : Six (w.alloc f.ec) w.heap.size (.slice f.ka f.kn f.kc) (.slice f.ma f.mn f.mc) (.int .i64 f.ln) (.int .i64 f.pr) (.int .i64 f.ac) (.slice f.a f.n f.c) := six_new w _ _ _ _ _ _ _
  obtain ⟨k0, k1, k2, k3, k4, k5, -, -, -, -, -, -⟩ := SX
  have HT := hid t
  have HG := hid hg
  have HB0 := hid hb0
  clear t hf hg hb0
  go_enter Tryz.func114, Tryz.ntmps114
  go_wp2_with fail
  refine HI.out.mono ?_
  rintro r w1 ⟨b, rfl, hb, hg1⟩
  have eb : b = false := by
    cases b with
    | false => rfl
    | true => exact absurd (hb.1 rfl) HG.out
  subst eb
  have HE := hid (madd_keepS HT.out (bl_step HB0.out hg1.below) (show addCM keys most T e = 6 by unfold addCM; rw [if_neg HG.out]) (by decide))
  clear hb hg1 HI
  go_wp2
  go_ret
  exact HE.out
set_option maxHeartbeats 4000000 in
set_option maxRecDepth 20000 in
theorem madd_noS {w : World} {B p : Nat} {keys most : Int} {T : List TE} {f : MD} {e : TE} (t : MTab w B p keys most T) (hf : f.good w e) (hg : GoodM keys e) (hn : T.length ≤ 100000) (hno : (∃ x ∈ T, SameP x e) ∨ ClashM T e ∨ most ≤ (T.length : Int)) :
    Calls Tryz.prog 114 #[.pointer (some ⟨p, 0, none⟩), f.ev] w fun r w' => MAddStill w w' B p keys most T e r := by
  have hb0 := bl_alloc (o := f.ec) (Below.refl w.heap.size w)
  have HI := hid (isEntry_any (t.step hb0).c0 (hf.step hb0))
  have SX : Hid (Six (w.alloc f.ec) w.heap.size (.slice f.ka f.kn f.kc) (.slice f.ma f.mn f.mc) (.int .i64 f.ln) (.int .i64 f.pr) (.int .i64 f.ac) (.slice f.a f.n f.c)) := six_new w _ _ _ _ _ _ _
  obtain ⟨k0, k1, k2, k3, k4, k5, -, -, -, -, -, -⟩ := SX.out
  have HT := hid t
  have HG := hid hg
  have HF := hid hf
  have HB0 := hid hb0
  have HNO := hid hno
  clear t hf hg hb0 hno
  go_enter Tryz.func114, Tryz.ntmps114
  go_wp2_with fail
  refine HI.out.mono ?_
  rintro r w1 ⟨b, rfl, hb, hg1⟩
  have eb : b = true := hb.2 HG.out
  subst eb
  have B1 := hid (bl_step HB0.out hg1.below)
  have S1 := hid (SX.out.step hg1.below)
  have HP := hid (mplace_any (HT.out.step B1.out) (HF.out.step B1.out) HG.out hn)
  clear hb hg1 HI k0 k1 k2 k3 k4 k5 SX HB0
  obtain ⟨k0, k1, k2, k3, k4, k5, -, -, -, -, -, -⟩ := S1.out
  go_wp2_with fail
  refine HP.out.mono ?_
  rintro r w2 ⟨i, fb, rfl, hcut, hfo, hg2⟩
  have HFO := hid (hfo.trans (cut_found HT.out.ok.srt hcut))
  have B2 := hid (bl_step B1.out hg2.below)
  have S2 := hid (S1.out.step hg2.below)
  clear hcut hfo hg2 HP k0 k1 k2 k3 k4 k5 S1
  cases fb with
  | true =>
    have HE := hid (madd_keepS HT.out B2.out (show addCM keys most T e = 7 by unfold addCM; rw [if_pos HG.out, if_pos (HFO.out.1 rfl)]) (by decide))
    clear HFO B2
    go_wp2
    go_ret
    exact HE.out
  | false =>
    have HNS : Hid (¬ ∃ x ∈ T, SameP x e) := fun h => by have := HFO.out.2 h; cases this
    have HC := hid (clashes_any (HT.out.step B2.out) (HF.out.step B2.out) HG.out hn)
    obtain ⟨k0, k1, k2, k3, k4, k5, -, -, -, -, -, -⟩ := S2.out
    go_wp2_with fail
    refine HC.out.mono ?_
    rintro r w3 ⟨b, rfl, hb, hg3⟩
    have B3 := hid (bl_step B2.out hg3.below)
    cases b with
    | true =>
      have HE := hid (madd_keepS HT.out B3.out (show addCM keys most T e = 8 by unfold addCM; rw [if_pos HG.out, if_neg HNS.out, if_pos (hb.1 rfl)]) (by decide))
      clear hb hg3 HC
      go_wp2
      go_ret
      exact HE.out
    | false =>
      have HNC : Hid (¬ ClashM T e) := fun h => by have := hb.2 h; cases this
      have hful : most ≤ (T.length : Int) := by
        rcases HNO.out with h | h | h
        · exact absurd h HNS.out
        · exact absurd h HNC.out
        · exact h
      obtain ⟨la, cap, p2, -⟩ := (HT.out.step B3.out).lst
      have p1 := (HT.out.step B3.out).c1
      have HE : Hid (∀ s, MAddStill w (w3.drewN s) B p keys most T e (.returned (.int .i64 10))) := fun s => madd_keepS HT.out (below_drewN B3.out s) (show addCM keys most T e = 10 by unfold addCM; rw [if_pos HG.out, if_neg HNS.out, if_neg HNC.out, if_pos hful]) (by decide)
      clear hb hg3 HC k0 k1 k2 k3 k4 k5
      go_wp2_with fail
      go_quiet (fail)
      go_wp2
      go_ret
      exact HE.out _
set_option maxHeartbeats 4000000 in
set_option maxRecDepth 20000 in
theorem mwith_dropS {w : World} {B p q : Nat} {keys most : Int} {T : List TE} {f : MD} {e : TE} (t : MTab w B p keys most T) (hf : f.good w e) (hn : T.length ≤ 100000) (hq : w.cell? ⟨q, 0, none⟩ = some (.pointer (some ⟨p, 0, none⟩))) :
    Calls Tryz.prog 125 #[.pointer (some ⟨p, 0, none⟩), f.ev, .func (.func 127) #[] #[.pointer (some ⟨q, 0, none⟩)]] w fun r w' => MDropStill w w' B p keys most T e r := by
  have hb0 := bl_alloc (o := f.ec) (Below.refl w.heap.size w)
  have HI := hid (isEntry_any (t.step hb0).c0 (hf.step hb0))
  have SX : Hid (Six (w.alloc f.ec) w.heap.size (.slice f.ka f.kn f.kc) (.slice f.ma f.mn f.mc) (.int .i64 f.ln) (.int .i64 f.pr) (.int .i64 f.ac) (.slice f.a f.n f.c)) := six_new w _ _ _ _ _ _ _
  obtain ⟨k0, k1, k2, k3, k4, k5, -, -, -, -, -, -⟩ := SX.out
  have HT := hid t
  have HF := hid hf
  have HB0 := hid hb0
  have HQ := hid hq
  clear t hf hb0 hq
  go_enter Tryz.func125, Tryz.ntmps125
  go_wp2_with fail
  refine HI.out.mono ?_
  rintro r w1 ⟨b, rfl, hb, hg1⟩
  have B1 := hid (bl_step HB0.out hg1.below)
  have S1 := hid (SX.out.step hg1.below)
  have HBI := hid hb
  clear hb hg1 HI k0 k1 k2 k3 k4 k5 SX HB0
  cases b with
  | false =>
    have HNG : Hid (¬ GoodM keys e) := fun h => by have := HBI.out.2 h; cases this
    have HE := hid (mdrop_keepS HT.out B1.out (show hasCM keys T e = 6 by unfold hasCM; rw [if_neg HNG.out]) (by decide))
    go_wp2
    go_ret
    exact HE.out
  | true =>
    have HG := hid (HBI.out.1 rfl)
    have HP := hid (mplace_any (HT.out.step B1.out) (HF.out.step B1.out) HG.out hn)
    obtain ⟨k0, k1, k2, k3, k4, k5, -, -, -, -, -, -⟩ := S1.out
    go_wp2_with fail
    refine HP.out.mono ?_
    rintro r w2 ⟨i, fb, rfl, hcut, hfo, hg2⟩
    have hfo' := hfo.trans (cut_found HT.out.ok.srt hcut)
    have B2 := hid (bl_step B1.out hg2.below)
    have HCUT := hid hcut
    have HFO := hid hfo
    have HFO' := hid hfo'
    clear hcut hfo hfo' hg2 HP k0 k1 k2 k3 k4 k5 S1 B1
    cases fb with
    | false =>
      have HNS : Hid (¬ ∃ x ∈ T, SameP x e) := fun h => by have := HFO'.out.2 h; cases this
      have HE := hid (mdrop_keepS HT.out B2.out (show hasCM keys T e = 9 by unfold hasCM; rw [if_pos HG.out, if_neg HNS.out]) (by decide))
      go_wp2
      go_ret
      exact HE.out
    | true =>
      have hit : i < T.length := by
        obtain ⟨x, hx, _⟩ := HFO.out.1 rfl
        exact (List.getElem?_eq_some_iff.1 hx).1
      have hql : q < w.heap.size := World.block_lt_of_cell? w _ HQ.out
      have HD := hid (mdrop1_any (HT.out.step B2.out) ((B2.out.cell (p := ⟨q, 0, none⟩) hql).trans HQ.out) hit hn)
      have HCO : Hid (hasCM keys T e = 0) := by show hasCM keys T e = 0; unfold hasCM; rw [if_pos HG.out, if_pos (HFO'.out.1 rfl)]
      go_wp2_with (go_at_call 127; refine HD.out.mono ?_; rintro r w3 ⟨rfl, t3⟩)
      have HE : Hid (MDropStill w w3 B p keys most T e (.returned (.int .i64 0))) := by
        refine ⟨⟨by rw [HCO.out], ?_⟩, fun h0 => absurd HCO.out h0⟩
        unfold dropTM
        rw [if_pos HCO.out, cut_is HCUT.out]
        exact ⟨t3.t, (B2.out.mono HT.out.small).trans t3.bel, t3.fr.after B2.out (World.block_lt_of_cell? w _ HT.out.c0)⟩
      clear t3 HD
      go_ret
      exact HE.out
set_option maxHeartbeats 1000000 in
set_option maxRecDepth 20000 in
theorem mdrop_anyS {w : World} {B p : Nat} {keys most : Int} {T : List TE} {f : MD} {e : TE} (t : MTab w B p keys most T) (hf : f.good w e) (hn : T.length ≤ 100000) :
    Calls Tryz.prog 117 #[.pointer (some ⟨p, 0, none⟩), f.ev] w fun r w' => MDropStill w w' B p keys most T e r := by
  have hb0 := bl_alloc (o := f.ec) (bl_alloc (o := PCT p) (Below.refl w.heap.size w))
  have q0 : ((w.alloc (PCT p)).alloc f.ec).cell? ⟨w.heap.size, 0, none⟩ = some (.pointer (some ⟨p, 0, none⟩)) := by simp
  have HW := hid (mwith_dropS (t.step hb0) (hf.step hb0) hn q0)
  have SX : Six ((w.alloc (PCT p)).alloc f.ec) (w.alloc (PCT p)).heap.size (.slice f.ka f.kn f.kc) (.slice f.ma f.mn f.mc) (.int .i64 f.ln) (.int .i64 f.pr) (.int .i64 f.ac) (.slice f.a f.n f.c) := six_new _ _ _ _ _ _ _ _
  rw [show (w.alloc (PCT p)).heap.size = w.heap.size + 1 from by simp] at SX
  obtain ⟨k0, k1, k2, k3, k4, k5, -, -, -, -, -, -⟩ := SX
  have HB0 := hid hb0
  have HT := hid t
  clear t hf hb0
  go_enter Tryz.func117, Tryz.ntmps117
  go_wp2_with fail
  refine HW.out.mono ?_
  rintro r w1 ⟨⟨rfl, t1⟩, s1⟩
  have HE : Hid (MDropStill w w1 B p keys most T e (.returned (.int .i64 (hasCM keys T e)))) := ⟨⟨rfl, t1.t, (HB0.out.mono HT.out.small).trans t1.bel, t1.fr.after HB0.out (World.block_lt_of_cell? w _ HT.out.c0)⟩, fun h0 => bl_step HB0.out (s1 h0)⟩
  clear t1 s1 HW
  generalize hasCM keys T e = c at *
  go_wp2
  go_ret
  exact HE.out
set_option maxHeartbeats 4000000 in
set_option maxRecDepth 20000 in
theorem mwith_chgS {w : World} {B p q s : Nat} {keys most : Int} {T : List TE} {f : MD} {e : TE} (t : MTab w B p keys most T) (hf : f.good w e) (hn : T.length ≤ 100000) (hq : w.cell? ⟨q, 0, none⟩ = some (.pointer (some ⟨p, 0, none⟩)))
    (hs : Six w s (.slice f.ka f.kn f.kc) (.slice f.ma f.mn f.mc) (.int .i64 f.ln) (.int .i64 f.pr) (.int .i64 f.ac) (.slice f.a f.n f.c)) :
    Calls Tryz.prog 125 #[.pointer (some ⟨p, 0, none⟩), f.ev, .func (.func 126) #[] #[.pointer (some ⟨s, 0, none⟩), .pointer (some ⟨q, 0, none⟩)]] w fun r w' => MChgStill w w' B p keys most T e r := by
  have hb0 := bl_alloc (o := f.ec) (Below.refl w.heap.size w)
  have HI := hid (isEntry_any (t.step hb0).c0 (hf.step hb0))
  have SX : Hid (Six (w.alloc f.ec) w.heap.size (.slice f.ka f.kn f.kc) (.slice f.ma f.mn f.mc) (.int .i64 f.ln) (.int .i64 f.pr) (.int .i64 f.ac) (.slice f.a f.n f.c)) := six_new w _ _ _ _ _ _ _
  obtain ⟨k0, k1, k2, k3, k4, k5, -, -, -, -, -, -⟩ := SX.out
  have HT := hid t
  have HF := hid hf
  have HB0 := hid hb0
  have HQ := hid hq
  have HS := hid hs
  clear t hf hb0 hq hs
  go_enter Tryz.func125, Tryz.ntmps125
  go_wp2_with fail
  refine HI.out.mono ?_
  rintro r w1 ⟨b, rfl, hb, hg1⟩
  have B1 := hid (bl_step HB0.out hg1.below)
  have S1 := hid (SX.out.step hg1.below)
  have HBI := hid hb
  clear hb hg1 HI k0 k1 k2 k3 k4 k5 SX HB0
  cases b with
  | false =>
    have HNG : Hid (¬ GoodM keys e) := fun h => by have := HBI.out.2 h; cases this
    have HE := hid (mchg_keepS HT.out B1.out (show hasCM keys T e = 6 by unfold hasCM; rw [if_neg HNG.out]) (by decide))
    go_wp2
    go_ret
    exact HE.out
  | true =>
    have HG := hid (HBI.out.1 rfl)
    have HP := hid (mplace_any (HT.out.step B1.out) (HF.out.step B1.out) HG.out hn)
    obtain ⟨k0, k1, k2, k3, k4, k5, -, -, -, -, -, -⟩ := S1.out
    go_wp2_with fail
    refine HP.out.mono ?_
    rintro r w2 ⟨i, fb, rfl, hcut, hfo, hg2⟩
    have hfo' := hfo.trans (cut_found HT.out.ok.srt hcut)
    have B2 := hid (bl_step B1.out hg2.below)
    have HCUT := hid hcut
    have HFO := hid hfo
    have HFO' := hid hfo'
    clear hcut hfo hfo' hg2 HP k0 k1 k2 k3 k4 k5 S1 B1
    cases fb with
    | false =>
      have HNS : Hid (¬ ∃ x ∈ T, SameP x e) := fun h => by have := HFO'.out.2 h; cases this
      have HE := hid (mchg_keepS HT.out B2.out (show hasCM keys T e = 9 by unfold hasCM; rw [if_pos HG.out, if_neg HNS.out]) (by decide))
      go_wp2
      go_ret
      exact HE.out
    | true =>
      obtain ⟨x, hx, hxe⟩ := HFO.out.1 rfl
      have hql : q < w.heap.size := World.block_lt_of_cell? w _ HQ.out
      have HD := hid (mchg1_any (HT.out.step B2.out) (HF.out.step B2.out) ((B2.out.cell (p := ⟨q, 0, none⟩) hql).trans HQ.out) (HS.out.step B2.out) hx ((cmpE_eq _ _).1 hxe) HG.out)
      have HCO : Hid (hasCM keys T e = 0) := by show hasCM keys T e = 0; unfold hasCM; rw [if_pos HG.out, if_pos (HFO'.out.1 rfl)]
      clear hx hxe
      go_wp2_with (go_at_call 126; refine HD.out.mono ?_; rintro r w3 ⟨rfl, t3⟩)
      have HE : Hid (MChgStill w w3 B p keys most T e (.returned (.int .i64 0))) := by
        refine ⟨⟨by rw [HCO.out], ?_, t3.2.after B2.out (World.block_lt_of_cell? w _ HT.out.c0)⟩, fun h0 => absurd HCO.out h0⟩
        unfold chgTM
        rw [if_pos HCO.out, cut_is HCUT.out]
        exact ⟨t3.1.t, (B2.out.mono HT.out.small).trans t3.1.bel, t3.2.after B2.out (World.block_lt_of_cell? w _ HT.out.c0)⟩
      clear t3 HD
      go_ret
      exact HE.out
set_option maxHeartbeats 1000000 in
set_option maxRecDepth 20000 in
theorem mchg_anyS {w : World} {B p : Nat} {keys most : Int} {T : List TE} {f : MD} {e : TE} (t : MTab w B p keys most T) (hf : f.good w e) (hn : T.length ≤ 100000) :
    Calls Tryz.prog 116 #[.pointer (some ⟨p, 0, none⟩), f.ev] w fun r w' => MChgStill w w' B p keys most T e r := by
  have hb0 := bl_alloc (o := f.ec) (bl_alloc (o := PCT p) (Below.refl w.heap.size w))
  have q0 : ((w.alloc (PCT p)).alloc f.ec).cell? ⟨w.heap.size, 0, none⟩ = some (.pointer (some ⟨p, 0, none⟩)) := by simp
  have SX : Six ((w.alloc (PCT p)).alloc f.ec) (w.alloc (PCT p)).heap.size (.slice f.ka f.kn f.kc) (.slice f.ma f.mn f.mc) (.int .i64 f.ln) (.int .i64 f.pr) (.int .i64 f.ac) (.slice f.a f.n f.c) := six_new _ _ _ _ _ _ _ _
  rw [show (w.alloc (PCT p)).heap.size = w.heap.size + 1 from by simp] at SX
  have HW := hid (mwith_chgS (t.step hb0) (hf.step hb0) hn q0 SX)
  obtain ⟨k0, k1, k2, k3, k4, k5, -, -, -, -, -, -⟩ := SX
  have HB0 := hid hb0
  have HT := hid t
  clear t hf hb0
  go_enter Tryz.func116, Tryz.ntmps116
  go_wp2_with fail
  refine HW.out.mono ?_
  rintro r w1 ⟨⟨rfl, t1⟩, s1⟩
  have HE : Hid (MChgStill w w1 B p keys most T e (.returned (.int .i64 (hasCM keys T e)))) := ⟨⟨rfl, ⟨t1.1.t, (HB0.out.mono HT.out.small).trans t1.1.bel, t1.2.after HB0.out (World.block_lt_of_cell? w _ HT.out.c0)⟩, t1.2.after HB0.out (World.block_lt_of_cell? w _ HT.out.c0)⟩, fun h0 => bl_step HB0.out (s1 h0)⟩
  clear t1 s1 HW
  generalize hasCM keys T e = c at *
  go_wp2
  go_ret
  exact HE.out
theorem madd_anyS {w : World} {B p : Nat} {keys most : Int} {T : List TE} {f : MD} {e : TE} (t : MTab w B p keys most T) (hf : f.good w e) (hn : T.length ≤ 100000) :
    Calls Tryz.prog 114 #[.pointer (some ⟨p, 0, none⟩), f.ev] w fun r w' => MAddStill w w' B p keys most T e r := by
  by_cases hg : GoodM keys e
  · by_cases hs : ∃ x ∈ T, SameP x e
    · exact madd_noS t hf hg hn (.inl hs)
    · by_cases hc : ClashM T e
      · exact madd_noS t hf hg hn (.inr (.inl hc))
      · by_cases hl : most ≤ (T.length : Int)
        · exact madd_noS t hf hg hn (.inr (.inr hl))
        · have h0 : addCM keys most T e = 0 := by unfold addCM; rw [if_pos hg, if_neg hs, if_neg hc, if_neg hl]
          exact (madd_good t hf hg hn hs hc (by omega)).mono fun r w' h => ⟨h, fun h1 => absurd h0 h1⟩
  · exact madd_badS t hf hg
end Go.Proofs.YtffbnggdckjogaaGreat
