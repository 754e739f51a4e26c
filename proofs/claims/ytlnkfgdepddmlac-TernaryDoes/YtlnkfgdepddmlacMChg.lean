/- What Change of a table by masks does. -/
import Derived.Test.YtlnkfgdepddmlacKChg
namespace Go.Proofs.Ytlnkfgdepddmlac
open Go.RowKit Mth

def keyE (e : TE) : Int × List Int × List Int := (e.pr, e.ks, e.ms)

theorem keyE_same {x e : TE} (h : SameP x e) : keyE x = keyE e := by
  obtain ⟨h1, h2, h3⟩ := h
  simp [keyE, h1, h2, h3]

theorem pair_keys {R : TE → TE → Prop} (hR : ∀ a b a' b', keyE a = keyE a' → keyE b = keyE b' → R a b → R a' b') {T T' : List TE} (hk : T.map keyE = T'.map keyE) (h : T.Pairwise R) : T'.Pairwise R := by
  induction T generalizing T' with
  | nil => cases T' with
    | nil => exact .nil
    | cons _ _ => simp at hk
  | cons a T ih =>
    cases T' with
    | nil => simp at hk
    | cons a' T' =>
      simp only [List.map_cons, List.cons.injEq] at hk
      obtain ⟨ha, hT⟩ := hk
      rw [List.pairwise_cons] at h ⊢
      refine ⟨fun b' hb' => ?_, ih hT h.2⟩
      have : keyE b' ∈ T.map keyE := by rw [hT]; exact List.mem_map_of_mem hb'
      obtain ⟨b, hb, e⟩ := List.mem_map.1 this
      exact hR a b a' b' ha e (h.1 b hb)

theorem set_keys {T : List TE} {i : Nat} {x e : TE} (hx : T[i]? = some x) (hs : SameP x e) : T.map keyE = (T.set i e).map keyE := by
  rw [List.map_set]
  refine List.ext_getElem? fun j => ?_
  by_cases hj : i = j
  · subst hj
    rw [List.getElem?_set_self (by rw [List.length_map]; exact (List.getElem?_eq_some_iff.1 hx).1), List.getElem?_map, hx, Option.map_some, keyE_same hs]
  · rw [List.getElem?_set_ne hj]

theorem okM_set {keys most : Int} {T : List TE} {i : Nat} {x e : TE} (h : OkM keys most T) (hx : T[i]? = some x) (hs : SameP x e) (hg : GoodM keys e) : OkM keys most (T.set i e) := by
  refine ⟨pair_keys ?_ (set_keys hx hs) h.srt, fun y hy => ?_, pair_keys ?_ (set_keys hx hs) h.apart, by rw [List.length_set]; exact h.few⟩
  · intro a b a' b' ha hb hr
    simp only [keyE, Prod.mk.injEq] at ha hb
    unfold cmpE at hr ⊢
    rw [← ha.1, ← ha.2.1, ← ha.2.2, ← hb.1, ← hb.2.1, ← hb.2.2]
    exact hr
  · rcases List.mem_or_eq_of_mem_set hy with h' | h'
    · exact h.good y h'
    · rw [h']; exact hg
  · intro a b a' b' ha hb hr
    simp only [keyE, Prod.mk.injEq] at ha hb
    unfold Meets at hr ⊢
    rw [← ha.1, ← ha.2.1, ← ha.2.2, ← hb.1, ← hb.2.1, ← hb.2.2]
    exact hr

/-- the table behind a list that was written into -/
theorem mtab_set {w wA w6 : World} {B p g cap : Nat} {keys most : Int} {T T' : List TE} (t : MTab w B p keys most T) (hb : Below w.heap.size w wA) (h2 : w.cell? ⟨p, 2, none⟩ = some (.slice (some ⟨g, 0, none⟩) T.length cap)) (hg : wA.grownBy w6 (some g)) (hr' : MRow w6 B (some ⟨g, 0, none⟩) T.length cap T') (hok : OkM keys most T') : MTo w w6 B p keys most T' ∧ Fr w w6 p 2 := by
  have hpl : p < w.heap.size := World.block_lt_of_cell? w _ t.c0
  obtain ⟨la2, cap2, h22, hrow⟩ := t.lst
  rw [h2] at h22
  simp only [Option.some.injEq, Value.slice.injEq, true_and] at h22
  obtain ⟨rfl, rfl⟩ := h22
  have hrA := hrow.step hb
  have tA := t.step hb
  have hE := hr'.len
  have hpg : p ≠ g := fun e => by
    obtain ⟨a', m', c', hc'⟩ := hrA.2 g rfl
    rw [← e, tA.c0] at hc'
    cases hc'
  have hpp : w6.heap[p]? = wA.heap[p]? := hg.block p (Nat.lt_of_lt_of_le hpl hb.size) (fun e => hpg (Option.some.inj e))
  have cs : ∀ i, w6.cell? ⟨p, i, none⟩ = wA.cell? ⟨p, i, none⟩ := fun i => World.cell?_of_block (w := wA) (w' := w6) (a := ⟨p, i, none⟩) hpp
  have c2 : w6.cell? ⟨p, 2, none⟩ = some (.slice (some ⟨g, 0, none⟩) T.length cap) := (cs 2).trans ((hb.cell (p := ⟨p, 2, none⟩) hpl).trans h2)
  have F : Fr w w6 p 2 := by
    refine ⟨?_, fun k hk _ hkg => ?_, fun g' n c h => ?_⟩
    · have := hb.size; have := hg.size; omega
    · rw [hg.block k (Nat.lt_of_lt_of_le hk hb.size) (fun e => hkg g _ _ h2 (Option.some.inj e))]
      exact hb.block k hk
    · rw [c2] at h
      simp only [Option.some.injEq, Value.slice.injEq, Addr.mk.injEq, and_true] at h
      obtain ⟨rfl, _⟩ := h
      exact .inl ⟨_, _, h2⟩
  refine ⟨⟨⟨(cs 0).trans tA.c0, (cs 1).trans tA.c1, ?_, t.base, ⟨some ⟨g, 0, none⟩, cap, by rw [hE]; exact c2, by rw [hE]; exact hr'⟩, hok⟩, ?_, F⟩, F⟩
  · exact (World.frozen?_of_block (w := wA) (w' := w6) (a := ⟨p, 2, none⟩) hpp).trans ((hb.frozen (p := ⟨p, 2, none⟩) hpl).trans t.f2)
  · exact (hb.mono t.small).grown hg (Nat.le_trans t.small hb.size) (fun k hk => by cases hk; exact (hrow.lt g rfl).1)

set_option maxHeartbeats 4000000 in
set_option maxRecDepth 20000 in
theorem mchg1_any {w : World} {B p q s i : Nat} {keys most : Int} {T : List TE} {f : MD} {e x : TE} (t : MTab w B p keys most T) (hf : f.good w e) (hq : w.cell? ⟨q, 0, none⟩ = some (.pointer (some ⟨p, 0, none⟩)))
    (hs : Six w s (.slice f.ka f.kn f.kc) (.slice f.ma f.mn f.mc) (.int .i64 f.ln) (.int .i64 f.pr) (.int .i64 f.ac) (.slice f.a f.n f.c)) (hx : T[i]? = some x) (hsx : SameP x e) (hg : GoodM keys e) :
    Calls Try.prog 57 #[.int .i64 i, .pointer (some ⟨s, 0, none⟩), .pointer (some ⟨q, 0, none⟩)] w fun r w' => r = .returned (.tuple #[]) ∧ MTo w w' B p keys most (T.set i e) ∧ Fr w w' p 2 := by
  have hil : i < T.length := (List.getElem?_eq_some_iff.1 hx).1
  have hj0 : ¬ (i : Int) < 0 := by omega
  have hjn : (i : Int) < (T.length : Int) := by omega
  obtain ⟨la, cap, p2, hrow⟩ := t.lst
  have HROW := hid hrow
  obtain ⟨g, d0, y0, e0, -, hat, -, -, -⟩ := hrow.at i hil
  subst e0
  have HAT := hid hat
  obtain ⟨⟨ds, dl, -, dow, dgd⟩, -⟩ := hrow
  have DG := hid dgd
  have DOW := hid dow
  have hbd : Below w.heap.size w w.drew := (Below.refl _ _).drew
  have hpl : p < w.heap.size := World.block_lt_of_cell? w _ p2
  have hql : q < w.heap.size := World.block_lt_of_cell? w _ hq
  have HCP := hid (mcopied_any (hf.step hbd))
  have HT := hid t
  have HF := hid hf
  have HX := hid hx
  have HSX := hid hsx
  have HG := hid hg
  obtain ⟨k0, k1, k2, k3, k4, k5, -, -, -, -, -, -⟩ := hs
  have H2 := hid p2
  clear t hf hat dow dgd hx hsx hg
  go_enter Try.func57, Try.ntmps57
  go_wp2_with fail
  go_region_with (go_at_call 55; refine HCP.out.mono ?_; rintro r w4 ⟨d, rfl, hgd, hnew, hln, hb4⟩; have HLN := hid hln; clear hln; have p4 : w4.cell? ⟨p, 2, none⟩ = some (.slice (some ⟨g, 0, none⟩) T.length cap) := ((bl_step hbd hb4).cell (p := ⟨p, 2, none⟩) hpl).trans p2; have q4 : w4.cell? ⟨q, 0, none⟩ = some (.pointer (some ⟨p, 0, none⟩)) := ((bl_step hbd hb4).cell (p := ⟨q, 0, none⟩) hql).trans hq; have OW4 := hid (owns_below DOW.out (bl_step hbd hb4)); have fr0 := OW4.out.frozenAt (i * 6); have fr1 := OW4.out.frozenAt (i * 6 + 1); have fr2 := OW4.out.frozenAt (i * 6 + 2); have fr3 := OW4.out.frozenAt (i * 6 + 3); have fr4 := OW4.out.frozenAt (i * 6 + 4); have fr5 := OW4.out.frozenAt (i * 6 + 5); obtain ⟨q0, q1, q2, q3, q5, q6⟩ := HAT.out.step (bl_step hbd hb4))
  all_goals
    have hS := mown_six OW4.out (i := i) (by omega) d
    have hbA := bl_step hbd hb4
    have HEND : Hid (MTo w ((((((w4.setCell ⟨g, i * 6, none⟩ (.slice d.ka d.kn d.kc)).setCell ⟨g, i * 6 + 1, none⟩ (.slice d.ma d.mn d.mc)).setCell ⟨g, i * 6 + 2, none⟩ (.int .i64 d.ln)).setCell ⟨g, i * 6 + 3, none⟩ (.int .i64 d.pr)).setCell ⟨g, i * 6 + 4, none⟩ (.int .i64 d.ac)).setCell ⟨g, i * 6 + 5, none⟩ (.slice d.a d.n d.c)) B p keys most (T.set i e) ∧ Fr w ((((((w4.setCell ⟨g, i * 6, none⟩ (.slice d.ka d.kn d.kc)).setCell ⟨g, i * 6 + 1, none⟩ (.slice d.ma d.mn d.mc)).setCell ⟨g, i * 6 + 2, none⟩ (.int .i64 d.ln)).setCell ⟨g, i * 6 + 3, none⟩ (.int .i64 d.pr)).setCell ⟨g, i * 6 + 4, none⟩ (.int .i64 d.ac)).setCell ⟨g, i * 6 + 5, none⟩ (.slice d.a d.n d.c)) p 2) :=
      mtab_set HT.out hbA H2.out hS.2 (mrow_set (HROW.out.step hbA) dl (fun i d e hd he => ⟨(DG.out i d e hd he).1.step hbA, (DG.out i d e hd he).2⟩) hgd (hnew.mono (Nat.zero_le _)) HLN.out hil hS.2 hS.1) (okM_set HT.out.ok HX.out HSX.out HG.out)
    clear hS hgd hnew hb4 HCP OW4 hbA
    go_wp2
    go_end0
    exact ⟨rfl, HEND.out⟩

def chgTM (keys : Int) (T : List TE) (e : TE) : List TE := if hasCM keys T e = 0 then T.set (cutI T e) e else T

def MChgDone (w w' : World) (B p : Nat) (keys most : Int) (T : List TE) (e : TE) (r : Ending) : Prop := r = .returned (.int .i64 (hasCM keys T e)) ∧ MTo w w' B p keys most (chgTM keys T e) ∧ Fr w w' p 2

theorem mchg_keep {w w' : World} {B p : Nat} {keys most : Int} {T : List TE} {e : TE} {c : Int} (t : MTab w B p keys most T) (hb : Below w.heap.size w w') (hc : hasCM keys T e = c) (h0 : c ≠ 0) : MChgDone w w' B p keys most T e (.returned (.int .i64 c)) := by
  refine ⟨by rw [hc], ?_, fr_below hb (World.block_lt_of_cell? w _ t.c0)⟩
  unfold chgTM
  rw [if_neg (by rw [hc]; exact h0)]
  exact MTo.same t hb

set_option maxHeartbeats 4000000 in
set_option maxRecDepth 20000 in
theorem mwith_chg {w : World} {B p q s : Nat} {keys most : Int} {T : List TE} {f : MD} {e : TE} (t : MTab w B p keys most T) (hf : f.good w e) (hn : T.length ≤ 100000) (hq : w.cell? ⟨q, 0, none⟩ = some (.pointer (some ⟨p, 0, none⟩)))
    (hs : Six w s (.slice f.ka f.kn f.kc) (.slice f.ma f.mn f.mc) (.int .i64 f.ln) (.int .i64 f.pr) (.int .i64 f.ac) (.slice f.a f.n f.c)) :
    Calls Try.prog 56 #[.pointer (some ⟨p, 0, none⟩), f.ev, .func (.func 57) #[] #[.pointer (some ⟨s, 0, none⟩), .pointer (some ⟨q, 0, none⟩)]] w fun r w' => MChgDone w w' B p keys most T e r := by
  have hb0 := bl_alloc (o := f.ec) (Below.refl w.heap.size w)
  have HI := hid (isEntry_any (t.step hb0).c0 (hf.step hb0))
  have SX : Hid (Six (w.alloc f.ec) w.heap.size (.slice f.ka f.kn f.kc) (.slice f.ma f.mn f.mc) (.int .i64 f.ln) (.int .i64 f.pr) (.int .i64 f.ac) (.slice f.a f.n f.c)) := six_new w _ _ _ _ _ _ _
  obtain ⟨k0, k1, k2, k3, k4, k5, -, -, -, -, -, -⟩ := SX.out
  have HT := hid t
  have HF := hid hf
  have HB0 := hid hb0
  have HQ := hid hq
  have HS := hid hs
  clear t hf hb0 hq hs
  go_enter Try.func56, Try.ntmps56
  go_wp2_with fail
  refine HI.out.mono ?_
  rintro r w1 ⟨b, rfl, hb, hg1⟩
  have B1 := hid (bl_step HB0.out hg1.below)
  have S1 := hid (SX.out.step hg1.below)
  have HBI := hid hb
  clear hb hg1 HI k0 k1 k2 k3 k4 k5 SX HB0
  cases b with
  | false =>
    have HNG : Hid (¬ GoodM keys e) := fun h => by have := HBI.out.2 h; cases this
    have HE := hid (mchg_keep HT.out B1.out (show hasCM keys T e = 6 by unfold hasCM; rw [if_neg HNG.out]) (by decide))
    go_wp2
    go_ret
    exact HE.out
  | true =>
    have HG := hid (HBI.out.1 rfl)
    have HP := hid (mplace_any (HT.out.step B1.out) (HF.out.step B1.out) HG.out hn)
    obtain ⟨k0, k1, k2, k3, k4, k5, -, -, -, -, -, -⟩ := S1.out
    go_wp2_with fail
    refine HP.out.mono ?_
    rintro r w2 ⟨i, fb, rfl, hcut, hfo, hg2⟩
    have hfo' := hfo.trans (cut_found HT.out.ok.srt hcut)
    have B2 := hid (bl_step B1.out hg2.below)
    have HCUT := hid hcut
    have HFO := hid hfo
    have HFO' := hid hfo'
    clear hcut hfo hfo' hg2 HP k0 k1 k2 k3 k4 k5 S1 B1
    cases fb with
    | false =>
      have HNS : Hid (¬ ∃ x ∈ T, SameP x e) := fun h => by have := HFO'.out.2 h; cases this
      have HE := hid (mchg_keep HT.out B2.out (show hasCM keys T e = 9 by unfold hasCM; rw [if_pos HG.out, if_neg HNS.out]) (by decide))
      go_wp2
      go_ret
      exact HE.out
    | true =>
      obtain ⟨x, hx, hxe⟩ := HFO.out.1 rfl
      have hql : q < w.heap.size := World.block_lt_of_cell? w _ HQ.out
      have HD := hid (mchg1_any (HT.out.step B2.out) (HF.out.step B2.out) ((B2.out.cell (p := ⟨q, 0, none⟩) hql).trans HQ.out) (HS.out.step B2.out) hx ((cmpE_eq _ _).1 hxe) HG.out)
      have HCO : Hid (hasCM keys T e = 0) := by show hasCM keys T e = 0; unfold hasCM; rw [if_pos HG.out, if_pos (HFO'.out.1 rfl)]
      clear hx hxe
      go_wp2_with (go_at_call 57; refine HD.out.mono ?_; rintro r w3 ⟨rfl, t3⟩)
      have HE : Hid (MChgDone w w3 B p keys most T e (.returned (.int .i64 0))) := by
        refine ⟨by rw [HCO.out], ?_, t3.2.after B2.out (World.block_lt_of_cell? w _ HT.out.c0)⟩
        unfold chgTM
        rw [if_pos HCO.out, cut_is HCUT.out]
        exact ⟨t3.1.t, (B2.out.mono HT.out.small).trans t3.1.bel, t3.2.after B2.out (World.block_lt_of_cell? w _ HT.out.c0)⟩
      clear t3 HD
      go_ret
      exact HE.out

set_option maxHeartbeats 1000000 in
set_option maxRecDepth 20000 in
theorem mchg_any {w : World} {B p : Nat} {keys most : Int} {T : List TE} {f : MD} {e : TE} (t : MTab w B p keys most T) (hf : f.good w e) (hn : T.length ≤ 100000) :
    Calls Try.prog 30 #[.pointer (some ⟨p, 0, none⟩), f.ev] w fun r w' => MChgDone w w' B p keys most T e r := by
  have hb0 := bl_alloc (o := f.ec) (bl_alloc (o := PCT p) (Below.refl w.heap.size w))
  have q0 : ((w.alloc (PCT p)).alloc f.ec).cell? ⟨w.heap.size, 0, none⟩ = some (.pointer (some ⟨p, 0, none⟩)) := by simp
  have SX : Six ((w.alloc (PCT p)).alloc f.ec) (w.alloc (PCT p)).heap.size (.slice f.ka f.kn f.kc) (.slice f.ma f.mn f.mc) (.int .i64 f.ln) (.int .i64 f.pr) (.int .i64 f.ac) (.slice f.a f.n f.c) := six_new _ _ _ _ _ _ _ _
  rw [show (w.alloc (PCT p)).heap.size = w.heap.size + 1 from by simp] at SX
  have HW := hid (mwith_chg (t.step hb0) (hf.step hb0) hn q0 SX)
  obtain ⟨k0, k1, k2, k3, k4, k5, -, -, -, -, -, -⟩ := SX
  have HB0 := hid hb0
  have HT := hid t
  clear t hf hb0
  go_enter Try.func30, Try.ntmps30
  go_wp2_with fail
  refine HW.out.mono ?_
  rintro r w1 ⟨rfl, t1⟩
  have HE : Hid (MChgDone w w1 B p keys most T e (.returned (.int .i64 (hasCM keys T e)))) := ⟨rfl, ⟨t1.1.t, (HB0.out.mono HT.out.small).trans t1.1.bel, t1.2.after HB0.out (World.block_lt_of_cell? w _ HT.out.c0)⟩, t1.2.after HB0.out (World.block_lt_of_cell? w _ HT.out.c0)⟩
  clear t1 HW
  generalize hasCM keys T e = c at *
  go_wp2
  go_ret
  exact HE.out
end Go.Proofs.Ytlnkfgdepddmlac
