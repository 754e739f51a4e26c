/- What Drop of a table by masks does. -/
import Derived.Test.YtlnkfgdepddmlacMAdd2
namespace Go.Proofs.Ytlnkfgdepddmlac
open Go.RowKit Mth

theorem erase_parts {α : Type} (l : List α) (i : Nat) : l.eraseIdx i = l.take i ++ l.drop (i + 1) := List.eraseIdx_eq_take_drop_succ l i

theorem at_erase {α : Type} {l : List α} {i j : Nat} {y : α} (h : (l.eraseIdx i)[j]? = some y) : (j < i ∧ l[j]? = some y) ∨ (i ≤ j ∧ l[j + 1]? = some y) := by
  rw [List.getElem?_eraseIdx] at h
  split at h
  · exact .inl ⟨by assumption, h⟩
  · exact .inr ⟨by omega, h⟩

theorem mdrop_end {w wA w6 : World} {B p : Nat} {keys most : Int} {T : List TE} {cap g i : Nat} {ds : List MD} (t : MTab w B p keys most T) (hb : Below w.heap.size w wA) (h2 : w.cell? ⟨p, 2, none⟩ = some (.slice (some ⟨g, 0, none⟩) T.length cap))
    (hlen : ds.length = T.length) (hgd : ∀ (i : Nat) (d : MD) (e : TE), ds[i]? = some d → T[i]? = some e → d.good wA e ∧ d.new 0 ∧ d.ln = 0) (hi : i < T.length) {m : Nat} (hm : m + 1 = T.length)
    (hgr : wA.grownBy w6 (some g)) (ho : w6.ownsRow B 33 6 (.slice (some ⟨g, 0, none⟩) m cap) m ((ds.flatMap MD.cells).take (i * 6) ++ (ds.flatMap MD.cells).drop ((i + 1) * 6))) (h0 : m = 0 → w6.cell? ⟨g, 0, none⟩ = some (.slice none 0 0)) :
    MTo w (w6.setCell ⟨p, 2, none⟩ (.slice (some ⟨g, 0, none⟩) m cap)) B p keys most (T.eraseIdx i) := by
  rw [mflat_take, mflat_drop, ← List.flatMap_append, ← erase_parts] at ho
  have hl1 : (ds.eraseIdx i).length = m := by rw [List.length_eraseIdx, if_pos (by omega)]; omega
  have hl2 : (T.eraseIdx i).length = m := by rw [List.length_eraseIdx, if_pos hi]; omega
  refine mtab_new t hb h2 hgr ho hl1 hl2 (fun j d' e' hd' he' => ?_) ?_ (okM_drop t.ok i) (.inl rfl)
  · rcases at_erase hd' with ⟨q1, q2⟩ | ⟨q1, q2⟩ <;> rcases at_erase he' with ⟨r1, r2⟩ | ⟨r1, r2⟩ <;> first | omega | skip
    · exact hgd j d' e' q2 r2
    · exact hgd (j + 1) d' e' q2 r2
  · by_cases hm0 : m = 0
    · exact ⟨_, _, _, h0 hm0⟩
    · have hc : w6.cell? ⟨g, 0, none⟩ = ((ds.eraseIdx i).flatMap MD.cells)[0]? := by rw [ho.cellAt 0 (by omega)]
      have h1 := mflat_at (ds.eraseIdx i) 0 0 (by omega) (by omega)
      simp only [Nat.mul_zero, Nat.add_zero] at h1
      rw [h1] at hc
      exact ⟨_, _, _, hc⟩

set_option maxHeartbeats 4000000 in
set_option maxRecDepth 20000 in
theorem mdrop1_any {w : World} {B p q i : Nat} {keys most : Int} {T : List TE} (t : MTab w B p keys most T) (hq : w.cell? ⟨q, 0, none⟩ = some (.pointer (some ⟨p, 0, none⟩))) (hi : i < T.length) (hn : T.length ≤ 100000) :
    Calls Try.prog 58 #[.int .i64 i, .pointer (some ⟨q, 0, none⟩)] w fun r w' => r = .returned (.tuple #[]) ∧ MTo w w' B p keys most (T.eraseIdx i) := by
  obtain ⟨la, cap, p2, hrow⟩ := t.lst
  obtain ⟨g, rfl, -, -⟩ := hrow.some (by omega)
  have HROW := hid hrow
  obtain ⟨⟨ds, dl, -, dow, dgd⟩, -⟩ := hrow
  rcases own_some dow with ⟨h, _⟩ | ⟨g', cur, eg, hBg, -, hR, hnc, hm, hc, hx⟩
  · cases h
  · have eg' : g = g' := by simpa using eg
    subst eg'
    have hbd : Below w.heap.size w w.drew := (Below.refl _ _).drew
    obtain ⟨u, hu⟩ : ∃ u, u = i + 1 := ⟨_, rfl⟩
    have HDEL := hid (del_any (w := w.drew) hR hBg hm hc hx (mflat_one ds) hn hi hnc hu)
    have s1 : (i : Int) + 1 = (u : Int) := by omega
    have w1 : IntKind.i64.wrap (u : Int) = (u : Int) := wrap_small _ (by omega) (by omega)
    have HU := hid hu
    have HT := hid t
    have DG := hid dgd
    have H2 := hid p2
    have f2 := t.f2
    have hqg : q ≠ g := fun e => by
      obtain ⟨a', m', c', hc'⟩ := HROW.out.2 g rfl
      rw [← e, hq] at hc'
      cases hc'
    clear t dow dgd hR hx eg hu
    go_enter Try.func58, Try.ntmps58
    go_wp2_with fail
    go_region_law (first
      | (go_simp; go_at_call 59; refine HDEL.out.mono ?_; rintro r w6 ⟨m, hm6, rfl, ho6, hg6, h06⟩; have HM6 := hid hm6; clear hm6; obtain ⟨q6, qf⟩ := mstore_ok (HT.out.step hbd) (show w.drew.cell? ⟨p, 2, none⟩ = _ from H2.out) hg6; have qq : w6.cell? ⟨q, 0, none⟩ = some (.pointer (some ⟨p, 0, none⟩)) := hg6.cell (w := w.drew) hq (fun e => hqg (Option.some.inj e))))
    all_goals
      have HEND : Hid (MTo w (w6.setCell ⟨p, 2, none⟩ (.slice (some ⟨g, 0, none⟩) m cap)) B p keys most (T.eraseIdx i)) := by
        have hu := HU.out
        subst hu
        exact mdrop_end HT.out hbd H2.out dl (fun j d e hd he => ⟨(DG.out j d e hd he).1.step hbd, (DG.out j d e hd he).2⟩) hi HM6.out hg6 ho6 h06
      clear ho6 hg6 h06 HDEL
      go_wp2
      go_end0
      exact ⟨rfl, HEND.out⟩

def MDropDone (w w' : World) (B p : Nat) (keys most : Int) (T : List TE) (e : TE) (r : Ending) : Prop := r = .returned (.int .i64 (hasCM keys T e)) ∧ MTo w w' B p keys most (dropTM keys T e)

theorem mdrop_keep {w w' : World} {B p : Nat} {keys most : Int} {T : List TE} {e : TE} {c : Int} (t : MTab w B p keys most T) (hb : Below w.heap.size w w') (hc : hasCM keys T e = c) (h0 : c ≠ 0) : MDropDone w w' B p keys most T e (.returned (.int .i64 c)) := by
  refine ⟨by rw [hc], ?_⟩
  unfold dropTM
  rw [if_neg (by rw [hc]; exact h0)]
  exact MTo.same t hb

set_option maxHeartbeats 4000000 in
set_option maxRecDepth 20000 in
theorem mwith_drop {w : World} {B p q : Nat} {keys most : Int} {T : List TE} {f : MD} {e : TE} (t : MTab w B p keys most T) (hf : f.good w e) (hn : T.length ≤ 100000) (hq : w.cell? ⟨q, 0, none⟩ = some (.pointer (some ⟨p, 0, none⟩))) :
    Calls Try.prog 56 #[.pointer (some ⟨p, 0, none⟩), f.ev, .func (.func 58) #[] #[.pointer (some ⟨q, 0, none⟩)]] w fun r w' => MDropDone w w' B p keys most T e r := by
  have hb0 := bl_alloc (o := f.ec) (Below.refl w.heap.size w)
  have HI := hid (isEntry_any (t.step hb0).c0 (hf.step hb0))
  have SX : Hid (Six (w.alloc f.ec) w.heap.size (.slice f.ka f.kn f.kc) (.slice f.ma f.mn f.mc) (.int .i64 f.ln) (.int .i64 f.pr) (.int .i64 f.ac) (.slice f.a f.n f.c)) := six_new w _ _ _ _ _ _ _
  obtain ⟨k0, k1, k2, k3, k4, k5, -, -, -, -, -, -⟩ := SX.out
  have HT := hid t
  have HF := hid hf
  have HB0 := hid hb0
  have HQ := hid hq
  clear t hf hb0 hq
  go_enter Try.func56, Try.ntmps56
  go_wp2_with fail
  refine HI.out.mono ?_
  rintro r w1 ⟨b, rfl, hb, hg1⟩
  have B1 := hid (bl_step HB0.out hg1.below)
  have S1 := hid (SX.out.step hg1.below)
  have HBI := hid hb
  clear hb hg1 HI k0 k1 k2 k3 k4 k5 SX HB0
  cases b with
  | false =>
    have HNG : Hid (¬ GoodM keys e) := fun h => by have := HBI.out.2 h; cases this
    have HE := hid (mdrop_keep HT.out B1.out (show hasCM keys T e = 6 by unfold hasCM; rw [if_neg HNG.out]) (by decide))
    go_wp2
    go_ret
    exact HE.out
  | true =>
    have HG := hid (HBI.out.1 rfl)
    have HP := hid (mplace_any (HT.out.step B1.out) (HF.out.step B1.out) HG.out hn)
    obtain ⟨k0, k1, k2, k3, k4, k5, -, -, -, -, -, -⟩ := S1.out
    go_wp2_with fail
    refine HP.out.mono ?_
    rintro r w2 ⟨i, fb, rfl, hcut, hfo, hg2⟩
    have hfo' := hfo.trans (cut_found HT.out.ok.srt hcut)
    have B2 := hid (bl_step B1.out hg2.below)
    have HCUT := hid hcut
    have HFO := hid hfo
    have HFO' := hid hfo'
    clear hcut hfo hfo' hg2 HP k0 k1 k2 k3 k4 k5 S1 B1
    cases fb with
    | false =>
      have HNS : Hid (¬ ∃ x ∈ T, SameP x e) := fun h => by have := HFO'.out.2 h; cases this
      have HE := hid (mdrop_keep HT.out B2.out (show hasCM keys T e = 9 by unfold hasCM; rw [if_pos HG.out, if_neg HNS.out]) (by decide))
      go_wp2
      go_ret
      exact HE.out
    | true =>
      have hit : i < T.length := by
        obtain ⟨x, hx, _⟩ := HFO.out.1 rfl
        exact (List.getElem?_eq_some_iff.1 hx).1
      have hql : q < w.heap.size := World.block_lt_of_cell? w _ HQ.out
      have HD := hid (mdrop1_any (HT.out.step B2.out) ((B2.out.cell (p := ⟨q, 0, none⟩) hql).trans HQ.out) hit hn)
      have HCO : Hid (hasCM keys T e = 0) := by show hasCM keys T e = 0; unfold hasCM; rw [if_pos HG.out, if_pos (HFO'.out.1 rfl)]
      go_wp2_with (go_at_call 58; refine HD.out.mono ?_; rintro r w3 ⟨rfl, t3⟩)
      have HE : Hid (MDropDone w w3 B p keys most T e (.returned (.int .i64 0))) := by
        refine ⟨by rw [HCO.out], ?_⟩
        unfold dropTM
        rw [if_pos HCO.out, cut_is HCUT.out]
        exact ⟨t3.t, (B2.out.mono HT.out.small).trans t3.bel, t3.fr.after B2.out (World.block_lt_of_cell? w _ HT.out.c0)⟩
      clear t3 HD
      go_ret
      exact HE.out

abbrev PCT (p : Nat) : Obj := .cells #[.pointer (some ⟨p, 0, none⟩)] 54

set_option maxHeartbeats 1000000 in
set_option maxRecDepth 20000 in
theorem mdrop_any {w : World} {B p : Nat} {keys most : Int} {T : List TE} {f : MD} {e : TE} (t : MTab w B p keys most T) (hf : f.good w e) (hn : T.length ≤ 100000) :
    Calls Try.prog 31 #[.pointer (some ⟨p, 0, none⟩), f.ev] w fun r w' => MDropDone w w' B p keys most T e r := by
  have hb0 := bl_alloc (o := f.ec) (bl_alloc (o := PCT p) (Below.refl w.heap.size w))
  have q0 : ((w.alloc (PCT p)).alloc f.ec).cell? ⟨w.heap.size, 0, none⟩ = some (.pointer (some ⟨p, 0, none⟩)) := by simp
  have HW := hid (mwith_drop (t.step hb0) (hf.step hb0) hn q0)
  have SX : Six ((w.alloc (PCT p)).alloc f.ec) (w.alloc (PCT p)).heap.size (.slice f.ka f.kn f.kc) (.slice f.ma f.mn f.mc) (.int .i64 f.ln) (.int .i64 f.pr) (.int .i64 f.ac) (.slice f.a f.n f.c) := six_new _ _ _ _ _ _ _ _
  rw [show (w.alloc (PCT p)).heap.size = w.heap.size + 1 from by simp] at SX
  obtain ⟨k0, k1, k2, k3, k4, k5, -, -, -, -, -, -⟩ := SX
  have HB0 := hid hb0
  have HT := hid t
  clear t hf hb0
  go_enter Try.func31, Try.ntmps31
  go_wp2_with fail
  refine HW.out.mono ?_
  rintro r w1 ⟨rfl, t1⟩
  have HE : Hid (MDropDone w w1 B p keys most T e (.returned (.int .i64 (hasCM keys T e)))) := ⟨rfl, t1.t, (HB0.out.mono HT.out.small).trans t1.bel, t1.fr.after HB0.out (World.block_lt_of_cell? w _ HT.out.c0)⟩
  clear t1 HW
  generalize hasCM keys T e = c at *
  go_wp2
  go_ret
  exact HE.out
end Go.Proofs.Ytlnkfgdepddmlac
