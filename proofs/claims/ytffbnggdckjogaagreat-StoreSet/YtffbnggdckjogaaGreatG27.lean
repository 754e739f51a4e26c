/- Texts of one chain, joined: KAll, KTo, KChg, MChg, MPerm, MLen, MApart. -/
import Derived.Test.YtffbnggdckjogaaGreatG19
import Derived.Test.YtffbnggdckjogaaGreatG3
import Derived.Test.YtffbnggdckjogaaGreatG21
import Derived.Test.YtffbnggdckjogaaGreatG20
namespace Go.Proofs.YtffbnggdckjogaaGreat
open Go.RowKit Mth
theorem MRow.entry {w : World} {B : Nat} {la : Option Addr} {n cap : Nat} {T : List TE} (h : MRow w B la n cap T) {i : Nat} {x : TE} (hx : T[i]? = Option.some x) : ∃ g, ∃ d : MD, la = Option.some ⟨g, 0, none⟩ ∧ d.at w g (i * 6) ∧ d.good w x ∧ d.new 0 ∧ d.ln = 0 := by
  have hi : i < n := by have := (List.getElem?_eq_some_iff.1 hx).1; have := h.len; omega
  obtain ⟨g, d, y, ea, hy, hat, hg, hn, hl⟩ := h.at i hi
  have : x = y := by rw [hx] at hy; exact Option.some.inj hy
  subst this
  exact ⟨g, d, ea, hat, hg, hn, hl⟩
theorem MRow.ents {w : World} {B : Nat} {la : Option Addr} {n cap : Nat} {T : List TE} (h : MRow w B la n cap T) : MEnts w la n T := by
  refine ⟨h.len, fun i e he => ?_⟩
  obtain ⟨g, d, ea, hat, hg, _, hl⟩ := h.entry he
  exact ⟨g, d, ea, hat, hg, hl⟩
theorem mhas_grown {wA w6 : World} {la : Option Addr} {n cap : Nat} (hg : wA.grownBy w6 (Value.slice la n cap).ownBlock) (hh : ∀ ad, la = some ad → ∃ a m c, wA.cell? ⟨ad.block, 0, none⟩ = some (.slice a m c)) {a : Option Addr} {m : Nat} {zs : List Int} (f : From 0 a m) (h : Has .u64 wA a m zs) : Has .u64 w6 a m zs := by
  refine ⟨h.1, h.2.1, ?_⟩
  by_cases h0 : 0 < m
  · obtain ⟨b, off, rfl, hlt, hc⟩ := h.some h0
    obtain ⟨b', off', e, _, hz⟩ := f h0
    simp only [Option.some.injEq, Addr.mk.injEq, and_true] at e
    obtain ⟨rfl, rfl⟩ := e
    subst hz
    have h00 := hc 0 h0
    rw [Nat.zero_add] at h00
    have hbg : some b ≠ (Value.slice la n cap).ownBlock := fun e => by
      cases la with
      | none => cases e
      | some ad =>
        obtain ⟨a', m', c', hc'⟩ := hh ad rfl
        have : b = ad.block := by simpa [Value.ownBlock] using e
        rw [← this, h00] at hc'
        cases hc'
    exact .inr ⟨b, 0, rfl, Nat.lt_of_lt_of_le hlt hg.size, fun i hi => (World.cell?_of_block (w := wA) (w' := w6) (a := ⟨b, 0 + i, none⟩) (hg.block b hlt hbg)).trans (hc i hi)⟩
  · exact .inl (List.eq_nil_of_length_eq_zero (by have := h.1; omega))
end Go.Proofs.YtffbnggdckjogaaGreat

namespace Go.Proofs.YtffbnggdckjogaaGreat
open Go.RowKit Mth
structure KTo (w w' : World) (B r : Nat) (keys most : Int) (E : List TE) : Prop where
  t : KRws w' B r keys most E
  bel : Below B w w'
  fr : Fr w w' r 4
theorem KRws.small {w : World} {B r : Nat} {keys most : Int} {E : List TE} (t : KRws w B r keys most E) : B ≤ w.heap.size :=
  Nat.le_trans t.base (Nat.le_of_lt (World.block_lt_of_cell? w _ t.hd.c0))
theorem KTo.same {w w' : World} {B r : Nat} {keys most : Int} {E : List TE} (t : KRws w B r keys most E) (hb : Below w.heap.size w w') : KTo w w' B r keys most E :=
  ⟨t.step hb, hb.mono t.small, fr_below hb (World.block_lt_of_cell? w _ t.hd.c0)⟩
end Go.Proofs.YtffbnggdckjogaaGreat

namespace Go.Proofs.YtffbnggdckjogaaGreat
open Go.RowKit Mth
theorem mset_flat (ds : List MD) (i : Nat) (d : MD) (hi : i < ds.length) : ((((((ds.flatMap MD.cells).set (i * 6) (.slice d.ka d.kn d.kc)).set (i * 6 + 1) (.slice d.ma d.mn d.mc)).set (i * 6 + 2) (.int .i64 d.ln)).set (i * 6 + 3) (.int .i64 d.pr)).set (i * 6 + 4) (.int .i64 d.ac)).set (i * 6 + 5) (.slice d.a d.n d.c) = (ds.set i d).flatMap MD.cells := by
  induction ds generalizing i with
  | nil => simp at hi
  | cons x ds ih =>
    cases i with
    | zero => simp [List.flatMap_cons, MD.cells]
    | succ i =>
      have h := ih i (by simpa using hi)
      simp only [List.flatMap_cons, List.set_cons_succ]
      rw [← h]
      have e0 : (i + 1) * 6 = (MD.cells x).length + (i * 6) := by simp [MD.cells]; omega
      rw [e0]
      simp only [Nat.add_assoc, List.set_append_right, Nat.le_add_right, Nat.add_sub_cancel_left]
theorem mgrown_trans {a b c : World} {g : Nat} (h : a.grownBy b (some g)) (k : b.grownBy c (some g)) : a.grownBy c (some g) :=
  ⟨k.os.trans h.os, k.tape.trans h.tape, k.output.trans h.output, Nat.le_trans h.size k.size, fun i hi hne => (k.block i (Nat.lt_of_lt_of_le hi h.size) hne).trans (h.block i hi hne)⟩
theorem mown_six {w : World} {B g n cap i : Nat} {ds : List MD} (h : w.ownsRow B 38 6 (.slice (some ⟨g, 0, none⟩) n cap) n (ds.flatMap MD.cells)) (hi : i < ds.length) (d : MD) :
    ((((((w.setCell ⟨g, i * 6, none⟩ (.slice d.ka d.kn d.kc)).setCell ⟨g, i * 6 + 1, none⟩ (.slice d.ma d.mn d.mc)).setCell ⟨g, i * 6 + 2, none⟩ (.int .i64 d.ln)).setCell ⟨g, i * 6 + 3, none⟩ (.int .i64 d.pr)).setCell ⟨g, i * 6 + 4, none⟩ (.int .i64 d.ac)).setCell ⟨g, i * 6 + 5, none⟩ (.slice d.a d.n d.c)).ownsRow B 38 6 (.slice (some ⟨g, 0, none⟩) n cap) n ((ds.set i d).flatMap MD.cells) ∧
    w.grownBy ((((((w.setCell ⟨g, i * 6, none⟩ (.slice d.ka d.kn d.kc)).setCell ⟨g, i * 6 + 1, none⟩ (.slice d.ma d.mn d.mc)).setCell ⟨g, i * 6 + 2, none⟩ (.int .i64 d.ln)).setCell ⟨g, i * 6 + 3, none⟩ (.int .i64 d.pr)).setCell ⟨g, i * 6 + 4, none⟩ (.int .i64 d.ac)).setCell ⟨g, i * 6 + 5, none⟩ (.slice d.a d.n d.c)) (some g) := by
  have h1 := h.stored (i * 6) (.slice d.ka d.kn d.kc)
  have h2 := h1.1.stored (i * 6 + 1) (.slice d.ma d.mn d.mc)
  have h3 := h2.1.stored (i * 6 + 2) (.int .i64 d.ln)
  have h4 := h3.1.stored (i * 6 + 3) (.int .i64 d.pr)
  have h5 := h4.1.stored (i * 6 + 4) (.int .i64 d.ac)
  have h6 := h5.1.stored (i * 6 + 5) (.slice d.a d.n d.c)
  have e := mset_flat ds i d hi
  rw [e] at h6
  exact ⟨h6.1, mgrown_trans h1.2 (mgrown_trans h2.2 (mgrown_trans h3.2 (mgrown_trans h4.2 (mgrown_trans h5.2 h6.2))))⟩
theorem mrow_set {wA w6 : World} {B n cap g j : Nat} {T : List TE} {ds : List MD} {d : MD} {e : TE} (hr : MRow wA B (some ⟨g, 0, none⟩) n cap T) (hlen : ds.length = n) (hgood : ∀ (i : Nat) (d : MD) (e : TE), ds[i]? = some d → T[i]? = some e → d.good wA e ∧ d.new 0 ∧ d.ln = 0) (hd : d.good wA e) (hn : d.new 0) (hln : d.ln = 0) (hj : j < n)
    (hg : wA.grownBy w6 (some g)) (ho : w6.ownsRow B 38 6 (.slice (some ⟨g, 0, none⟩) n cap) n ((ds.set j d).flatMap MD.cells)) : MRow w6 B (some ⟨g, 0, none⟩) n cap (T.set j e) := by
  have hT := hr.len
  have hh : ∀ ad, some (⟨g, 0, none⟩ : Addr) = some ad → ∃ a m c, wA.cell? ⟨ad.block, 0, none⟩ = some (.slice a m c) := fun ad e => by cases e; exact hr.2 g rfl
  refine ⟨⟨ds.set j d, by simp [hlen], by simp [hT], ho, fun i d' e' hd' he' => ?_⟩, fun g' eg => ?_⟩
  · have key : d'.good wA e' ∧ d'.new 0 ∧ d'.ln = 0 := by
      by_cases hi : i = j
      · subst hi
        rw [List.getElem?_set_self (by omega)] at hd' he'
        simp only [Option.some.injEq] at hd' he'
        subst hd'; subst he'
        exact ⟨hd, hn, hln⟩
      · rw [List.getElem?_set_ne (fun e => hi e.symm)] at hd' he'
        exact hgood i d' e' hd' he'
    exact ⟨key.1.keep key.2.1 (fun a m zs f h => mhas_grown (la := some ⟨g, 0, none⟩) (n := n) (cap := cap) hg hh f h), key.2⟩
  · have e1 : g = g' := by simpa using eg
    subst e1
    have h0 : w6.cell? ⟨g, 0, none⟩ = ((ds.set j d).flatMap MD.cells)[0]? := by rw [ho.cellAt 0 (by omega)]
    have h1 := mflat_at (ds.set j d) 0 0 (by simp; omega) (by omega)
    simp only [Nat.mul_zero, Nat.add_zero] at h1
    rw [h1] at h0
    exact ⟨_, _, _, h0⟩
end Go.Proofs.YtffbnggdckjogaaGreat

namespace Go.Proofs.YtffbnggdckjogaaGreat
open Go.RowKit Mth
def keyE (e : TE) : Int × List Int × List Int := (e.pr, e.ks, e.ms)
theorem keyE_same {x e : TE} (h : SameP x e) : keyE x = keyE e := by
  obtain ⟨h1, h2, h3⟩ := h
  simp [keyE, h1, h2, h3]
theorem pair_keys {R : TE → TE → Prop} (hR : ∀ a b a' b', keyE a = keyE a' → keyE b = keyE b' → R a b → R a' b') {T T' : List TE} (hk : T.map keyE = T'.map keyE) (h : T.Pairwise R) : T'.Pairwise R := by
  induction T generalizing T' with
  | nil => cases T' with
    | nil => exact .nil
    | cons _ _ => simp at hk
  | cons a T ih =>
    cases T' with
    | nil => simp at hk
    | cons a' T' =>
      simp only [List.map_cons, List.cons.injEq] at hk
      obtain ⟨ha, hT⟩ := hk
      rw [List.pairwise_cons] at h ⊢
      refine ⟨fun b' hb' => ?_, ih hT h.2⟩
      have : keyE b' ∈ T.map keyE := by rw [hT]; exact List.mem_map_of_mem hb'
      obtain ⟨b, hb, e⟩ := List.mem_map.1 this
      exact hR a b a' b' ha e (h.1 b hb)
theorem set_keys {T : List TE} {i : Nat} {x e : TE} (hx : T[i]? = some x) (hs : SameP x e) : T.map keyE = (T.set i e).map keyE := by
  rw [List.map_set]
  refine List.ext_getElem? fun j => ?_
  by_cases hj : i = j
  · subst hj
    rw [List.getElem?_set_self (by rw [List.length_map]; exact (List.getElem?_eq_some_iff.1 hx).1), List.getElem?_map, hx, Option.map_some, keyE_same hs]
  · rw [List.getElem?_set_ne hj]
theorem okM_set {keys most : Int} {T : List TE} {i : Nat} {x e : TE} (h : OkM keys most T) (hx : T[i]? = some x) (hs : SameP x e) (hg : GoodM keys e) : OkM keys most (T.set i e) := by
  refine ⟨pair_keys ?_ (set_keys hx hs) h.srt, fun y hy => ?_, pair_keys ?_ (set_keys hx hs) h.apart, by rw [List.length_set]; exact h.few⟩
  · intro a b a' b' ha hb hr
    simp only [keyE, Prod.mk.injEq] at ha hb
    unfold cmpE at hr ⊢
    rw [← ha.1, ← ha.2.1, ← ha.2.2, ← hb.1, ← hb.2.1, ← hb.2.2]
    exact hr
  · rcases List.mem_or_eq_of_mem_set hy with h' | h'
    · exact h.good y h'
    · rw [h']; exact hg
  · intro a b a' b' ha hb hr
    simp only [keyE, Prod.mk.injEq] at ha hb
    unfold Meets at hr ⊢
    rw [← ha.1, ← ha.2.1, ← ha.2.2, ← hb.1, ← hb.2.1, ← hb.2.2]
    exact hr
theorem mtab_set {w wA w6 : World} {B p g cap : Nat} {keys most : Int} {T T' : List TE} (t : MTab w B p keys most T) (hb : Below w.heap.size w wA) (h2 : w.cell? ⟨p, 2, none⟩ = some (.slice (some ⟨g, 0, none⟩) T.length cap)) (hg : wA.grownBy w6 (some g)) (hr' : MRow w6 B (some ⟨g, 0, none⟩) T.length cap T') (hok : OkM keys most T') : MTo w w6 B p keys most T' ∧ Fr w w6 p 2 := by
  have hpl : p < w.heap.size := World.block_lt_of_cell? w _ t.c0
  obtain ⟨la2, cap2, h22, hrow⟩ := t.lst
  rw [h2] at h22
  simp only [Option.some.injEq, Value.slice.injEq, true_and] at h22
  obtain ⟨rfl, rfl⟩ := h22
  have hrA := hrow.step hb
  have tA := t.step hb
  have hE := hr'.len
  have hpg : p ≠ g := fun e => by
    obtain ⟨a', m', c', hc'⟩ := hrA.2 g rfl
    rw [← e, tA.c0] at hc'
    cases hc'
  have hpp : w6.heap[p]? = wA.heap[p]? := hg.block p (Nat.lt_of_lt_of_le hpl hb.size) (fun e => hpg (Option.some.inj e))
  have cs : ∀ i, w6.cell? ⟨p, i, none⟩ = wA.cell? ⟨p, i, none⟩ := fun i => World.cell?_of_block (w := wA) (w' := w6) (a := ⟨p, i, none⟩) hpp
  have c2 : w6.cell? ⟨p, 2, none⟩ = some (.slice (some ⟨g, 0, none⟩) T.length cap) := (cs 2).trans ((hb.cell (p := ⟨p, 2, none⟩) hpl).trans h2)
  have F : Fr w w6 p 2 := by
    refine ⟨?_, fun k hk _ hkg => ?_, fun g' n c h => ?_⟩
    · have := hb.size; have := hg.size; omega
    · rw [hg.block k (Nat.lt_of_lt_of_le hk hb.size) (fun e => hkg g _ _ h2 (Option.some.inj e))]
      exact hb.block k hk
    · rw [c2] at h
      simp only [Option.some.injEq, Value.slice.injEq, Addr.mk.injEq, and_true] at h
      obtain ⟨rfl, _⟩ := h
      exact .inl ⟨_, _, h2⟩
  refine ⟨⟨⟨(cs 0).trans tA.c0, (cs 1).trans tA.c1, ?_, t.base, ⟨some ⟨g, 0, none⟩, cap, by rw [hE]; exact c2, by rw [hE]; exact hr'⟩, hok⟩, ?_, F⟩, F⟩
  · exact (World.frozen?_of_block (w := wA) (w' := w6) (a := ⟨p, 2, none⟩) hpp).trans ((hb.frozen (p := ⟨p, 2, none⟩) hpl).trans t.f2)
  · exact (hb.mono t.small).grown hg (Nat.le_trans t.small hb.size) (fun k hk => by cases hk; exact (hrow.lt g rfl).1)
set_option maxHeartbeats 4000000 in
set_option maxRecDepth 20000 in
theorem mchg1_any {w : World} {B p q s i : Nat} {keys most : Int} {T : List TE} {f : MD} {e x : TE} (t : MTab w B p keys most T) (hf : f.good w e) (hq : w.cell? ⟨q, 0, none⟩ = some (.pointer (some ⟨p, 0, none⟩)))
    (hs : Six w s (.slice f.ka f.kn f.kc) (.slice f.ma f.mn f.mc) (.int .i64 f.ln) (.int .i64 f.pr) (.int .i64 f.ac) (.slice f.a f.n f.c)) (hx : T[i]? = some x) (hsx : SameP x e) (hg : GoodM keys e) :
    Calls Tryz.prog 126 #[.int .i64 i, .pointer (some ⟨s, 0, none⟩), .pointer (some ⟨q, 0, none⟩)] w fun r w' => r = .returned (.tuple #[]) ∧ MTo w w' B p keys most (T.set i e) ∧ Fr w w' p 2 := by
  have hil : i < T.length := (List.getElem?_eq_some_iff.1 hx).1
  have hj0 : ¬ (i : Int) < 0 := by omega
  have hjn : (i : Int) < (T.length : Int) := by omega
  obtain ⟨la, cap, p2, hrow⟩ := t.lst
  have HROW := hid hrow
  obtain ⟨g, d0, y0, e0, -, hat, -, -, -⟩ := hrow.at i hil
  subst e0
  have HAT := hid hat
  obtain ⟨⟨ds, dl, -, dow, dgd⟩, -⟩ := hrow
  have DG := hid dgd
  have DOW := hid dow
  have hbd : Below w.heap.size w w.drew := (Below.refl _ _).drew
  have hpl : p < w.heap.size := World.block_lt_of_cell? w _ p2
  have hql : q < w.heap.size := World.block_lt_of_cell? w _ hq
  have HCP := hid (mcopied_any (hf.step hbd))
  have HT := hid t
  have HF := hid hf
  have HX := hid hx
  have HSX := hid hsx
  have HG := hid hg
  obtain ⟨k0, k1, k2, k3, k4, k5, -, -, -, -, -, -⟩ := hs
  have H2 := hid p2
  clear t hf hat dow dgd hx hsx hg
  go_enter Tryz.func126, Tryz.ntmps126
  go_wp2_with fail
  go_region_with (go_at_call 124; refine HCP.out.mono ?_; rintro r w4 ⟨d, rfl, hgd, hnew, hln, hb4⟩; have HLN := hid hln; clear hln; have p4 : w4.cell? ⟨p, 2, none⟩ = some (.slice (some ⟨g, 0, none⟩) T.length cap) := ((bl_step hbd hb4).cell (p := ⟨p, 2, none⟩) hpl).trans p2; have q4 : w4.cell? ⟨q, 0, none⟩ = some (.pointer (some ⟨p, 0, none⟩)) := ((bl_step hbd hb4).cell (p := ⟨q, 0, none⟩) hql).trans hq; have OW4 := hid (owns_below DOW.out (bl_step hbd hb4)); have fr0 := OW4.out.frozenAt (i * 6); have fr1 := OW4.out.frozenAt (i * 6 + 1); have fr2 := OW4.out.frozenAt (i * 6 + 2); have fr3 := OW4.out.frozenAt (i * 6 + 3); have fr4 := OW4.out.frozenAt (i * 6 + 4); have fr5 := OW4.out.frozenAt (i * 6 + 5); obtain ⟨q0, q1, q2, q3, q5, q6⟩ := HAT.out.step (bl_step hbd hb4))
  all_goals
    have hS := mown_six OW4.out (i := i) (by omega) d
    have hbA := bl_step hbd hb4
    have HEND : Hid (MTo w ((((((w4.setCell ⟨g, i * 6, none⟩ (.slice d.ka d.kn d.kc)).setCell ⟨g, i * 6 + 1, none⟩ (.slice d.ma d.mn d.mc)).setCell ⟨g, i * 6 + 2, none⟩ (.int .i64 d.ln)).setCell ⟨g, i * 6 + 3, none⟩ (.int .i64 d.pr)).setCell ⟨g, i * 6 + 4, none⟩ (.int .i64 d.ac)).setCell ⟨g, i * 6 + 5, none⟩ (.slice d.a d.n d.c)) B p keys most (T.set i e) ∧ Fr w ((((((w4.setCell ⟨g, i * 6, none⟩ (.slice d.ka d.kn d.kc)).setCell ⟨g, i * 6 + 1, none⟩ (.slice d.ma d.mn d.mc)).setCell ⟨g, i * 6 + 2, none⟩ (.int .i64 d.ln)).setCell ⟨g, i * 6 + 3, none⟩ (.int .i64 d.pr)).setCell ⟨g, i * 6 + 4, none⟩ (.int .i64 d.ac)).setCell ⟨g, i * 6 + 5, none⟩ (.slice d.a d.n d.c)) p 2) :=
      mtab_set HT.out hbA H2.out hS.2 (mrow_set (HROW.out.step hbA) dl (fun i d e hd he => ⟨(DG.out i d e hd he).1.step hbA, (DG.out i d e hd he).2⟩) hgd (hnew.mono (Nat.zero_le _)) HLN.out hil hS.2 hS.1) (okM_set HT.out.ok HX.out HSX.out HG.out)
    clear hS hgd hnew hb4 HCP OW4 hbA
    go_wp2
    go_end0
    exact ⟨rfl, HEND.out⟩
def chgTM (keys : Int) (T : List TE) (e : TE) : List TE := if hasCM keys T e = 0 then T.set (cutI T e) e else T
def MChgDone (w w' : World) (B p : Nat) (keys most : Int) (T : List TE) (e : TE) (r : Ending) : Prop := r = .returned (.int .i64 (hasCM keys T e)) ∧ MTo w w' B p keys most (chgTM keys T e) ∧ Fr w w' p 2
theorem mchg_keep {w w' : World} {B p : Nat} {keys most : Int} {T : List TE} {e : TE} {c : Int} (t : MTab w B p keys most T) (hb : Below w.heap.size w w') (hc : hasCM keys T e = c) (h0 : c ≠ 0) : MChgDone w w' B p keys most T e (.returned (.int .i64 c)) := by
  refine ⟨by rw [hc], ?_, fr_below hb (World.block_lt_of_cell? w _ t.c0)⟩
  unfold chgTM
  rw [if_neg (by rw [hc]; exact h0)]
  exact MTo.same t hb
end Go.Proofs.YtffbnggdckjogaaGreat

namespace Go.Proofs.YtffbnggdckjogaaGreat
open Go.RowKit Mth
theorem perm_ex {α : Type} {T E : List α} (h : T.Perm E) (P : α → Prop) : (∃ x ∈ T, P x) ↔ ∃ x ∈ E, P x :=
  ⟨fun ⟨x, hx, hp⟩ => ⟨x, h.mem_iff.1 hx, hp⟩, fun ⟨x, hx, hp⟩ => ⟨x, h.mem_iff.2 hx, hp⟩⟩
theorem addC_perm {T E : List TE} (h : T.Perm E) (keys most : Int) (e : TE) : addCM keys most T e = addCM keys most E e := by
  have h1 := perm_ex h fun x => SameP x e
  have h2 : ClashM T e ↔ ClashM E e := perm_ex h fun x => x.pr = e.pr ∧ Meets x e
  unfold addCM
  simp only [h1, h2, h.length_eq]
theorem add_perm {T E : List TE} (h : T.Perm E) (i : Nat) (e : TE) : (T.take i ++ e :: T.drop i).Perm (E ++ [e]) := by
  refine List.perm_middle.trans ?_
  rw [List.take_append_drop]
  exact (h.cons e).trans (List.perm_append_singleton e E).symm
theorem sorted_same {T : List TE} (h : SortedM T) {x y : TE} (hx : x ∈ T) (hy : y ∈ T) (hs : SameP x y) : x = y := by
  obtain ⟨i, hi, rfl⟩ := List.getElem_of_mem hx
  obtain ⟨j, hj, rfl⟩ := List.getElem_of_mem hy
  have h0 := (cmpE_eq _ _).2 hs
  rcases Nat.lt_trichotomy i j with q | q | q
  · have := sorted_at h q (List.getElem?_eq_getElem hi) (List.getElem?_eq_getElem hj)
    omega
  · subst q; rfl
  · have := sorted_at h q (List.getElem?_eq_getElem hj) (List.getElem?_eq_getElem hi)
    rw [cmpE_flip] at this
    omega
end Go.Proofs.YtffbnggdckjogaaGreat

namespace Go.Proofs.YtffbnggdckjogaaGreat
open Go.RowKit Mth
set_option maxHeartbeats 1000000 in
set_option maxRecDepth 20000 in
theorem mlen_any {w : World} {B p : Nat} {keys most : Int} {T : List TE} (t : MTab w B p keys most T) :
    Calls Tryz.prog 119 #[.pointer (some ⟨p, 0, none⟩)] w fun r w' => r = .returned (.int .i64 T.length) ∧ w' = w := by
  obtain ⟨la, cap, p2, -⟩ := t.lst
  clear t
  go_enter Tryz.func119, Tryz.ntmps119
  go_wp2
  go_ret
  exact ⟨rfl, rfl⟩
end Go.Proofs.YtffbnggdckjogaaGreat

namespace Go.Proofs.YtffbnggdckjogaaGreat
open Go.RowKit Mth
theorem has_kept {w w' : World} {X : Nat → Prop} (hs : w.heap.size ≤ w'.heap.size) (hk : ∀ k, k < w.heap.size → ¬ X k → w'.heap[k]? = w.heap[k]?) (hX : ∀ k x, X k → w.cell? ⟨k, 0, none⟩ ≠ some (.int .u64 x)) {a : Option Addr} {m : Nat} {zs : List Int} (f : From 0 a m) (h : Has .u64 w a m zs) : Has .u64 w' a m zs := by
  refine ⟨h.1, h.2.1, ?_⟩
  by_cases h0 : 0 < m
  · obtain ⟨b, off, rfl, hlt, hc⟩ := h.some h0
    obtain ⟨b', off', e, _, hz⟩ := f h0
    simp only [Option.some.injEq, Addr.mk.injEq, and_true] at e
    obtain ⟨rfl, rfl⟩ := e
    subst hz
    have h00 := hc 0 h0
    rw [Nat.zero_add] at h00
    have hblk := hk b hlt (fun hx => hX b _ hx h00)
    exact .inr ⟨b, 0, rfl, Nat.lt_of_lt_of_le hlt hs, fun i hi => (World.cell?_of_block (w := w) (w' := w') (a := ⟨b, 0 + i, none⟩) hblk).trans (hc i hi)⟩
  · exact .inl (List.eq_nil_of_length_eq_zero (by have := h.1; omega))
def Two (w : World) (p o k : Nat) : Prop := k = p ∨ ∃ n c, w.cell? ⟨p, o, none⟩ = some (.slice (some ⟨k, 0, none⟩) n c)
theorem Fr.two {w w' : World} {p o : Nat} (h : Fr w w' p o) {k : Nat} (hk : k < w.heap.size) (h2 : ¬ Two w p o k) : w'.heap[k]? = w.heap[k]? :=
  h.kept k hk (fun e => h2 (.inl e)) (fun g n c hg e => h2 (.inr ⟨n, c, by rw [e]; exact hg⟩))
theorem MTab.two {w : World} {B p : Nat} {keys most : Int} {T : List TE} (t : MTab w B p keys most T) {k : Nat} (h : Two w p 2 k) : (k = p ∧ w.cell? ⟨k, 0, none⟩ = some (.int .i64 keys)) ∨ (∃ a m c, w.cell? ⟨k, 0, none⟩ = some (.slice a m c)) := by
  rcases h with rfl | ⟨n, c, h⟩
  · exact .inl ⟨rfl, t.c0⟩
  · obtain ⟨la, cap, h2, hr⟩ := t.lst
    rw [h2] at h
    simp only [Option.some.injEq, Value.slice.injEq] at h
    exact .inr (hr.2 k h.1)
theorem KRws.two {w : World} {B r : Nat} {keys most : Int} {E : List TE} (t : KRws w B r keys most E) {k : Nat} (h : Two w r 4 k) : (k = r ∧ w.cell? ⟨k, 0, none⟩ = some (.int .i64 3)) ∨ (∃ a m c, w.cell? ⟨k, 0, none⟩ = some (.slice a m c)) := by
  rcases h with rfl | ⟨n, c, h⟩
  · exact .inl ⟨rfl, t.hd.c0⟩
  · obtain ⟨la, cap, h2, hr⟩ := t.lst
    rw [h2] at h
    simp only [Option.some.injEq, Value.slice.injEq] at h
    exact .inr (hr.2 k h.1)
theorem MTab.two_lt {w : World} {B p : Nat} {keys most : Int} {T : List TE} (t : MTab w B p keys most T) {k : Nat} (h : Two w p 2 k) : k < w.heap.size := by
  rcases t.two h with ⟨_, h⟩ | ⟨_, _, _, h⟩ <;> exact World.block_lt_of_cell? w _ h
theorem KRws.two_lt {w : World} {B r : Nat} {keys most : Int} {E : List TE} (t : KRws w B r keys most E) {k : Nat} (h : Two w r 4 k) : k < w.heap.size := by
  rcases t.two h with ⟨_, h⟩ | ⟨_, _, _, h⟩ <;> exact World.block_lt_of_cell? w _ h
theorem MTab.num {w : World} {B p : Nat} {keys most : Int} {T : List TE} (t : MTab w B p keys most T) (k : Nat) (x : Int) (h : Two w p 2 k) : w.cell? ⟨k, 0, none⟩ ≠ some (.int .u64 x) := by
  rcases t.two h with ⟨_, h⟩ | ⟨_, _, _, h⟩ <;> rw [h] <;> simp
theorem KRws.num {w : World} {B r : Nat} {keys most : Int} {E : List TE} (t : KRws w B r keys most E) (k : Nat) (x : Int) (h : Two w r 4 k) : w.cell? ⟨k, 0, none⟩ ≠ some (.int .u64 x) := by
  rcases t.two h with ⟨_, h⟩ | ⟨_, _, _, h⟩ <;> rw [h] <;> simp
def Apart (w : World) (p r : Nat) : Prop := ∀ k, Two w p 2 k → ¬ Two w r 4 k
theorem two_stay {w w' : World} {p o : Nat} (h : w'.heap[p]? = w.heap[p]?) (k : Nat) : Two w' p o k ↔ Two w p o k := by
  unfold Two
  rw [World.cell?_of_block (w := w) (w' := w') (a := ⟨p, o, none⟩) h]
theorem Fr.more {w w' : World} {p o : Nat} (h : Fr w w' p o) {k : Nat} (h2 : Two w' p o k) : Two w p o k ∨ w.heap.size ≤ k := by
  rcases h2 with h2 | ⟨n, c, h2⟩
  · exact .inl (.inl h2)
  · rcases h.new k n c h2 with ⟨n', c', h3⟩ | h3
    · exact .inl (.inr ⟨n', c', h3⟩)
    · exact .inr h3
theorem Apart.step {w w' : World} {B p r : Nat} {keys most : Int} {T E : List TE} (h : Apart w p r) (t : MTab w B p keys most T) (s : KRws w B r keys most E) (hb : Below w.heap.size w w') : Apart w' p r := by
  have hp := World.block_lt_of_cell? w _ t.c0
  have hr := World.block_lt_of_cell? w _ s.hd.c0
  intro k h1 h2
  rw [two_stay (hb.block p hp)] at h1
  rw [two_stay (hb.block r hr)] at h2
  exact h k h1 h2
end Go.Proofs.YtffbnggdckjogaaGreat
