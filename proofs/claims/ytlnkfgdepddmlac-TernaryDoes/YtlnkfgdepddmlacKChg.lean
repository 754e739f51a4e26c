/- What Change of the document's own table by masks does. -/
import Derived.Test.YtlnkfgdepddmlacKDrop
namespace Go.Proofs.Ytlnkfgdepddmlac
open Go.RowKit Mth

theorem mset_flat (ds : List MD) (i : Nat) (d : MD) (hi : i < ds.length) : ((((((ds.flatMap MD.cells).set (i * 6) (.slice d.ka d.kn d.kc)).set (i * 6 + 1) (.slice d.ma d.mn d.mc)).set (i * 6 + 2) (.int .i64 d.ln)).set (i * 6 + 3) (.int .i64 d.pr)).set (i * 6 + 4) (.int .i64 d.ac)).set (i * 6 + 5) (.slice d.a d.n d.c) = (ds.set i d).flatMap MD.cells := by
  induction ds generalizing i with
  | nil => simp at hi
  | cons x ds ih =>
    cases i with
    | zero => simp [List.flatMap_cons, MD.cells]
    | succ i =>
      have h := ih i (by simpa using hi)
      simp only [List.flatMap_cons, List.set_cons_succ]
      rw [← h]
      have e0 : (i + 1) * 6 = (MD.cells x).length + (i * 6) := by simp [MD.cells]; omega
      rw [e0]
      simp only [Nat.add_assoc, List.set_append_right, Nat.le_add_right, Nat.add_sub_cancel_left]

theorem mgrown_trans {a b c : World} {g : Nat} (h : a.grownBy b (some g)) (k : b.grownBy c (some g)) : a.grownBy c (some g) :=
  ⟨k.os.trans h.os, k.tape.trans h.tape, k.output.trans h.output, Nat.le_trans h.size k.size, fun i hi hne => (k.block i (Nat.lt_of_lt_of_le hi h.size) hne).trans (h.block i hi hne)⟩

/-- six stores into a row of one's own -/
theorem mown_six {w : World} {B g n cap i : Nat} {ds : List MD} (h : w.ownsRow B 33 6 (.slice (some ⟨g, 0, none⟩) n cap) n (ds.flatMap MD.cells)) (hi : i < ds.length) (d : MD) :
    ((((((w.setCell ⟨g, i * 6, none⟩ (.slice d.ka d.kn d.kc)).setCell ⟨g, i * 6 + 1, none⟩ (.slice d.ma d.mn d.mc)).setCell ⟨g, i * 6 + 2, none⟩ (.int .i64 d.ln)).setCell ⟨g, i * 6 + 3, none⟩ (.int .i64 d.pr)).setCell ⟨g, i * 6 + 4, none⟩ (.int .i64 d.ac)).setCell ⟨g, i * 6 + 5, none⟩ (.slice d.a d.n d.c)).ownsRow B 33 6 (.slice (some ⟨g, 0, none⟩) n cap) n ((ds.set i d).flatMap MD.cells) ∧
    w.grownBy ((((((w.setCell ⟨g, i * 6, none⟩ (.slice d.ka d.kn d.kc)).setCell ⟨g, i * 6 + 1, none⟩ (.slice d.ma d.mn d.mc)).setCell ⟨g, i * 6 + 2, none⟩ (.int .i64 d.ln)).setCell ⟨g, i * 6 + 3, none⟩ (.int .i64 d.pr)).setCell ⟨g, i * 6 + 4, none⟩ (.int .i64 d.ac)).setCell ⟨g, i * 6 + 5, none⟩ (.slice d.a d.n d.c)) (some g) := by
  have h1 := h.stored (i * 6) (.slice d.ka d.kn d.kc)
  have h2 := h1.1.stored (i * 6 + 1) (.slice d.ma d.mn d.mc)
  have h3 := h2.1.stored (i * 6 + 2) (.int .i64 d.ln)
  have h4 := h3.1.stored (i * 6 + 3) (.int .i64 d.pr)
  have h5 := h4.1.stored (i * 6 + 4) (.int .i64 d.ac)
  have h6 := h5.1.stored (i * 6 + 5) (.slice d.a d.n d.c)
  have e := mset_flat ds i d hi
  rw [e] at h6
  exact ⟨h6.1, mgrown_trans h1.2 (mgrown_trans h2.2 (mgrown_trans h3.2 (mgrown_trans h4.2 (mgrown_trans h5.2 h6.2))))⟩

/-- a list that was written into -/
theorem mrow_set {wA w6 : World} {B n cap g j : Nat} {T : List TE} {ds : List MD} {d : MD} {e : TE} (hr : MRow wA B (some ⟨g, 0, none⟩) n cap T) (hlen : ds.length = n) (hgood : ∀ (i : Nat) (d : MD) (e : TE), ds[i]? = some d → T[i]? = some e → d.good wA e ∧ d.new 0 ∧ d.ln = 0) (hd : d.good wA e) (hn : d.new 0) (hln : d.ln = 0) (hj : j < n)
    (hg : wA.grownBy w6 (some g)) (ho : w6.ownsRow B 33 6 (.slice (some ⟨g, 0, none⟩) n cap) n ((ds.set j d).flatMap MD.cells)) : MRow w6 B (some ⟨g, 0, none⟩) n cap (T.set j e) := by
  have hT := hr.len
  have hh : ∀ ad, some (⟨g, 0, none⟩ : Addr) = some ad → ∃ a m c, wA.cell? ⟨ad.block, 0, none⟩ = some (.slice a m c) := fun ad e => by cases e; exact hr.2 g rfl
  refine ⟨⟨ds.set j d, by simp [hlen], by simp [hT], ho, fun i d' e' hd' he' => ?_⟩, fun g' eg => ?_⟩
  · have key : d'.good wA e' ∧ d'.new 0 ∧ d'.ln = 0 := by
      by_cases hi : i = j
      · subst hi
        rw [List.getElem?_set_self (by omega)] at hd' he'
        simp only [Option.some.injEq] at hd' he'
        subst hd'; subst he'
        exact ⟨hd, hn, hln⟩
      · rw [List.getElem?_set_ne (fun e => hi e.symm)] at hd' he'
        exact hgood i d' e' hd' he'
    exact ⟨key.1.keep key.2.1 (fun a m zs f h => mhas_grown (la := some ⟨g, 0, none⟩) (n := n) (cap := cap) hg hh f h), key.2⟩
  · have e1 : g = g' := by simpa using eg
    subst e1
    have h0 : w6.cell? ⟨g, 0, none⟩ = ((ds.set j d).flatMap MD.cells)[0]? := by rw [ho.cellAt 0 (by omega)]
    have h1 := mflat_at (ds.set j d) 0 0 (by simp; omega) (by omega)
    simp only [Nat.mul_zero, Nat.add_zero] at h1
    rw [h1] at h0
    exact ⟨_, _, _, h0⟩

/-- the document's table behind a list that was written into -/
theorem krws_set {w wA w6 : World} {B r g cap : Nat} {keys most : Int} {E E' : List TE} (t : KRws w B r keys most E) (hb : Below w.heap.size w wA) (h4 : w.cell? ⟨r, 4, none⟩ = some (.slice (some ⟨g, 0, none⟩) E.length cap)) (hg : wA.grownBy w6 (some g)) (hr' : MRow w6 B (some ⟨g, 0, none⟩) E.length cap E') (hgood : ∀ x ∈ E', GoodM keys x) : KTo w w6 B r keys most E' := by
  have hrl : r < w.heap.size := World.block_lt_of_cell? w _ t.hd.c0
  obtain ⟨la2, cap2, h42, hrow⟩ := t.lst
  rw [h4] at h42
  simp only [Option.some.injEq, Value.slice.injEq, true_and] at h42
  obtain ⟨rfl, rfl⟩ := h42
  have hrA := hrow.step hb
  have hdA := t.hd.step hb
  have hE := hr'.len
  have hrg : r ≠ g := fun e => by
    obtain ⟨a', m', c', hc'⟩ := hrA.2 g rfl
    rw [← e, hdA.c0] at hc'
    cases hc'
  have hrr : w6.heap[r]? = wA.heap[r]? := hg.block r (Nat.lt_of_lt_of_le hrl hb.size) (fun e => hrg (Option.some.inj e))
  have cs : ∀ i, w6.cell? ⟨r, i, none⟩ = wA.cell? ⟨r, i, none⟩ := fun i => World.cell?_of_block (w := wA) (w' := w6) (a := ⟨r, i, none⟩) hrr
  have c4 : w6.cell? ⟨r, 4, none⟩ = some (.slice (some ⟨g, 0, none⟩) E.length cap) := (cs 4).trans ((hb.cell (p := ⟨r, 4, none⟩) hrl).trans h4)
  refine ⟨⟨⟨(cs 0).trans hdA.c0, (cs 1).trans hdA.c1, (cs 2).trans hdA.c2, (cs 3).trans hdA.c3⟩, ?_, t.base, ⟨some ⟨g, 0, none⟩, cap, by rw [hE]; exact c4, by rw [hE]; exact hr'⟩, hgood⟩, ?_, ?_, fun k hk _ hkg => ?_, fun g' n c h => ?_⟩
  · exact (World.frozen?_of_block (w := wA) (w' := w6) (a := ⟨r, 4, none⟩) hrr).trans ((hb.frozen (p := ⟨r, 4, none⟩) hrl).trans t.f4)
  · exact (hb.mono t.small).grown hg (Nat.le_trans t.small hb.size) (fun k hk => by cases hk; exact (hrow.lt g rfl).1)
  · have := hb.size; have := hg.size; omega
  · rw [hg.block k (Nat.lt_of_lt_of_le hk hb.size) (fun e => hkg g _ _ h4 (Option.some.inj e))]
    exact hb.block k hk
  · rw [c4] at h
    simp only [Option.some.injEq, Value.slice.injEq, Addr.mk.injEq, and_true] at h
    obtain ⟨rfl, _⟩ := h
    exact .inl ⟨_, _, h4⟩

set_option maxHeartbeats 8000000 in
set_option maxRecDepth 20000 in
theorem kchg_any {w : World} {B r : Nat} {keys most : Int} {E : List TE} {f : MD} {e : TE} (t : KRws w B r keys most E) (hf : f.good w e) (hn : E.length ≤ 100000) :
    Calls Try.prog 15 #[.pointer (some ⟨r, 0, none⟩), f.ev] w fun q w' => KHasDone w w' B r keys most E e (fun j => E.set j e) q := by
  have hb0 := bl_alloc (o := f.ec) (Below.refl w.heap.size w)
  have HM := hid (kmay_any (t.step hb0).hd (hf.step hb0))
  have SX : Hid (Six (w.alloc f.ec) w.heap.size (.slice f.ka f.kn f.kc) (.slice f.ma f.mn f.mc) (.int .i64 f.ln) (.int .i64 f.pr) (.int .i64 f.ac) (.slice f.a f.n f.c)) := six_new w _ _ _ _ _ _ _
  obtain ⟨k0, k1, k2, k3, k4, k5, -, -, -, -, -, -⟩ := SX.out
  have HT := hid t
  have HF := hid hf
  have HB0 := hid hb0
  clear t hf hb0
  go_enter Try.func15, Try.ntmps15
  go_wp2_with fail
  refine HM.out.mono ?_
  rintro q w1 ⟨rfl, hg1⟩
  by_cases hg : GoodM keys e
  · rw [if_pos hg]
    have HG := hid hg
    have B1 := hid (bl_step HB0.out hg1.below)
    have S1 := hid (SX.out.step hg1.below)
    have HA := hid (kat_any (HT.out.step B1.out) (HF.out.step B1.out) hg hn)
    clear hg1 HM k0 k1 k2 k3 k4 k5 SX HB0 hg
    obtain ⟨k0, k1, k2, k3, k4, k5, -, -, -, -, -, -⟩ := S1.out
    go_wp2_with fail
    refine HA.out.mono ?_
    rintro q w2 ⟨v, rfl, hg2, hv⟩
    have B2 := hid (bl_step B1.out hg2.below)
    have S2 := hid (S1.out.step hg2.below)
    rcases hv with ⟨rfl, hno⟩ | ⟨j, x, rfl, hjx, hsx⟩
    · have HE := hid (khas_keep (f := fun j => E.set j e) HT.out B2.out (show hasCM keys E e = 9 by unfold hasCM; rw [if_pos HG.out, if_neg (fun ⟨x, hx, hs⟩ => hno x hx hs)]) (by decide))
      clear hno hg2 HA k0 k1 k2 k3 k4 k5 S1 B1
      go_wp2
      go_ret
      exact HE.out
    · have hjl : j < E.length := (List.getElem?_eq_some_iff.1 hjx).1
      have HCO : Hid (hasCM keys E e = 0) := by show hasCM keys E e = 0; unfold hasCM; rw [if_pos HG.out, if_pos ⟨x, List.mem_of_getElem? hjx, hsx⟩]
      have HJX := hid hjx
      have HSX := hid hsx
      have hj0 : ¬ (j : Int) < 0 := by omega
      have hjn : (j : Int) < (E.length : Int) := by omega
      have T2 := hid (HT.out.step B2.out)
      obtain ⟨la, cap, r4, hrow⟩ := T2.out.lst
      have HROW := hid hrow
      obtain ⟨g, d0, y0, e0, -, hat, -, -, -⟩ := hrow.at j hjl
      subst e0
      have HAT := hid hat
      have hrw : r < w.heap.size := World.block_lt_of_cell? w _ HT.out.hd.c0
      have h4w : Hid (w.cell? ⟨r, 4, none⟩ = some (.slice (some ⟨g, 0, none⟩) E.length cap)) := by
        show w.cell? ⟨r, 4, none⟩ = _
        rw [← B2.out.cell (p := ⟨r, 4, none⟩) hrw]; exact r4
      obtain ⟨⟨ds, dl, -, dow, dgd⟩, -⟩ := hrow
      have DG := hid dgd
      have DOW := hid dow
      have hbd : Below w2.heap.size w2 w2.drew := (Below.refl _ _).drew
      have hrl2 : r < w2.heap.size := World.block_lt_of_cell? w2 _ r4
      have HCP := hid (kkept_any (T2.out.step hbd).hd ((HF.out.step B2.out).step hbd))
      clear hat hg2 HA k0 k1 k2 k3 k4 k5 S1 B1 dow dgd hjx hsx
      obtain ⟨k0, k1, k2, k3, k4, k5, -, -, -, -, -, -⟩ := S2.out
      go_wp2_with fail
      go_region_with (go_at_call 42; refine HCP.out.mono ?_; rintro q w4 ⟨d, rfl, hgd, hnew, hln, hb4⟩; have HLN := hid hln; clear hln; have p4 : w4.cell? ⟨r, 4, none⟩ = some (.slice (some ⟨g, 0, none⟩) E.length cap) := ((bl_step hbd hb4).cell (p := ⟨r, 4, none⟩) hrl2).trans r4; have OW4 := hid (owns_below DOW.out (bl_step hbd hb4)); have fr0 := OW4.out.frozenAt (j * 6); have fr1 := OW4.out.frozenAt (j * 6 + 1); have fr2 := OW4.out.frozenAt (j * 6 + 2); have fr3 := OW4.out.frozenAt (j * 6 + 3); have fr4 := OW4.out.frozenAt (j * 6 + 4); have fr5 := OW4.out.frozenAt (j * 6 + 5); obtain ⟨q0, q1, q2, q3, q4, q5⟩ := HAT.out.step (bl_step hbd hb4))
      all_goals
        have hS := mown_six OW4.out (i := j) (by omega) d
        have hbA := bl_step (bl_step B2.out hbd) hb4
        have HEND : Hid (KHasDone w ((((((w4.setCell ⟨g, j * 6, none⟩ (.slice d.ka d.kn d.kc)).setCell ⟨g, j * 6 + 1, none⟩ (.slice d.ma d.mn d.mc)).setCell ⟨g, j * 6 + 2, none⟩ (.int .i64 d.ln)).setCell ⟨g, j * 6 + 3, none⟩ (.int .i64 d.pr)).setCell ⟨g, j * 6 + 4, none⟩ (.int .i64 d.ac)).setCell ⟨g, j * 6 + 5, none⟩ (.slice d.a d.n d.c)) B r keys most E e (fun j => E.set j e) (.returned (.int .i64 0))) := by
          refine ⟨by rw [HCO.out], .inr ⟨HCO.out, j, x, HJX.out, HSX.out, ?_⟩⟩
          show KTo w _ B r keys most (E.set j e)
          refine krws_set HT.out hbA h4w.out hS.2 (mrow_set (HROW.out.step (bl_step hbd hb4)) dl (fun i d e hd he => ⟨(DG.out i d e hd he).1.step (bl_step hbd hb4), (DG.out i d e hd he).2⟩) hgd (hnew.mono (Nat.zero_le _)) HLN.out hjl hS.2 hS.1) (fun y hy => ?_)
          rcases List.mem_or_eq_of_mem_set hy with h | h
          · exact HT.out.good y h
          · rw [h]; exact HG.out
        clear hS hgd hnew hb4 HCP OW4 hbA
        go_wp2
        go_ret
        exact HEND.out
  · rw [if_neg hg]
    have HE := hid (khas_keep (f := fun j => E.set j e) HT.out (bl_step HB0.out hg1.below) (show hasCM keys E e = 6 by unfold hasCM; rw [if_neg hg]) (by decide))
    clear hg1 HM hg
    go_wp2
    go_ret
    exact HE.out
end Go.Proofs.Ytlnkfgdepddmlac
