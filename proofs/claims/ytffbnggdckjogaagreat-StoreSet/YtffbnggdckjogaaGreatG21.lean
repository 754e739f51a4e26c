/- Texts of one chain, joined: MFind, MAll. -/
import Derived.Test.YtffbnggdckjogaaGreatG20
namespace Go.Proofs.YtffbnggdckjogaaGreat
open Go.RowKit Mth
def foundM (keys : Int) (T : List TE) (k : List Int) : Option HitM := if (k.length : Int) = keys then (T.find? fun x => decide (FitsE x k)).map fun x => (x.ac, x.xs) else none
theorem found_hit {T : List TE} {k : List Int} {f : Nat} {x : TE} (h : Hit1 T k f x) : T.find? (fun x => decide (FitsE x k)) = some x := by
  obtain ⟨h1, h2, h3⟩ := h
  induction T generalizing f with
  | nil => cases h1
  | cons y ys ih =>
    cases f with
    | zero =>
      simp only [List.getElem?_cons_zero, Option.some.injEq] at h1
      subst h1
      rw [List.find?_cons_of_pos (by simpa using h2)]
    | succ f =>
      have hy : ¬ FitsE y k := h3 0 y (by omega) (by simp)
      rw [List.find?_cons_of_neg (by simpa using hy)]
      exact ih (f := f) (by simpa using h1) (fun t z ht hz => h3 (t + 1) z (by omega) (by simpa using hz))
theorem found_no {T : List TE} {k : List Int} (h : ∀ x ∈ T, ¬ FitsE x k) : T.find? (fun x => decide (FitsE x k)) = none := by
  rw [List.find?_eq_none]
  intro x hx
  simpa using h x hx
theorem mhas_over {w : World} {a : Option Addr} {n : Nat} {zs : List Int} {r o : Nat} {y : Value} (h : Has .u64 w a n zs) (hc : w.cell? ⟨r, o, none⟩ = some y) (hy : ∀ x, y ≠ .int .u64 x) (v : Value) : Has .u64 (w.setCell ⟨r, o, none⟩ v) a n zs := by
  refine ⟨h.1, h.2.1, ?_⟩
  rcases h.2.2 with h | ⟨b, off, rfl, hlt, hcs⟩
  · exact .inl h
  · refine .inr ⟨b, off, rfl, by simpa [World.setCell] using hlt, fun i hi => ?_⟩
    rw [World.cell?_setCell_other _ _ _ _ (fun e => ?_)]
    · exact hcs i hi
    · have h1 := hcs i hi
      rw [← e, hc] at h1
      exact hy _ (Option.some.inj h1)
theorem msays_over {w : World} {v : Value} {h : HitM} (s : Says w v h) {r : Nat} {y : Int} {a : Option Addr} {n c : Nat} (c0 : w.cell? ⟨r, 0, none⟩ = some (.int .i64 y)) (c1 : w.cell? ⟨r, 1, none⟩ = some (.slice a n c)) (x z : Value) : Says ((w.setCell ⟨r, 0, none⟩ x).setCell ⟨r, 1, none⟩ z) v h := by
  obtain ⟨d, m, e, hv, hn, hm, hh⟩ := s
  have e1 : (w.setCell ⟨r, 0, none⟩ x).cell? ⟨r, 1, none⟩ = some (.slice a n c) := (World.cell?_setCell_other _ _ _ _ (by simp)).trans c1
  exact ⟨d, m, e, hv, hn, hm, mhas_over (mhas_over hh c0 (by intro _ h; cases h) x) e1 (by intro _ h; cases h) z⟩
def MFindDone (w w' : World) (R : Option HitM) (r : Ending) : Prop :=
  ∃ v, r = .returned (.tuple #[v, .bool R.isSome]) ∧ Says w' v (R.getD (0, [])) ∧ Below w.heap.size w w'
theorem keep6g {w w' : World} {s : Nat} {x0 x1 x2 x3 x4 x5 : Value} (h : w.cell? ⟨s, 0, none⟩ = some x0 ∧ w.cell? ⟨s, 1, none⟩ = some x1 ∧ w.cell? ⟨s, 2, none⟩ = some x2 ∧ w.cell? ⟨s, 3, none⟩ = some x3 ∧ w.cell? ⟨s, 4, none⟩ = some x4 ∧ w.cell? ⟨s, 5, none⟩ = some x5) (hb : Below w.heap.size w w') :
    w'.cell? ⟨s, 0, none⟩ = some x0 ∧ w'.cell? ⟨s, 1, none⟩ = some x1 ∧ w'.cell? ⟨s, 2, none⟩ = some x2 ∧ w'.cell? ⟨s, 3, none⟩ = some x3 ∧ w'.cell? ⟨s, 4, none⟩ = some x4 ∧ w'.cell? ⟨s, 5, none⟩ = some x5 := keep6 h hb
abbrev KC (ka : Option Addr) (kn kc : Nat) : Obj := .cells #[.slice ka kn kc] 24
set_option maxHeartbeats 8000000 in
set_option maxRecDepth 20000 in
theorem mfind_any {w : World} {B p : Nat} {keys most : Int} {T : List TE} {ka : Option Addr} {kn kc : Nat} {k : List Int} (t : MTab w B p keys most T) (hk : Has .u64 w ka kn k) (hn : T.length ≤ 100000) :
    Calls Tryz.prog 118 #[.pointer (some ⟨p, 0, none⟩), .slice ka kn kc] w fun r w' => MFindDone w w' (foundM keys T k) r := by
  have hb0 := bl_alloc (o := HC 0 none 0 0) (bl_alloc (o := KC ka kn kc) (Below.refl w.heap.size w))
  have hkl := hk.1
  have T0 := t.step hb0
  have c0 := T0.c0
  obtain ⟨la, cap, p2, hrow⟩ := T0.lst
  have b0 : ((w.alloc (KC ka kn kc)).alloc (HC 0 none 0 0)).cell? ⟨w.heap.size, 0, none⟩ = some (.slice ka kn kc) := by simp
  have HQ := new_two (w.alloc (KC ka kn kc)) (.int .i64 0) (.slice none 0 0) 50
  rw [show (w.alloc (KC ka kn kc)).heap.size = w.heap.size + 1 from by simp] at HQ
  have HX : Hid (((w.alloc (KC ka kn kc)).alloc (HC 0 none 0 0)).cell? ⟨w.heap.size + 1, 0, none⟩ = some (.int .i64 0) ∧ ((w.alloc (KC ka kn kc)).alloc (HC 0 none 0 0)).cell? ⟨w.heap.size + 1, 1, none⟩ = some (.slice none 0 0) ∧ ((w.alloc (KC ka kn kc)).alloc (HC 0 none 0 0)).frozen? ⟨w.heap.size + 1, 0, none⟩ = false ∧ ((w.alloc (KC ka kn kc)).alloc (HC 0 none 0 0)).frozen? ⟨w.heap.size + 1, 1, none⟩ = false) := HQ
  have HT0 := hid T0
  have HK := hid (hk.step hb0)
  have HB0 := hid hb0
  have hpl : p < w.heap.size := World.block_lt_of_cell? w _ t.c0
  have HOK := hid t.ok
  clear t hk hb0 T0 HQ
  generalize hR : foundM keys T k = R
  have HR := hid hR
  clear hR
  go_enter Tryz.func118, Tryz.ntmps118
  go_wp2_with fail
  generalize (w.alloc (KC ka kn kc)).alloc (HC 0 none 0 0) = w0 at *
  by_cases hkk : (kn : Int) = keys
  · have hd : ((kn : Int) != keys) = false := by simpa using hkk
    have hlen : ∀ x ∈ T, x.ks.length = kn ∧ x.ms.length = kn := fun x hx => by
      have := (HOK.out.good x hx).1; have := (HOK.out.good x hx).2.1; omega
    go_quiet (fail)
    have hbq := below_drewN (Below.refl w0.heap.size w0) nq
    have X1 : Hid ((w0.drewN nq).cell? ⟨w.heap.size + 1, 0, none⟩ = some (.int .i64 0) ∧ (w0.drewN nq).cell? ⟨w.heap.size + 1, 1, none⟩ = some (.slice none 0 0) ∧ (w0.drewN nq).frozen? ⟨w.heap.size + 1, 0, none⟩ = false ∧ (w0.drewN nq).frozen? ⟨w.heap.size + 1, 1, none⟩ = false) := HX.out
    have HC1 := hid (idx_any (hrow.step hbq) hlen hn (HK.out.step hbq) (kc := kc) (show (w0.drewN nq).cell? ⟨w.heap.size, 0, none⟩ = _ from b0))
    have B1 := hid (bl_step HB0.out hbq)
    have q2 : (w0.drewN nq).cell? ⟨p, 2, none⟩ = _ := p2
    have HR1 := hid (hrow.step hbq)
    clear hbq hd c0 p2 b0 HX hrow HK HB0 HT0
    generalize w0.drewN nq = w1 at *
    go_wp2_with fail
    refine HC1.out.mono ?_
    rintro r w2 ⟨v, rfl, hg2, hv⟩
    have B2 := hid (bl_step B1.out hg2.below)
    have hxl : w.heap.size + 1 < w1.heap.size := World.block_lt_of_cell? w1 _ X1.out.1
    have x0 := (hg2.below.cell (p := ⟨w.heap.size + 1, 0, none⟩) hxl).trans X1.out.1
    have x1 := (hg2.below.cell (p := ⟨w.heap.size + 1, 1, none⟩) hxl).trans X1.out.2.1
    have y0 := (hg2.below.frozen (p := ⟨w.heap.size + 1, 0, none⟩) hxl).trans X1.out.2.2.1
    have y1 := (hg2.below.frozen (p := ⟨w.heap.size + 1, 1, none⟩) hxl).trans X1.out.2.2.2
    rcases hv with ⟨rfl, hno⟩ | ⟨fi, x, rfl, hhit⟩
    · have hRn : R = none := by
        rw [← HR.out]; unfold foundM; rw [if_pos (by omega), found_no hno]; rfl
      subst hRn
      clear hno HC1 hg2
      go_wp2
      exact bodyPost_ret (v := .tuple #[NoHit, .bool false]) (by simp [results, Tryz.results118, go_sem, x0, x1]) rfl ⟨_, rfl, says_none _, (B2.out.setCell (by simp) _).setCell (by simp) _⟩
    · have hRs : R = some (x.ac, x.xs) := by
        rw [← HR.out]; unfold foundM; rw [if_pos (by omega), found_hit hhit]; rfl
      subst hRs
      have hfl : fi < T.length := (List.getElem?_eq_some_iff.1 hhit.1).1
      obtain ⟨g, d, y, rfl, hy, hat, hgd, -, -⟩ := (HR1.out.step hg2.below).at fi hfl
      have exy : x = y := by have := hhit.1; rw [hy] at this; exact (Option.some.inj this).symm
      subst exy
      have hpl2 : p < w1.heap.size := World.block_lt_of_cell? w1 _ q2
      have p2' := (hg2.below.cell (p := ⟨p, 2, none⟩) hpl2).trans q2
      obtain ⟨c0, c1, c2, c3, c4, c5⟩ := hat
      have hfi : (fi : Int) < (T.length : Int) := by omega
      have hf0 : ¬ (fi : Int) < 0 := by omega
      have hal : Below w2.heap.size w2 (w2.alloc d.ec) := bl_alloc (Below.refl _ _)
      have SN : Six (w2.alloc d.ec) w2.heap.size (.slice d.ka d.kn d.kc) (.slice d.ma d.mn d.mc) (.int .i64 d.ln) (.int .i64 d.pr) (.int .i64 d.ac) (.slice d.a d.n d.c) := six_new w2 _ _ _ _ _ _ _
      have GD := hid (hgd.step hal)
      have hx2 : w.heap.size + 1 < w2.heap.size := World.block_lt_of_cell? w2 _ x0
      have z0 := (hal.cell (p := ⟨w.heap.size + 1, 0, none⟩) hx2).trans x0
      have z1 := (hal.cell (p := ⟨w.heap.size + 1, 1, none⟩) hx2).trans x1
      have u0 := (hal.frozen (p := ⟨w.heap.size + 1, 0, none⟩) hx2).trans y0
      have u1 := (hal.frozen (p := ⟨w.heap.size + 1, 1, none⟩) hx2).trans y1
      have B3 := hid (bl_step B2.out hal)
      have hAC := hid hgd.ac
      clear hgd hhit hy HC1 hg2 hal x0 x1 y0 y1 X1 q2
      go_wp2_with fail
      have SN' := hid SN
      generalize w2.alloc d.ec = w3 at *
      generalize w2.heap.size = eb at *
      obtain ⟨-, -, -, -, n4, n5, -, -, -, -, -, -⟩ := SN
      have hel : eb < w3.heap.size := World.block_lt_of_cell? w3 _ n4
      have hxl3 : w.heap.size + 1 < w3.heap.size := World.block_lt_of_cell? w3 _ z0
      have hbd : Below w3.heap.size w3 w3.drew := (Below.refl _ _).drew
      have HL := hid (list_any (c := d.c) GD.out.n0 (GD.out.xs.step hbd) GD.out.xs3)
      clear c0 c1 c2 c3 c4 c5 p2'
      go_region_law (first
        | (go_simp; go_at_call 132; refine HL.out.mono ?_; rintro r w4 ⟨a4, c4, rfl, l4, hb4⟩; have m4 : w4.cell? ⟨eb, 4, none⟩ = some (.int .i64 d.ac) := ((bl_step hbd hb4).cell (p := ⟨eb, 4, none⟩) hel).trans n4; have m5 : w4.cell? ⟨eb, 5, none⟩ = some (.slice d.a d.n d.c) := ((bl_step hbd hb4).cell (p := ⟨eb, 5, none⟩) hel).trans n5; have m0 : w4.cell? ⟨w.heap.size + 1, 0, none⟩ = some (.int .i64 0) := ((bl_step hbd hb4).cell (p := ⟨w.heap.size + 1, 0, none⟩) hxl3).trans z0; have m1 : w4.cell? ⟨w.heap.size + 1, 1, none⟩ = some (.slice none 0 0) := ((bl_step hbd hb4).cell (p := ⟨w.heap.size + 1, 1, none⟩) hxl3).trans z1; have v0 : w4.frozen? ⟨w.heap.size + 1, 0, none⟩ = false := ((bl_step hbd hb4).frozen (p := ⟨w.heap.size + 1, 0, none⟩) hxl3).trans u0; have v1 : w4.frozen? ⟨w.heap.size + 1, 1, none⟩ = false := ((bl_step hbd hb4).frozen (p := ⟨w.heap.size + 1, 1, none⟩) hxl3).trans u1))
      all_goals
        have SY : Says w4 (.agg #[.int .i64 d.ac, .slice a4 d.n c4]) (x.ac, x.xs) := ⟨a4, d.n, c4, by rw [hAC.out], l4.1, GD.out.xs3, l4.2.2.1⟩
        have HEND : Hid (MFindDone w ((w4.setCell ⟨w.heap.size + 1, 0, none⟩ (.int .i64 d.ac)).setCell ⟨w.heap.size + 1, 1, none⟩ (.slice a4 d.n c4)) (some (x.ac, x.xs)) (.returned (.tuple #[.agg #[.int .i64 d.ac, .slice a4 d.n c4], .bool true]))) := ⟨_, rfl, msays_over SY m0 m1 _ _, ((bl_step (bl_step B3.out hbd) hb4).setCell (by simp) _).setCell (by simp) _⟩
        clear SY l4 hb4 HL
        go_wp2
        exact bodyPost_ret (v := .tuple #[.agg #[.int .i64 d.ac, .slice a4 d.n c4], .bool true]) (by simp [results, Tryz.results118, go_sem, m0, m1]) rfl HEND.out
  · have hd : ((kn : Int) != keys) = true := by simpa using hkk
    have hRn : R = none := by
      rw [← HR.out]; unfold foundM; rw [if_neg (by rw [hkl]; exact hkk)]
    subst hRn
    go_quiet (fail)
    have x0 : (w0.drewN nq).cell? ⟨w.heap.size + 1, 0, none⟩ = _ := HX.out.1
    have x1 : (w0.drewN nq).cell? ⟨w.heap.size + 1, 1, none⟩ = _ := HX.out.2.1
    have y0 : (w0.drewN nq).frozen? ⟨w.heap.size + 1, 0, none⟩ = _ := HX.out.2.2.1
    have y1 : (w0.drewN nq).frozen? ⟨w.heap.size + 1, 1, none⟩ = _ := HX.out.2.2.2
    have B1 := hid (below_drewN HB0.out nq)
    clear hd c0 p2 b0 HX
    generalize w0.drewN nq = w1 at *
    go_wp2
    exact bodyPost_ret (v := .tuple #[NoHit, .bool false]) (by simp [results, Tryz.results118, go_sem, x0, x1]) rfl ⟨_, rfl, says_none _, (B1.out.setCell (by simp) _).setCell (by simp) _⟩
end Go.Proofs.YtffbnggdckjogaaGreat

namespace Go.Proofs.YtffbnggdckjogaaGreat
open Go.RowKit Mth
def MEnts (w : World) (a : Option Addr) (n : Nat) (E : List TE) : Prop :=
  E.length = n ∧ ∀ (i : Nat) (e : TE), E[i]? = some e → ∃ g, ∃ d : MD, a = some ⟨g, 0, none⟩ ∧ d.at w g (i * 6) ∧ d.good w e ∧ d.ln = 0
theorem MEnts.step {w w' : World} {a : Option Addr} {n : Nat} {E : List TE} (h : MEnts w a n E) (hb : Below w.heap.size w w') : MEnts w' a n E := by
  refine ⟨h.1, fun i e he => ?_⟩
  obtain ⟨g, d, ea, hat, hg, hl⟩ := h.2 i e he
  exact ⟨g, d, ea, hat.step hb, hg.step hb, hl⟩
def MEntsN (w : World) (B : Nat) (a : Option Addr) (n : Nat) (E : List TE) : Prop :=
  E.length = n ∧ ∀ (i : Nat) (e : TE), E[i]? = some e → ∃ g, ∃ d : MD, a = some ⟨g, 0, none⟩ ∧ B ≤ g ∧ d.at w g (i * 6) ∧ d.good w e ∧ d.ln = 0 ∧ d.new B
theorem MEntsN.ents {w : World} {B : Nat} {a : Option Addr} {n : Nat} {E : List TE} (h : MEntsN w B a n E) : MEnts w a n E := ⟨h.1, fun i e he => by
  obtain ⟨g, d, ea, _, h1, h2, h3, _⟩ := h.2 i e he
  exact ⟨g, d, ea, h1, h2, h3⟩⟩
def MOut (w : World) (base g cap : Nat) (E : List TE) : Prop :=
  ∃ ds : List MD, ds.length = E.length ∧ w.ownsRow base 38 6 (.slice (some ⟨g, 0, none⟩) E.length cap) E.length (ds.flatMap MD.cells) ∧ ∀ (i : Nat) (d : MD) (e : TE), ds[i]? = some d → E[i]? = some e → d.good w e ∧ d.new (g + 1) ∧ d.ln = 0
theorem MD.good.off {d : MD} {w w' : World} {e : TE} {g B : Nat} (h : d.good w e) (f : d.new B) (hg : g < B) (hr : w.grownBy w' (some g)) : d.good w' e :=
  ⟨h.kn0, h.ks3, h.ks.off f.1 hg hr, h.mn0, h.ms3, h.ms.off f.2.1 hg hr, h.pr, h.ac, h.n0, h.xs3, h.xs.off f.2.2 hg hr⟩
theorem MOut.push {w w5 w6 : World} {base g cap : Nat} {E : List TE} {ds : List MD} {d : MD} {e : TE} (hl : ds.length = E.length) (hg : ∀ (i : Nat) (d : MD) (e : TE), ds[i]? = some d → E[i]? = some e → d.good w e ∧ d.new (g + 1) ∧ d.ln = 0) (hB : Below w.heap.size w w5)
    (ho : w6.ownsRow base 38 6 (.slice (some ⟨g, 0, none⟩) (E.length + 1) cap) (E.length + 1) (ds.flatMap MD.cells ++ d.cells)) (hgr : w5.grownBy w6 (some g)) (hd : d.good w5 e) (hn : d.new (g + 1)) (hln : d.ln = 0) : MOut w6 base g cap (E ++ [e]) := by
  have e1 : (E ++ [e]).length = E.length + 1 := by simp
  refine ⟨ds ++ [d], by simp [hl], by rw [e1]; simpa using ho, fun i d' e' hd' he' => ?_⟩
  by_cases hi : i < ds.length
  · rw [List.getElem?_append_left hi] at hd'
    rw [List.getElem?_append_left (by omega)] at he'
    obtain ⟨g1, g2, g3⟩ := hg i d' e' hd' he'
    exact ⟨(g1.step hB).off g2 (Nat.lt_succ_self _) hgr, g2, g3⟩
  · rw [List.getElem?_append_right (Nat.le_of_not_lt hi)] at hd'
    rw [List.getElem?_append_right (by omega)] at he'
    have hi2 : i - ds.length = 0 := by
      have := (List.getElem?_eq_some_iff.1 hd').1
      simp at this
      omega
    rw [hi2] at hd'
    rw [← hl, hi2] at he'
    have ed : d = d' := by simpa using hd'
    have ee : e = e' := by simpa using he'
    subst ed; subst ee
    exact ⟨hd.off hn (Nat.lt_succ_self _) hgr, hn, hln⟩
theorem MOut.ents {w : World} {base g cap : Nat} {E : List TE} (h : MOut w base g cap E) (hgb : base ≤ g) : MEntsN w base (some ⟨g, 0, none⟩) E.length E := by
  obtain ⟨ds, hl, ho, hg⟩ := h
  refine ⟨rfl, fun i e he => ?_⟩
  have hi : i < E.length := (List.getElem?_eq_some_iff.1 he).1
  have hd : ds[i]? = some (ds[i]'(by omega)) := List.getElem?_eq_getElem _
  refine ⟨g, ds[i]'(by omega), rfl, hgb, ?_, (hg i _ e hd he).1, (hg i _ e hd he).2.2, (hg i _ e hd he).2.1.mono (by omega)⟩
  have key : ∀ j, j < 6 → w.cell? ⟨g, i * 6 + j, none⟩ = (ds[i]'(by omega)).cells[j]? := by
    intro j hj
    rw [ho.cellAt (i * 6 + j) (by omega), Nat.mul_comm i 6]
    exact mflat_at ds i j (by omega) hj
  exact ⟨key 0 (by omega), key 1 (by omega), key 2 (by omega), key 3 (by omega), key 4 (by omega), key 5 (by omega)⟩
theorem wpList_fits6 {ops : Array Oper} {rest : List Oper} {o : Oper} {a : Act} {w : World} {Q : Exit → Act → World → Prop} (hgd : o.guard = none) (s x : Operand)
    (ho : o.op = .call { callee := .builtin .append, args := #[s, x], argTypes := #[42, 42] }) (base g n cap : Nat) (xs news : List Value) (ad : Addr) (c : Nat)
    (hs : a.eval s = .slice (some ⟨g, 0, none⟩) n cap) (hx : a.eval x = .slice (some ad) 1 c) (hown : w.ownsRow base 38 6 (.slice (some ⟨g, 0, none⟩) n cap) n xs) (hl : news.length = 1 * 6) (hn : ∀ j u, news[j]? = some u → w.cell? (ad.add j) = some u) (h1 : ∀ u ∈ news, u.oneCell' = true)
    (hroom : n + 1 ≤ cap) (h : ∀ w', w'.ownsRow base 38 6 (.slice (some ⟨g, 0, none⟩) (n + 1) cap) (n + 1) (xs ++ news) → w.grownBy w' (some g) → wpList Tryz.prog ops Q rest (a.put o.dst (.slice (some ⟨g, 0, none⟩) (n + 1) cap)) w') : wpList Tryz.prog ops Q (o :: rest) a w :=
  wpList_plain hgd fun _ hK => by
    obtain ⟨i0, hi, hz0, hz1, hz2⟩ := info_parts Tryz.infoEntry
    obtain ⟨w', hrun, r1, r2⟩ := run_append_fits (P := Tryz.prog) w base 42 o.type 38 i0 6 Tryz.underlying42 hi hz1 g n cap xs hown ad 1 c news hl hn h1 hroom
    unfold Oper.wp execOp
    simp only [ho, resolve, invoke, builtin, Sem.run_bind, Sem.run_pure, Result.andThen_ok, List.map_toArray, List.map_cons, List.map_nil, hs, hx, hrun]
    exact hK _ _ (h w' r1 r2)
def MAllDone (w w' : World) (T : List TE) (r : Ending) : Prop := ∃ a c, r = .returned (.slice a T.length c) ∧ MEntsN w' w.heap.size a T.length T ∧ Below w.heap.size w w'
def MAt (w wr : World) (g cap : Nat) (T : List TE) (i : Nat) : Prop := MOut wr w.heap.size g cap (T.take i) ∧ Below w.heap.size w wr
set_option maxHeartbeats 4000000 in
set_option maxRecDepth 20000 in
theorem mall_any {w : World} {B p : Nat} {keys most : Int} {T : List TE} (t : MTab w B p keys most T) (hn : T.length ≤ 100000) :
    Calls Tryz.prog 115 #[.pointer (some ⟨p, 0, none⟩)] w fun r w' => MAllDone w w' T r := by
  obtain ⟨la, cap, p2, hrow⟩ := t.lst
  obtain ⟨i0, hi, hz0, hz1, hz2⟩ := info_parts Tryz.infoEntry
  obtain ⟨w1, hrun, r1, r2⟩ := run_make_own (P := Tryz.prog) w w.heap.size 42 38 i0 NoEntry 6 Tryz.underlying42 hi hz0 hz1 .i64 .i64 T.length (by rw [hz2]; omega) (by unfold maxLen; omega) (Nat.le_refl _)
  have hb1 : Below w.heap.size w w1 := (Below.refl w.heap.size w).grown r2 (Nat.le_refl _) (by intro k hk; cases hk)
  have HM0 : Hid (MAt w w1 w.heap.size T.length T 0) := ⟨⟨[], rfl, r1, by simp⟩, hb1⟩
  have HR := hid hrow
  have HT := hid t
  have hpl : p < w.heap.size := World.block_lt_of_cell? w _ t.c0
  have q2 := (hb1.cell (p := ⟨p, 2, none⟩) hpl).trans p2
  have hgl := (r1.lt w.heap.size rfl).2
  clear t hrow hi hz0 hz1 hz2 r1 r2
  go_enter Tryz.func115, Tryz.ntmps115
  go_wp2_with fail
  go_loopw [3, 17] (fun x q wr => ∃ i : Nat, i ≤ T.length ∧ x = .slice (some ⟨w.heap.size, 0, none⟩) i T.length ∧ q = .int .i64 i ∧ Hid (MAt w wr w.heap.size T.length T i)) (fun _ q _ => T.length - (intOf q).toNat)
  case atStart => exact ⟨0, Nat.zero_le _, rfl, rfl, HM0.out⟩
  case round =>
    obtain ⟨i, hil, rfl, rfl, hat⟩ := hrel
    by_cases hlt : i < T.length
    · obtain ⟨g, d, y, rfl, hy, hd, hgd, -, -⟩ := (HR.out.step hat.out.2).at i hlt
      obtain ⟨c0, c1, c2, c3, c4, c5⟩ := hd
      have hii : (i : Int) < (T.length : Int) := by omega
      have hal : Below wr.heap.size wr (wr.alloc d.ec) := bl_alloc (Below.refl _ _)
      have HCP := hid (mcopied_any (hgd.step hal))
      have SN : Six (wr.alloc d.ec) wr.heap.size (.slice d.ka d.kn d.kc) (.slice d.ma d.mn d.mc) (.int .i64 d.ln) (.int .i64 d.pr) (.int .i64 d.ac) (.slice d.a d.n d.c) := six_new wr _ _ _ _ _ _ _
      obtain ⟨n0, n1, n2, n3, n4, n5, -, -, -, -, -, -⟩ := SN
      have HY := hid hy
      have HAL := hid hal
      clear hgd hy hal
      go_wp2_with fail
      refine HCP.out.mono ?_
      rintro r w3 ⟨f, rfl, hgf, hnf, hlf, hb3⟩
      have HLF := hid hlf
      obtain ⟨ds, dl, dow, dg⟩ := hat.out.1
      have hTl : (T.take i).length = i := by rw [List.length_take]; omega
      rw [hTl] at dow dl
      have DOW := hid dow
      have DG := hid dg
      have hbz := hid (bl_step HAL.out hb3)
      have hsz : w.heap.size < wr.heap.size := (dow.lt w.heap.size rfl).2
      clear HCP hlf dow dg n0 n1 n2 n3 n4 n5 c0 c1 c2 c3 c4 c5
      go_wp2_with (at_builtin; refine wpList_fits6 rfl _ _ rfl w.heap.size w.heap.size i T.length (ds.flatMap MD.cells) f.cells ⟨w3.heap.size, 0, none⟩ 1 rfl rfl ?c0 rfl ?c1 (mcells_one f) hlt ?_)
      case c0 => exact (owns_below DOW.out hbz.out).alloc _
      case c1 => exact rowAt_src (rowAt_alloc w3 _) (by simp [MD.cells])
      intro w5 ho5 hg5
      have HN : Hid (MAt w w5 w.heap.size T.length T (i + 1)) := by
        have hal5 : Below w3.heap.size w3 (w3.alloc (.cells #[.slice f.ka f.kn f.kc, .slice f.ma f.mn f.mc, .int .i64 f.ln, .int .i64 f.pr, .int .i64 f.ac, .slice f.a f.n f.c] 38)) := bl_alloc (Below.refl _ _)
        have e : T.take (i + 1) = T.take i ++ [y] := by rw [List.take_add_one, HY.out]; rfl
        refine ⟨?_, ?_⟩
        · rw [e]
          refine MOut.push (w := wr) (by rw [hTl]; exact dl) DG.out (bl_step hbz.out hal5) (by rw [hTl]; exact ho5) hg5 (hgf.step hal5) (hnf.mono ?_) HLF.out
          have h1 := HAL.out.size
          omega
        · exact (bl_step (bl_step hat.out.2 hbz.out) hal5).grown hg5 (by have := hat.out.2.size; have := hbz.out.size; have := hal5.size; omega) (by intro k hk; cases hk; exact Nat.le_refl _)
      clear ho5 hg5 hgf hnf hb3 hat
      go_wp2
      go_roundw
      case rel => exact ⟨i + 1, by omega, rfl, by go_num, HN.out⟩
      case measure => simp [intOf]; omega
    · have ei : i = T.length := by omega
      subst ei
      have HE : Hid (MAllDone w wr T (.returned (.slice (some ⟨w.heap.size, 0, none⟩) T.length T.length))) := by
        refine ⟨_, _, rfl, ?_, hat.out.2⟩
        have h := hat.out.1.ents (Nat.le_refl _)
        rwa [List.take_length] at h
      clear hat
      go_wp2
      go_ret
      exact HE.out
end Go.Proofs.YtffbnggdckjogaaGreat
