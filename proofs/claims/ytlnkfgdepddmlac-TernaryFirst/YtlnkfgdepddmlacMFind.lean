/- What Find and Len of a table by masks do. -/
import Derived.Test.YtlnkfgdepddmlacMDrop
namespace Go.Proofs.Ytlnkfgdepddmlac
open Go.RowKit Mth

/-- what is found -/
def foundM (keys : Int) (T : List TE) (k : List Int) : Option HitM := if (k.length : Int) = keys then (T.find? fun x => decide (FitsE x k)).map fun x => (x.ac, x.xs) else none

theorem found_hit {T : List TE} {k : List Int} {f : Nat} {x : TE} (h : Hit1 T k f x) : T.find? (fun x => decide (FitsE x k)) = some x := by
  obtain ⟨h1, h2, h3⟩ := h
  induction T generalizing f with
  | nil => cases h1
  | cons y ys ih =>
    cases f with
    | zero =>
      simp only [List.getElem?_cons_zero, Option.some.injEq] at h1
      subst h1
      rw [List.find?_cons_of_pos (by simpa using h2)]
    | succ f =>
      have hy : ¬ FitsE y k := h3 0 y (by omega) (by simp)
      rw [List.find?_cons_of_neg (by simpa using hy)]
      exact ih (f := f) (by simpa using h1) (fun t z ht hz => h3 (t + 1) z (by omega) (by simpa using hz))

theorem found_no {T : List TE} {k : List Int} (h : ∀ x ∈ T, ¬ FitsE x k) : T.find? (fun x => decide (FitsE x k)) = none := by
  rw [List.find?_eq_none]
  intro x hx
  simpa using h x hx

theorem mhas_over {w : World} {a : Option Addr} {n : Nat} {zs : List Int} {r o : Nat} {y : Value} (h : Has .u64 w a n zs) (hc : w.cell? ⟨r, o, none⟩ = some y) (hy : ∀ x, y ≠ .int .u64 x) (v : Value) : Has .u64 (w.setCell ⟨r, o, none⟩ v) a n zs := by
  refine ⟨h.1, h.2.1, ?_⟩
  rcases h.2.2 with h | ⟨b, off, rfl, hlt, hcs⟩
  · exact .inl h
  · refine .inr ⟨b, off, rfl, by simpa [World.setCell] using hlt, fun i hi => ?_⟩
    rw [World.cell?_setCell_other _ _ _ _ (fun e => ?_)]
    · exact hcs i hi
    · have h1 := hcs i hi
      rw [← e, hc] at h1
      exact hy _ (Option.some.inj h1)

theorem msays_over {w : World} {v : Value} {h : HitM} (s : Says w v h) {r : Nat} {y : Int} {a : Option Addr} {n c : Nat} (c0 : w.cell? ⟨r, 0, none⟩ = some (.int .i64 y)) (c1 : w.cell? ⟨r, 1, none⟩ = some (.slice a n c)) (x z : Value) : Says ((w.setCell ⟨r, 0, none⟩ x).setCell ⟨r, 1, none⟩ z) v h := by
  obtain ⟨d, m, e, hv, hn, hm, hh⟩ := s
  have e1 : (w.setCell ⟨r, 0, none⟩ x).cell? ⟨r, 1, none⟩ = some (.slice a n c) := (World.cell?_setCell_other _ _ _ _ (by simp)).trans c1
  exact ⟨d, m, e, hv, hn, hm, mhas_over (mhas_over hh c0 (by intro _ h; cases h) x) e1 (by intro _ h; cases h) z⟩

def MFindDone (w w' : World) (R : Option HitM) (r : Ending) : Prop :=
  ∃ v, r = .returned (.tuple #[v, .bool R.isSome]) ∧ Says w' v (R.getD (0, [])) ∧ Below w.heap.size w w'

/-- an entry's cells stay -/
theorem keep6g {w w' : World} {s : Nat} {x0 x1 x2 x3 x4 x5 : Value} (h : w.cell? ⟨s, 0, none⟩ = some x0 ∧ w.cell? ⟨s, 1, none⟩ = some x1 ∧ w.cell? ⟨s, 2, none⟩ = some x2 ∧ w.cell? ⟨s, 3, none⟩ = some x3 ∧ w.cell? ⟨s, 4, none⟩ = some x4 ∧ w.cell? ⟨s, 5, none⟩ = some x5) (hb : Below w.heap.size w w') :
    w'.cell? ⟨s, 0, none⟩ = some x0 ∧ w'.cell? ⟨s, 1, none⟩ = some x1 ∧ w'.cell? ⟨s, 2, none⟩ = some x2 ∧ w'.cell? ⟨s, 3, none⟩ = some x3 ∧ w'.cell? ⟨s, 4, none⟩ = some x4 ∧ w'.cell? ⟨s, 5, none⟩ = some x5 := keep6 h hb

abbrev KC (ka : Option Addr) (kn kc : Nat) : Obj := .cells #[.slice ka kn kc] 31

set_option maxHeartbeats 8000000 in
set_option maxRecDepth 20000 in
theorem mfind_any {w : World} {B p : Nat} {keys most : Int} {T : List TE} {ka : Option Addr} {kn kc : Nat} {k : List Int} (t : MTab w B p keys most T) (hk : Has .u64 w ka kn k) (hn : T.length ≤ 100000) :
    Calls Try.prog 32 #[.pointer (some ⟨p, 0, none⟩), .slice ka kn kc] w fun r w' => MFindDone w w' (foundM keys T k) r := by
  have hb0 := bl_alloc (o := HC 0 none 0 0) (bl_alloc (o := KC ka kn kc) (Below.refl w.heap.size w))
  have hkl := hk.1
  have T0 := t.step hb0
  have c0 := T0.c0
  obtain ⟨la, cap, p2, hrow⟩ := T0.lst
  have b0 : ((w.alloc (KC ka kn kc)).alloc (HC 0 none 0 0)).cell? ⟨w.heap.size, 0, none⟩ = some (.slice ka kn kc) := by simp
  have HQ := new_two (w.alloc (KC ka kn kc)) (.int .i64 0) (.slice none 0 0) 40
  rw [show (w.alloc (KC ka kn kc)).heap.size = w.heap.size + 1 from by simp] at HQ
  have HX : Hid (((w.alloc (KC ka kn kc)).alloc (HC 0 none 0 0)).cell? ⟨w.heap.size + 1, 0, none⟩ = some (.int .i64 0) ∧ ((w.alloc (KC ka kn kc)).alloc (HC 0 none 0 0)).cell? ⟨w.heap.size + 1, 1, none⟩ = some (.slice none 0 0) ∧ ((w.alloc (KC ka kn kc)).alloc (HC 0 none 0 0)).frozen? ⟨w.heap.size + 1, 0, none⟩ = false ∧ ((w.alloc (KC ka kn kc)).alloc (HC 0 none 0 0)).frozen? ⟨w.heap.size + 1, 1, none⟩ = false) := HQ
  have HT0 := hid T0
  have HK := hid (hk.step hb0)
  have HB0 := hid hb0
  have hpl : p < w.heap.size := World.block_lt_of_cell? w _ t.c0
  have HOK := hid t.ok
  clear t hk hb0 T0 HQ
  generalize hR : foundM keys T k = R
  have HR := hid hR
  clear hR
  go_enter Try.func32, Try.ntmps32
  go_wp2_with fail
  generalize (w.alloc (KC ka kn kc)).alloc (HC 0 none 0 0) = w0 at *
  by_cases hkk : (kn : Int) = keys
  · have hd : ((kn : Int) != keys) = false := by simpa using hkk
    have hlen : ∀ x ∈ T, x.ks.length = kn ∧ x.ms.length = kn := fun x hx => by
      have := (HOK.out.good x hx).1; have := (HOK.out.good x hx).2.1; omega
    go_quiet (fail)
    have hbq := below_drewN (Below.refl w0.heap.size w0) nq
    have X1 : Hid ((w0.drewN nq).cell? ⟨w.heap.size + 1, 0, none⟩ = some (.int .i64 0) ∧ (w0.drewN nq).cell? ⟨w.heap.size + 1, 1, none⟩ = some (.slice none 0 0) ∧ (w0.drewN nq).frozen? ⟨w.heap.size + 1, 0, none⟩ = false ∧ (w0.drewN nq).frozen? ⟨w.heap.size + 1, 1, none⟩ = false) := HX.out
    have HC1 := hid (idx_any (hrow.step hbq) hlen hn (HK.out.step hbq) (kc := kc) (show (w0.drewN nq).cell? ⟨w.heap.size, 0, none⟩ = _ from b0))
    have B1 := hid (bl_step HB0.out hbq)
    have q2 : (w0.drewN nq).cell? ⟨p, 2, none⟩ = _ := p2
    have HR1 := hid (hrow.step hbq)
    clear hbq hd c0 p2 b0 HX hrow HK HB0 HT0
    generalize w0.drewN nq = w1 at *
    go_wp2_with fail
    refine HC1.out.mono ?_
    rintro r w2 ⟨v, rfl, hg2, hv⟩
    have B2 := hid (bl_step B1.out hg2.below)
    have hxl : w.heap.size + 1 < w1.heap.size := World.block_lt_of_cell? w1 _ X1.out.1
    have x0 := (hg2.below.cell (p := ⟨w.heap.size + 1, 0, none⟩) hxl).trans X1.out.1
    have x1 := (hg2.below.cell (p := ⟨w.heap.size + 1, 1, none⟩) hxl).trans X1.out.2.1
    have y0 := (hg2.below.frozen (p := ⟨w.heap.size + 1, 0, none⟩) hxl).trans X1.out.2.2.1
    have y1 := (hg2.below.frozen (p := ⟨w.heap.size + 1, 1, none⟩) hxl).trans X1.out.2.2.2
    rcases hv with ⟨rfl, hno⟩ | ⟨fi, x, rfl, hhit⟩
    · have hRn : R = none := by
        rw [← HR.out]; unfold foundM; rw [if_pos (by omega), found_no hno]; rfl
      subst hRn
      clear hno HC1 hg2
      go_wp2
      exact bodyPost_ret (v := .tuple #[NoHit, .bool false]) (by simp [results, Try.results32, go_sem, x0, x1]) rfl ⟨_, rfl, says_none _, (B2.out.setCell (by simp) _).setCell (by simp) _⟩
    · have hRs : R = some (x.ac, x.xs) := by
        rw [← HR.out]; unfold foundM; rw [if_pos (by omega), found_hit hhit]; rfl
      subst hRs
      have hfl : fi < T.length := (List.getElem?_eq_some_iff.1 hhit.1).1
      obtain ⟨g, d, y, rfl, hy, hat, hgd, -, -⟩ := (HR1.out.step hg2.below).at fi hfl
      have exy : x = y := by have := hhit.1; rw [hy] at this; exact (Option.some.inj this).symm
      subst exy
      have hpl2 : p < w1.heap.size := World.block_lt_of_cell? w1 _ q2
      have p2' := (hg2.below.cell (p := ⟨p, 2, none⟩) hpl2).trans q2
      obtain ⟨c0, c1, c2, c3, c4, c5⟩ := hat
      have hfi : (fi : Int) < (T.length : Int) := by omega
      have hf0 : ¬ (fi : Int) < 0 := by omega
      have hal : Below w2.heap.size w2 (w2.alloc d.ec) := bl_alloc (Below.refl _ _)
      have SN : Six (w2.alloc d.ec) w2.heap.size (.slice d.ka d.kn d.kc) (.slice d.ma d.mn d.mc) (.int .i64 d.ln) (.int .i64 d.pr) (.int .i64 d.ac) (.slice d.a d.n d.c) := six_new w2 _ _ _ _ _ _ _
      have GD := hid (hgd.step hal)
      have hx2 : w.heap.size + 1 < w2.heap.size := World.block_lt_of_cell? w2 _ x0
      have z0 := (hal.cell (p := ⟨w.heap.size + 1, 0, none⟩) hx2).trans x0
      have z1 := (hal.cell (p := ⟨w.heap.size + 1, 1, none⟩) hx2).trans x1
      have u0 := (hal.frozen (p := ⟨w.heap.size + 1, 0, none⟩) hx2).trans y0
      have u1 := (hal.frozen (p := ⟨w.heap.size + 1, 1, none⟩) hx2).trans y1
      have B3 := hid (bl_step B2.out hal)
      have hAC := hid hgd.ac
      clear hgd hhit hy HC1 hg2 hal x0 x1 y0 y1 X1 q2
      go_wp2_with fail
      have SN' := hid SN
      generalize w2.alloc d.ec = w3 at *
      generalize w2.heap.size = eb at *
      obtain ⟨-, -, -, -, n4, n5, -, -, -, -, -, -⟩ := SN
      have hel : eb < w3.heap.size := World.block_lt_of_cell? w3 _ n4
      have hxl3 : w.heap.size + 1 < w3.heap.size := World.block_lt_of_cell? w3 _ z0
      have hbd : Below w3.heap.size w3 w3.drew := (Below.refl _ _).drew
      have HL := hid (list_any (c := d.c) GD.out.n0 (GD.out.xs.step hbd) GD.out.xs3)
      clear c0 c1 c2 c3 c4 c5 p2'
      go_region_law (first
        | (go_simp; go_at_call 63; refine HL.out.mono ?_; rintro r w4 ⟨a4, c4, rfl, l4, hb4⟩; have m4 : w4.cell? ⟨eb, 4, none⟩ = some (.int .i64 d.ac) := ((bl_step hbd hb4).cell (p := ⟨eb, 4, none⟩) hel).trans n4; have m5 : w4.cell? ⟨eb, 5, none⟩ = some (.slice d.a d.n d.c) := ((bl_step hbd hb4).cell (p := ⟨eb, 5, none⟩) hel).trans n5; have m0 : w4.cell? ⟨w.heap.size + 1, 0, none⟩ = some (.int .i64 0) := ((bl_step hbd hb4).cell (p := ⟨w.heap.size + 1, 0, none⟩) hxl3).trans z0; have m1 : w4.cell? ⟨w.heap.size + 1, 1, none⟩ = some (.slice none 0 0) := ((bl_step hbd hb4).cell (p := ⟨w.heap.size + 1, 1, none⟩) hxl3).trans z1; have v0 : w4.frozen? ⟨w.heap.size + 1, 0, none⟩ = false := ((bl_step hbd hb4).frozen (p := ⟨w.heap.size + 1, 0, none⟩) hxl3).trans u0; have v1 : w4.frozen? ⟨w.heap.size + 1, 1, none⟩ = false := ((bl_step hbd hb4).frozen (p := ⟨w.heap.size + 1, 1, none⟩) hxl3).trans u1))
      all_goals
        have SY : Says w4 (.agg #[.int .i64 d.ac, .slice a4 d.n c4]) (x.ac, x.xs) := ⟨a4, d.n, c4, by rw [hAC.out], l4.1, GD.out.xs3, l4.2.2.1⟩
        have HEND : Hid (MFindDone w ((w4.setCell ⟨w.heap.size + 1, 0, none⟩ (.int .i64 d.ac)).setCell ⟨w.heap.size + 1, 1, none⟩ (.slice a4 d.n c4)) (some (x.ac, x.xs)) (.returned (.tuple #[.agg #[.int .i64 d.ac, .slice a4 d.n c4], .bool true]))) := ⟨_, rfl, msays_over SY m0 m1 _ _, ((bl_step (bl_step B3.out hbd) hb4).setCell (by simp) _).setCell (by simp) _⟩
        clear SY l4 hb4 HL
        go_wp2
        exact bodyPost_ret (v := .tuple #[.agg #[.int .i64 d.ac, .slice a4 d.n c4], .bool true]) (by simp [results, Try.results32, go_sem, m0, m1]) rfl HEND.out
  · have hd : ((kn : Int) != keys) = true := by simpa using hkk
    have hRn : R = none := by
      rw [← HR.out]; unfold foundM; rw [if_neg (by rw [hkl]; exact hkk)]
    subst hRn
    go_quiet (fail)
    have x0 : (w0.drewN nq).cell? ⟨w.heap.size + 1, 0, none⟩ = _ := HX.out.1
    have x1 : (w0.drewN nq).cell? ⟨w.heap.size + 1, 1, none⟩ = _ := HX.out.2.1
    have y0 : (w0.drewN nq).frozen? ⟨w.heap.size + 1, 0, none⟩ = _ := HX.out.2.2.1
    have y1 : (w0.drewN nq).frozen? ⟨w.heap.size + 1, 1, none⟩ = _ := HX.out.2.2.2
    have B1 := hid (below_drewN HB0.out nq)
    clear hd c0 p2 b0 HX
    generalize w0.drewN nq = w1 at *
    go_wp2
    exact bodyPost_ret (v := .tuple #[NoHit, .bool false]) (by simp [results, Try.results32, go_sem, x0, x1]) rfl ⟨_, rfl, says_none _, (B1.out.setCell (by simp) _).setCell (by simp) _⟩
end Go.Proofs.Ytlnkfgdepddmlac
