/- Texts of one chain, joined: XRun, XNew, XCounts, XBeg, XLaw. -/
import Derived.Test.YtajelgjbgehahaaGreatJX4
import Derived.Test.YtajelgjbgehahaaGreatJX3
import Derived.Test.YtajelgjbgehahaaGreatJF3
import Derived.Test.YtajelgjbgehahaaGreatJ15
import Derived.Test.YtajelgjbgehahaaGreatJP
import Derived.Test.YtajelgjbgehahaaGreatJX1
namespace Go.Proofs.YtajelgjbgehahaaGreat
open Go.RowKit

/-- the plan, in plain numbers -/
@[reducible] def CP : PPlan := ⟨[[8]], [], [⟨0, ⟨0, 0⟩, [], 1000⟩], [⟨[], [⟨1, ⟨0, 0⟩, 0, [⟨2, ⟨0, 0⟩, 0⟩, ⟨1, ⟨0, 0⟩, 1⟩, ⟨3, ⟨0, 0⟩, 0⟩]⟩]⟩], [], [⟨2, 0, [], 1, 0⟩], [0]⟩

/-- what lies there of it -/
structure CountsD (d : PlanD) (x : HeadD) (s : StateD) (a : ActD) (e : QSl) (nd : NodeD) : Prop where
  hs : d.hs = [x]
  xw : x.ws = [8]
  ms : d.ms = []
  ss : d.ss = [s]
  s1 : s.head = ((0 : Nat) : Int)
  s2 : s.cs = []
  s3 : s.els = 1000
  al : d.al = [a]
  os : a.os = [⟨1, ⟨((0 : Nat) : Int), ((0 : Nat) : Int)⟩, 0, e, [⟨2, ⟨0, 0⟩, 0⟩, ⟨1, ⟨0, 0⟩, 1⟩, ⟨3, ⟨0, 0⟩, 0⟩]⟩]
  ts : d.ts = []
  ns : d.ns = [nd]
  n1 : nd.kind = 2
  n2 : nd.n = ((0 : Nat) : Int)
  n3 : nd.yes = 1
  out : d.os = [0]

theorem counts_are {d : PlanD} (h : d.p = CP) : ∃ x s a e nd, CountsD d x s a e nd := by
  simp only [PlanD.p, CP, PPlan.mk.injEq, List.map_eq_singleton_iff, List.map_eq_nil_iff] at h
  obtain ⟨⟨x, h1, h1'⟩, h2, ⟨s, h3, h3'⟩, ⟨a, h4, h4'⟩, h5, ⟨nd, h6, h6'⟩, h7⟩ := h
  simp only [ActD.p, PAct.mk.injEq, List.map_eq_singleton_iff] at h4'
  obtain ⟨_, o, h8, h8'⟩ := h4'
  simp only [StateD.p, PState.mk.injEq] at h3'
  simp only [NodeD.p, PNode.mk.injEq] at h6'
  simp only [OpD.p, POp.mk.injEq] at h8'
  obtain ⟨kind, r, head, e, es⟩ := o
  obtain ⟨rfl, rfl, rfl, rfl⟩ := h8'
  exact ⟨x, s, a, e, nd, h1, h1', h2, h3, h3'.1, h3'.2.2.1, h3'.2.2.2, h4, h8, h5, h6, h6'.1, h6'.2.1, h6'.2.2.2.1, h7⟩

section
variable {d : PlanD} {x : HeadD} {s : StateD} {a : ActD} {e : QSl} {nd : NodeD} {W0 w : World} {G : TripD}

theorem CountsD.xn (h : CountsD d x s a e nd) (hl : d.lie w) : x.w.n = 1 := by
  have hn : d.heads.n = 1 := by rw [← hl.hs.1, h.hs]; rfl
  obtain ⟨_, _, x', _, hx', hp⟩ := row_at hl.hs (i := 0) (by omega)
  rw [h.hs] at hx'
  simp only [List.getElem?_cons_zero, Option.some.injEq] at hx'
  subst hx'
  have := hp.2.1
  rw [h.xw] at this
  exact this.symm
theorem CountsD.hn (h : CountsD d x s a e nd) (hl : d.lie w) : d.heads.n = 1 := by rw [← hl.hs.1, h.hs]; rfl
theorem CountsD.mn (h : CountsD d x s a e nd) (hl : d.lie w) : d.mta.n = 0 := by have := hl.ms.1; rw [h.ms] at this; exact this.symm

theorem CountsD.has (h : CountsD d x s a e nd) (hl : d.lie w) : Has .i64 w x.w.a 1 [8] := by
  have hn := h.hn hl
  obtain ⟨_, _, x', _, hx', hp⟩ := row_at hl.hs (i := 0) (by omega)
  rw [h.hs] at hx'
  simp only [List.getElem?_cons_zero, Option.some.injEq] at hx'
  subst hx'
  have := hp.2
  rw [h.xn hl, h.xw] at this
  exact this

theorem xtake_79 (h : CountsD d x s a e nd) (hg : TripAt d W0 G w) (hV : G.V = [[0]]) (ht : G.taken = 0) (hbs : G.bs = [7, 9]) :
    Calls Tryz.prog 65 #[.pointer (some ⟨G.q, 0, none⟩), .int .i64 ((0 : Nat) : Int)] w fun e w'' => e = .returned (.bool true) ∧ TripAt d W0 { G with taken := 1, T := G.T.set 0 true, V := [[7]] } w'' ∧ Fr G d.heads.n w w'' := by
  have hxn := h.xn hg.lie
  have hbn : G.b.n = 2 := by have := hg.hb.1; rw [hbs] at this; exact this.symm
  have hr : ∀ w', Below w.heap.size w w' → ReadsAt x G.b G.taken 0 0 [7] w' := fun w' hb => by
    have hw := (h.has hg.lie).step (bl_step hg.bel hb)
    have hz := hg.hb.step (bl_step hg.bel hb)
    rw [hbs, hbn] at hz
    have := pread_good x.w.a G.b.a 1 x.w.c 2 G.b.c 1 0 [7, 9] [8] w' (by decide) head_8 (by decide) hz hw (by decide) (by decide) (psize_good head_8)
    unfold ReadsAt
    rw [hxn, hbn, ht]
    refine this.mono fun q w'' ⟨g, c, hq, hh, hb'⟩ => ⟨g, c, hq, fun _ => ?_, hb'⟩
    have ep : Mth.parts [7, 9] (0 * 8) [8] 1 = [7] := by decide +kernel
    rw [ep] at hh
    exact hh
  have hS : ∀ w', Below w.heap.size w w' → Calls Tryz.prog 70 #[.agg #[.slice x.w.a x.w.n x.w.c]] w' fun q w'' => q = .returned (.tuple #[.int .i64 ((1 : Nat) : Int), .agg #[.int .i64 0, .int .i64 0]]) ∧ Below w'.heap.size w' w'' := fun w' hb => by
    have := psize_good head_8 x.w.a x.w.c w' ((h.has hg.lie).step (bl_step hg.bel hb))
    rw [hxn]
    exact this
  have := xtake_reg hg 0 x (by rw [h.hs]; rfl) 0 0 [7] 1 hr hS (fun _ => ⟨by rw [hxn]; rfl, by omega, by rw [hxn, hV]; rfl⟩) (by decide) (by omega)
  refine this.mono fun q w'' hq => ?_
  rw [if_pos rfl, hV, ht] at hq
  exact hq

theorem xtake_nil (h : CountsD d x s a e nd) (hg : TripAt d W0 G w) (ht : G.taken = 0) (hb0 : G.b.n = 0) :
    Calls Tryz.prog 65 #[.pointer (some ⟨G.q, 0, none⟩), .int .i64 ((0 : Nat) : Int)] w fun e w'' => e = .returned (.bool false) ∧ TripAt d W0 G w'' ∧ Fr G d.heads.n w w'' := by
  have hxn := h.xn hg.lie
  have hr : ∀ w', Below w.heap.size w w' → ReadsAt x G.b G.taken 3 (-1) [] w' := fun w' hb => by
    have hw := (h.has hg.lie).step (bl_step hg.bel hb)
    have := pread_short x.w.a G.b.a 1 x.w.c 0 G.b.c 1 0 [8] w' (by decide) (by decide) hw (.inr (by decide)) (psize_good head_8)
    unfold ReadsAt
    rw [hxn, hb0, ht]
    exact this.mono fun q w'' ⟨hq, hb'⟩ => ⟨none, 0, hq, fun h => absurd h (by decide), hb'⟩
  have hS : ∀ w', Below w.heap.size w w' → Calls Tryz.prog 70 #[.agg #[.slice x.w.a x.w.n x.w.c]] w' fun q w'' => q = .returned (.tuple #[.int .i64 ((1 : Nat) : Int), .agg #[.int .i64 0, .int .i64 0]]) ∧ Below w'.heap.size w' w'' := fun w' hb => by
    have := psize_good head_8 x.w.a x.w.c w' ((h.has hg.lie).step (bl_step hg.bel hb))
    rw [hxn]
    exact this
  have := xtake_reg hg 0 x (by rw [h.hs]; rfl) 3 (-1) [] 1 hr hS (fun h => absurd h (by decide)) (by decide) (by omega)
  refine this.mono fun q w'' hq => ?_
  rw [if_neg (by decide)] at hq
  exact hq

theorem xdo_79 (h : CountsD d x s a e nd) (hg : TripAt d W0 G w) (hV : G.V = [[7]]) :
    Calls Tryz.prog 67 #[.pointer (some ⟨G.q, 0, none⟩), .agg #[.int .i64 ((0 : Nat) : Int), .slice none 0 0]] w fun q w'' => q = .returned (.tuple #[]) ∧ TripAt d W0 { G with V := [[8]] } w'' ∧ Fr G d.heads.n w w'' := by
  have hn := h.hn hg.lie
  have hf7 : fieldN G ⟨0, 0⟩ = 7 := by unfold fieldN rowL; rw [hV]; rfl
  have htv : treeV G [⟨2, ⟨0, 0⟩, 0⟩, ⟨1, ⟨0, 0⟩, 1⟩, ⟨3, ⟨0, 0⟩, 0⟩] = 8 := by
    unfold treeV
    simp only [evalL, madeN, takesN]
    rw [hf7]
    decide +kernel
  have hw8 : widthC d ((0 : Nat) : Int) ((0 : Nat) : Int) [] = 8 := by
    unfold widthC fieldsL
    rw [h.hs]
    simp [h.xw, hn]
  have hen : e.n ≤ 100 := by
    obtain ⟨_, _, a', _, ha', hp⟩ := row_at hg.lie.al (i := 0) (by rw [← hg.lie.al.1, h.al]; exact Nat.zero_lt_one)
    rw [h.al] at ha'
    simp only [List.getElem?_cons_zero, Option.some.injEq] at ha'
    subst ha'
    have hr := hp.2.2.2
    obtain ⟨_, _, o, _, ho, hpo⟩ := row_at hr (i := 0) (by rw [← hr.1, h.os]; exact Nat.zero_lt_one)
    rw [h.os] at ho
    simp only [List.getElem?_cons_zero, Option.some.injEq] at ho
    subst ho
    have := hpo.2.2.2.2.2.1
    simp at this
    omega
  have hok : okL [⟨2, ⟨0, 0⟩, 0⟩, ⟨1, ⟨0, 0⟩, 1⟩, ⟨3, ⟨0, 0⟩, 0⟩] 0 := by
    simp only [okL, takesN]
    decide
  have := xdo_one hg 0 ⟨none, 0, 0⟩ a (by rw [h.al]; rfl) 0 0 0 e _ h.os (by omega) (by rw [hV]; decide) 8 hw8 (by decide) hen hok (fun p hp ho => by
    simp only [List.mem_cons, List.not_mem_nil, or_false] at hp
    have : p = ⟨2, ⟨0, 0⟩, 0⟩ := by
      rcases hp with rfl | rfl | rfl
      · rfl
      · exact absurd ho (by decide)
      · exact absurd ho (by decide)
    subst this
    refine ⟨⟨.inr (.inr ⟨by decide, by rw [hn]; decide⟩), by decide, ?_⟩, ?_⟩
    · show (0 : Int) < ((rowL G 0).length : Int)
      have e1 : rowL G 0 = [7] := by unfold rowL; rw [hV]; rfl
      rw [e1]
      decide
    · show 0 ≤ fieldN G ⟨0, 0⟩ ∧ fieldN G ⟨0, 0⟩ < _
      rw [hf7]
      decide) (by rw [htv]; decide)
  refine this.mono fun q w'' hq => ?_
  obtain ⟨h1, h2, h3⟩ := hq
  rw [htv, hV] at h2
  exact ⟨h1, h2, h3⟩

/-- what Run tells -/
def RunDone (port : Int) (bs : List Int) (w : World) (q : Ending) (w' : World) : Prop := ∃ (ra : Option Addr) (rc : Nat), q = .returned (.tuple #[.agg #[.int .i64 port, .slice ra bs.length rc], .agg #[.int .i64 0, .int .i64 0]]) ∧ Has .u8 w' ra bs.length bs ∧ Below w.heap.size w w'

/-- the two boxes of Run's results -/
theorem run_boxes (w : World) : ∃ (W2 : World) (rx fx : Nat), W2 = (w.alloc (.cells #[.int .i64 0, .slice none 0 0] 42)).alloc (.cells #[.int .i64 0, .int .i64 0] 28) ∧ rx = w.heap.size ∧ fx = w.heap.size + 1 ∧ Below w.heap.size w W2 ∧ (∀ w', Below W2.heap.size W2 w' → w'.cell? ⟨rx, 0, none⟩ = some (.int .i64 0) ∧ w'.cell? ⟨rx, 1, none⟩ = some (.slice none 0 0) ∧ w'.cell? ⟨fx, 0, none⟩ = some (.int .i64 0) ∧ w'.cell? ⟨fx, 1, none⟩ = some (.int .i64 0) ∧ w'.frozen? ⟨rx, 0, none⟩ = false ∧ w'.frozen? ⟨rx, 1, none⟩ = false ∧ w'.frozen? ⟨fx, 0, none⟩ = false ∧ w'.frozen? ⟨fx, 1, none⟩ = false ∧ rx < w'.heap.size ∧ fx < w'.heap.size) := by
  refine ⟨_, _, _, rfl, rfl, rfl, bl_alloc (bl_alloc (Below.refl _ _)), fun w' h => ?_⟩
  have r : ∀ (j : Nat) (v : Value), (#[.int .i64 0, .slice none 0 0] : Array Value)[j]? = some v → w'.cell? ⟨w.heap.size, j, none⟩ = some v := fun j v hv => cell_keep ((World.cell?_alloc_past _ _ _ (by simp)).trans ((World.cell?_alloc_at _ _ _ _ rfl).trans hv)) h
  have f : ∀ (j : Nat) (v : Value), (#[.int .i64 0, .int .i64 0] : Array Value)[j]? = some v → w'.cell? ⟨w.heap.size + 1, j, none⟩ = some v := fun j v hv => cell_keep ((World.cell?_alloc_at _ _ _ _ (by simp)).trans hv) h
  have rf : ∀ j, w'.frozen? ⟨w.heap.size, j, none⟩ = false := fun j => (h.frozen (p := ⟨w.heap.size, j, none⟩) (by simp; omega)).trans ((World.frozen?_alloc_past _ _ _ (by simp)).trans (World.frozen?_alloc_at _ _ _ _ rfl))
  have ff : ∀ j, w'.frozen? ⟨w.heap.size + 1, j, none⟩ = false := fun j => (h.frozen (p := ⟨w.heap.size + 1, j, none⟩) (by simp)).trans (World.frozen?_alloc_at _ _ _ _ (by simp))
  exact ⟨r 0 _ rfl, r 1 _ rfl, f 0 _ rfl, f 1 _ rfl, rf 0, rf 1, ff 0, ff 1, World.block_lt_of_cell? _ _ (r 0 _ rfl), World.block_lt_of_cell? _ _ (f 0 _ rfl)⟩

set_option maxHeartbeats 8000000 in
set_option maxRecDepth 20000 in
theorem xrun_nil (h : CountsD d x s a e nd) (hl : d.lie w) (pp : Nat) (st : QSl) (hpa : PipeAt d pp st w) :
    Calls Tryz.prog 9 #[.pointer (some ⟨pp, 0, none⟩), .slice none 0 0, .int .i64 3] w (RunDone (-1) [] w) := by
  obtain ⟨W2, rx, fx, eW, er, ef, b2, hbx⟩ := run_boxes w
  have HTP := hid (xtrip_one d pp st ⟨none, 0, 0⟩ [] 3 W2 (hl.step b2) (hpa.step b2) x h.hs (h.xn hl) (h.mn hl) (by decide) (has_nil _ _) (Nat.le_refl _))
  dsimp only at HTP
  have HB2 := hid b2
  have HBX := hid hbx
  have EW := hid eW
  have ER := hid er
  have EF := hid ef
  have HH := hid h
  clear h hl hpa eW er ef b2 hbx
  go_enter Tryz.func9, Tryz.ntmps9
  go_wp2_with fail
  rw [← EW.out, ← EF.out, ← ER.out]
  clear EW
  refine HTP.out.mono ?_
  rintro q w3 ⟨G, rfl, hg, hT, hV, hb, hbs, ht, ho, hL⟩
  have HPA := hid (xparse_one hg 0 s HH.out.ss HH.out.s1 HH.out.s2 HH.out.s3 false rfl (fun w' hg' => xtake_nil HH.out hg' ht (by rw [hb])))
  have HLO : Hid (∀ k, G.own d.heads.n k → W2.heap.size ≤ k) := fun k hk => by
    rcases hk with rfl | rfl | rfl | ⟨i, hi, rfl⟩
    · exact hg.nq
    · exact hg.nt.1
    · exact hg.nm
    · exact hg.nr i hi
  have HB3 := hid hg.bel
  clear HTP hg hT hV hb hbs ht ho hL
  go_wp2_with fail
  refine HPA.out.mono ?_
  rintro q w4 ⟨rfl, hg4, hf4⟩
  have hb4 : Below W2.heap.size W2 w4 := HB3.out.trans (hf4.low HB3.out.size HLO.out)
  obtain ⟨r0, r1, f0, f1, p0, p1, p2, p3, l0, l1⟩ := HBX.out w4 hb4
  have hrf : ¬ rx = fx := by rw [ER.out, EF.out]; omega
  have hfr : ¬ fx = rx := by rw [ER.out, EF.out]; omega
  have HD : Hid (RunDone (-1) [] w (.returned (.tuple #[.agg #[.int .i64 (-1), .slice none 0 0], .agg #[.int .i64 0, .int .i64 0]])) ((((w4.setCell ⟨rx, 0, none⟩ (.int .i64 (-1))).setCell ⟨rx, 1, none⟩ (.slice none 0 0)).setCell ⟨fx, 0, none⟩ (.int .i64 0)).setCell ⟨fx, 1, none⟩ (.int .i64 0))) := by
    have hw := HB2.out.size
    have e1 := ER.out
    have e2 := EF.out
    refine ⟨none, 0, rfl, has_nil _ _, ?_⟩
    exact (((((bl_step HB2.out hb4).setCell (p := ⟨rx, 0, none⟩) (by show w.heap.size ≤ rx; omega) _).setCell (p := ⟨rx, 1, none⟩) (by show w.heap.size ≤ rx; omega) _).setCell (p := ⟨fx, 0, none⟩) (by show w.heap.size ≤ fx; omega) _).setCell (p := ⟨fx, 1, none⟩) (by show w.heap.size ≤ fx; omega) _)
  clear hg4 hf4 hb4 HPA HLO HB3 HBX HB2 HH ER EF
  go_wp2
  exact bodyPost_ret (v := .tuple #[.agg #[.int .i64 (-1), .slice none 0 0], .agg #[.int .i64 0, .int .i64 0]]) (by simp [results, Tryz.results9, go_sem, *]) rfl HD.out

set_option maxHeartbeats 8000000 in
set_option maxRecDepth 20000 in
theorem xrun_79 (h : CountsD d x s a e nd) (hl : d.lie w) (pp : Nat) (st : QSl) (hpa : PipeAt d pp st w) (pb pc : Nat) (hb0 : Has .u8 w (some ⟨pb, 0, none⟩) 2 [7, 9]) (hpc : 2 ≤ pc) :
    Calls Tryz.prog 9 #[.pointer (some ⟨pp, 0, none⟩), .slice (some ⟨pb, 0, none⟩) 2 pc, .int .i64 3] w (RunDone 0 [8, 9] w) := by
  obtain ⟨W2, rx, fx, eW, er, ef, b2, hbx⟩ := run_boxes w
  have HTP := hid (xtrip_one d pp st ⟨some ⟨pb, 0, none⟩, 2, pc⟩ [7, 9] 3 W2 (hl.step b2) (hpa.step b2) x h.hs (h.xn hl) (h.mn hl) (by decide) (hb0.step b2) hpc)
  dsimp only at HTP
  have HB2 := hid b2
  have HBX := hid hbx
  have EW := hid eW
  have ER := hid er
  have EF := hid ef
  have HH := hid h
  clear h hl hpa eW er ef b2 hbx hb0 hpc
  go_enter Tryz.func9, Tryz.ntmps9
  go_wp2_with fail
  rw [← EW.out, ← EF.out, ← ER.out]
  clear EW
  refine HTP.out.mono ?_
  rintro q w3 ⟨G, rfl, hg, hT, hV, hb, hbs, ht, ho, hL⟩
  have HPA := hid (xparse_one (G' := { G with taken := 1, T := G.T.set 0 true, V := [[7]] }) hg 0 s HH.out.ss HH.out.s1 HH.out.s2 HH.out.s3 true rfl (fun w' hg' => xtake_79 HH.out hg' hV ht hbs))
  have HLO : Hid (∀ k, G.own d.heads.n k → W2.heap.size ≤ k) := fun k hk => by
    rcases hk with rfl | rfl | rfl | ⟨i, hi, rfl⟩
    · exact hg.nq
    · exact hg.nt.1
    · exact hg.nm
    · exact hg.nr i hi
  have HB3 := hid hg.bel
  have HT := hid hT
  have HBB := hid hb
  have HBS := hid hbs
  have HO := hid ho
  have HL := hid hL
  clear HTP hg hT hV hb hbs ht ho hL
  go_wp2_with fail
  refine HPA.out.mono ?_
  rintro q w4 ⟨rfl, hg4, hf4⟩
  have hb4 : Below W2.heap.size W2 w4 := HB3.out.trans (hf4.low HB3.out.size HLO.out)
  have HCT := hid (xcontrol_one (G' := { G with taken := 1, T := G.T.set 0 true, V := [[8]] }) hg4 0 nd HH.out.ns HH.out.n1 HH.out.n2 HH.out.n3 rfl (fun w' hg' => xdo_79 HH.out hg' rfl))
  dsimp only at HCT
  have HB4 := hid hb4
  clear hg4 hf4 hb4 HPA HB3
  go_wp2_with fail
  refine HCT.out.mono ?_
  rintro q w5 ⟨rfl, hg5, hf5⟩
  have hb5 : Below W2.heap.size W2 w5 := HB4.out.trans (hf5.low HB4.out.size HLO.out)
  have HRS := hid (xresult_one hg5 x HH.out.hs HH.out.xw HH.out.out 8 (by decide) (by show G.T.set 0 true = [true]; rw [HT.out]; rfl) rfl HL.out pb 0 (by show G.b.a = _; rw [HBB.out]) (by show 1 ≤ G.b.n; rw [HBB.out]; exact Nat.le_succ 1) (by show G.b.n ≤ 1000; rw [HBB.out]; exact (by decide : 2 ≤ 1000)))
  dsimp only at HRS
  rw [HO.out, HBS.out] at HRS
  have HB5 := hid hb5
  clear hg5 hf5 hb5 HCT HB4
  go_wp2_with fail
  refine HRS.out.mono ?_
  rintro q w6 ⟨ra, rc, rfl, hh, hb6⟩
  have hb6' : Below W2.heap.size W2 w6 := bl_step HB5.out hb6
  obtain ⟨r0, r1, f0, f1, p0, p1, p2, p3, l0, l1⟩ := HBX.out w6 hb6'
  have hrf : ¬ rx = fx := by rw [ER.out, EF.out]; omega
  have hfr : ¬ fx = rx := by rw [ER.out, EF.out]; omega
  have hh2 : Has .u8 w6 ra 2 [8, 9] := hh
  have HD : Hid (RunDone 0 [8, 9] w (.returned (.tuple #[.agg #[.int .i64 0, .slice ra 2 rc], .agg #[.int .i64 0, .int .i64 0]])) ((((w6.setCell ⟨rx, 0, none⟩ (.int .i64 0)).setCell ⟨rx, 1, none⟩ (.slice ra 2 rc)).setCell ⟨fx, 0, none⟩ (.int .i64 0)).setCell ⟨fx, 1, none⟩ (.int .i64 0))) := by
    have hw := HB2.out.size
    have e1 := ER.out
    have e2 := EF.out
    refine ⟨ra, rc, rfl, ?_, ?_⟩
    · have k1 := hh2.put (by decide) r0 (.int .i64 0)
      have k2 := k1.keepCell (cell_other r1 (by omega)) (fun n h => by cases h) (.slice ra 2 rc)
      have g0 := (World.cell?_setCell_other (w6.setCell ⟨rx, 0, none⟩ (.int .i64 0)) ⟨rx, 1, none⟩ ⟨fx, 0, none⟩ (.slice ra 2 rc) (by intro e; simp only [Addr.mk.injEq] at e; omega)).trans ((World.cell?_setCell_other w6 ⟨rx, 0, none⟩ ⟨fx, 0, none⟩ (.int .i64 0) (by intro e; simp only [Addr.mk.injEq] at e; omega)).trans f0)
      have g1 := (World.cell?_setCell_other (w6.setCell ⟨rx, 0, none⟩ (.int .i64 0)) ⟨rx, 1, none⟩ ⟨fx, 1, none⟩ (.slice ra 2 rc) (by intro e; simp only [Addr.mk.injEq] at e; omega)).trans ((World.cell?_setCell_other w6 ⟨rx, 0, none⟩ ⟨fx, 1, none⟩ (.int .i64 0) (by intro e; simp only [Addr.mk.injEq] at e; omega)).trans f1)
      exact k2.put2 (by decide) g0 g1 _ _
    · exact (((((bl_step HB2.out hb6').setCell (p := ⟨rx, 0, none⟩) (by show w.heap.size ≤ rx; omega) _).setCell (p := ⟨rx, 1, none⟩) (by show w.heap.size ≤ rx; omega) _).setCell (p := ⟨fx, 0, none⟩) (by show w.heap.size ≤ fx; omega) _).setCell (p := ⟨fx, 1, none⟩) (by show w.heap.size ≤ fx; omega) _)
  clear hh hh2 hb6 hb6' HRS HLO HB5 HBX HB2 HH ER EF HT HBB HBS HO HL
  go_wp2
  exact bodyPost_ret (v := .tuple #[.agg #[.int .i64 0, .slice ra 2 rc], .agg #[.int .i64 0, .int .i64 0]]) (by simp [results, Tryz.results9, go_sem, *]) rfl HD.out
end
end Go.Proofs.YtajelgjbgehahaaGreat

namespace Go.Proofs.YtajelgjbgehahaaGreat
open Go.RowKit

theorem CP.chk : chkP CP = (0, 0) := by decide +kernel
theorem CP.ok : (chkP CP).1 = 0 := by rw [CP.chk]
theorem CP.end_ (h : (chkP CP).1 = 0) : APp CP h CP.ss.length = [⟨0, 0, 0, 0, true⟩, ⟨1, 1, 1, 1, true⟩] := by
  show Wk.AP (parOf CP h) 1 = _
  kernel_rfl
theorem CP.walk : WalkIs CP 0 0 := .inr ⟨CP.ok, .inr ⟨fun j hj => by
  rw [CP.end_ CP.ok]
  have : j = 0 := by have : j < 1 := hj; omega
  subst this
  decide +kernel, rfl, rfl⟩⟩
theorem CP.start (h : (chkP CP).1 = 0) : startN CP h = 1 := by unfold startN; rw [CP.end_ h]; rfl
theorem CP.flow : FlowIs CP 0 0 := .inr ⟨CP.ok, CP.walk, .inr ⟨fun j hj => by
  rw [CP.start CP.ok]
  unfold badAt
  have : j = 0 := by have : j < 1 := hj; omega
  subst this
  decide +kernel, rfl, rfl⟩⟩

/-- a cell is set to what lies there -/
theorem bl_put_same {w : World} {p : Addr} {v : Value} (h : w.cell? p = some v) : Below w.heap.size w (w.setCell p v) := by
  refine ⟨rfl, rfl, rfl, by simp [World.setCell], fun k _ => ?_⟩
  by_cases e : k = p.block
  · subst e
    unfold World.cell? at h
    cases hb : w.heap[p.block]? with
    | none => simp [World.setCell, Array.getElem?_modify, hb]
    | some o =>
      rw [hb] at h
      cases o with
      | cells c t z =>
        simp only at h
        split at h
        · cases h
        · rename_i hs
          have hl : p.off < c.size := by
            rcases Nat.lt_or_ge p.off c.size with g | g
            · exact g
            · rw [Array.getElem?_eq_none g] at h; cases h
          have hv : c[p.off] = v := by rw [Array.getElem?_eq_getElem hl] at h; exact Option.some.inj h
          have hset : c.setIfInBounds p.off v = c := by
            apply Array.ext
            · simp
            · intro i h1 h2
              rw [Array.getElem_setIfInBounds]
              split
              · rename_i e; subst e; exact hv.symm
              · rfl
          simp [World.setCell, Array.getElem?_modify, hb, hs, hset]
      | _ => simp at h
  · exact Below.heap_setCell _ _ _ _ e

/-- what New tells -/
def NewDone (w : World) (e : Ending) (w' : World) : Prop := ∃ (d : PlanD) (pp : Nat), e = .returned (.tuple #[.pointer (some ⟨pp, 0, none⟩), .agg #[.int .i64 0, .int .i64 0]]) ∧ d.p = CP ∧ d.lie w' ∧ PipeAt d pp ⟨none, 0, 0⟩ w' ∧ Below w.heap.size w w'

theorem pipe_at (d : PlanD) (w : World) {T : TypeId} : PipeAt d w.heap.size ⟨none, 0, 0⟩ (w.alloc (.cells #[.slice none 0 0, .slice d.heads.a d.heads.n d.heads.c, .slice d.mta.a d.mta.n d.mta.c, .slice d.states.a d.states.n d.states.c, .slice d.acts.a d.acts.n d.acts.c, .slice d.tabs.a d.tabs.n d.tabs.c, .slice d.nodes.a d.nodes.n d.nodes.c, .slice d.out.a d.out.n d.out.c] T)) :=
  ⟨(World.cell?_alloc_at _ _ _ _ rfl).trans rfl, (World.cell?_alloc_at _ _ _ _ rfl).trans rfl, (World.cell?_alloc_at _ _ _ _ rfl).trans rfl, (World.cell?_alloc_at _ _ _ _ rfl).trans rfl, (World.cell?_alloc_at _ _ _ _ rfl).trans rfl, (World.cell?_alloc_at _ _ _ _ rfl).trans rfl, (World.cell?_alloc_at _ _ _ _ rfl).trans rfl, (World.cell?_alloc_at _ _ _ _ rfl).trans rfl⟩

set_option maxHeartbeats 8000000 in
set_option maxRecDepth 20000 in
theorem xnew (d : PlanD) (w : World) (hp : d.p = CP) (hl : d.lie w) (h0 : d.nil0) (hs : d.small) (hf : d.fits) : Calls Tryz.prog 7 #[d.v] w (NewDone w) := by
  obtain ⟨W2, hW⟩ : ∃ W2, W2 = ((w.alloc (.cells #[.slice d.heads.a d.heads.n d.heads.c, .slice d.mta.a d.mta.n d.mta.c, .slice d.states.a d.states.n d.states.c, .slice d.acts.a d.acts.n d.acts.c, .slice d.tabs.a d.tabs.n d.tabs.c, .slice d.nodes.a d.nodes.n d.nodes.c, .slice d.out.a d.out.n d.out.c] 38)).alloc (.cells #[.int .i64 0, .int .i64 0] 28)) := ⟨_, rfl⟩
  obtain ⟨s, es⟩ : ∃ s, s = w.heap.size := ⟨_, rfl⟩
  obtain ⟨f, ef⟩ : ∃ f, f = w.heap.size + 1 := ⟨_, rfl⟩
  have HA : Hid (WlkAt d w W2 s f) := by rw [hW, es, ef]; exact wlk_at d w
  have HB : Hid (Below w.heap.size w W2) := by rw [hW]; exact bl_alloc (bl_alloc (Below.refl _ _))
  have HCK := hid (fcheck_any d W2 (hl.step HB.out) hs)
  have HOW : Hid (∀ w', Below W2.heap.size W2 w' → Calls Tryz.prog 13 #[d.v] w' (PlanDone d w')) := fun w' h => own_plan d w' (hl.step (bl_step HB.out h)) h0 hf
  have htn : d.tabs.n = 0 := by
    have h1 := hl.ts.1
    have h2 : d.p.ts = [] := by rw [hp]
    have h3 : d.ts = [] := by simpa [PlanD.p] using h2
    rw [h3] at h1
    exact h1.symm
  have HTN := hid htn
  have HP := hid hp
  have EW := hid hW
  have ES := hid es
  have EF := hid ef
  obtain ⟨c0, c1, c2, c3, c4, c5, c6⟩ := HA.out.cs
  clear hl hs hW es ef hp h0 hf htn c0 c1 c2 c3 c4 c5 c6
  go_enter Tryz.func7, Tryz.ntmps7
  go_upto_region 1 with fail
  rw [← EW.out, ← EF.out, ← ES.out]
  clear EW EF ES
  obtain ⟨c0, c1, c2, c3, c4, c5, c6⟩ := HA.out.cs
  go_wp2_with fail
  refine HCK.out.mono ?_
  rintro e w1 ⟨C, A, rfl, hi, hb1⟩
  rw [HP.out] at hi
  obtain ⟨rfl, rfl⟩ := flowis_one hi CP.flow
  have HA1 := hid (HA.out.step hb1)
  have HB1 := hid hb1
  clear HCK HA hi hb1 c0 c1 c2 c3 c4 c5 c6
  obtain ⟨c0, c1, c2, c3, c4, c5, c6⟩ := HA1.out.cs
  have hsl : s < w1.heap.size := World.block_lt_of_cell? _ _ c0
  obtain ⟨W3, eW3⟩ : ∃ W3, W3 = w1.alloc (.cells #[.int .i64 0, .int .i64 0] 28) := ⟨_, rfl⟩
  have b3 : Below w1.heap.size w1 W3 := by rw [eW3]; exact bl_alloc (Below.refl _ _)
  have HB3 := hid (bl_step HB1.out b3)
  have HA3 := hid (HA1.out.step b3)
  have HO3 := hid (HOW.out W3 HB3.out)
  have E3 := hid eW3
  clear eW3 b3 HA1 HB1 HOW
  go_wp2_with fail
  rw [← E3.out]
  refine HO3.out.mono ?_
  rintro e w4 ⟨d1, rfl, hl1, _, hp1, hb4⟩
  have HA4 := hid (HA3.out.step hb4)
  have HB4 := hid (bl_step HB.out (bl_step HB3.out hb4))
  have HL1 := hid hl1
  have HP1 := hid (hp1.trans HP.out)
  clear c0 c1 c2 c3 c4 c5 c6 hsl HO3 HA3 HB3 HB hl1 hp1 hb4 E3 HP
  obtain ⟨c0, c1, c2, c3, c4, c5, c6⟩ := HA4.out.cs
  rw [HTN.out] at c4
  clear c0 c1 c2 c3 c5 c6
  have hsl : s < w4.heap.size := World.block_lt_of_cell? _ _ c4
  have f0 := HA4.out.f0
  have f1 := HA4.out.f1
  have g0 := HA4.out.fz 0
  have g1 := HA4.out.fz 1
  have hfl := HA4.out.fl
  have HE : Hid (NewDone w (.returned (.tuple #[.pointer (some ⟨w4.heap.size, 0, none⟩), .agg #[.int .i64 0, .int .i64 0]])) (((w4.setCell ⟨f, 0, none⟩ (.int .i64 0)).setCell ⟨f, 1, none⟩ (.int .i64 0)).alloc (.cells #[.slice none 0 0, .slice d1.heads.a d1.heads.n d1.heads.c, .slice d1.mta.a d1.mta.n d1.mta.c, .slice d1.states.a d1.states.n d1.states.c, .slice d1.acts.a d1.acts.n d1.acts.c, .slice d1.tabs.a d1.tabs.n d1.tabs.c, .slice d1.nodes.a d1.nodes.n d1.nodes.c, .slice d1.out.a d1.out.n d1.out.c] 51))) := by
    have k2 := bl_put_same f0
    have k3 := bl_put_same (cell_keep f1 k2)
    have k4 := bl_step k2 k3
    have hz : ((w4.setCell ⟨f, 0, none⟩ (.int .i64 0)).setCell ⟨f, 1, none⟩ (.int .i64 0)).heap.size = w4.heap.size := by simp [World.setCell]
    generalize (w4.setCell ⟨f, 0, none⟩ (.int .i64 0)).setCell ⟨f, 1, none⟩ (.int .i64 0) = W5 at hz k4 ⊢
    have hb := pipe_at d1 W5 (T := 51)
    rw [hz] at hb
    have k := bl_alloc (o := .cells #[.slice none 0 0, .slice d1.heads.a d1.heads.n d1.heads.c, .slice d1.mta.a d1.mta.n d1.mta.c, .slice d1.states.a d1.states.n d1.states.c, .slice d1.acts.a d1.acts.n d1.acts.c, .slice d1.tabs.a d1.tabs.n d1.tabs.c, .slice d1.nodes.a d1.nodes.n d1.nodes.c, .slice d1.out.a d1.out.n d1.out.c] 51) k4
    exact ⟨d1, w4.heap.size, rfl, HP1.out, HL1.out.step k, hb, bl_step HB4.out k⟩
  clear HA4 HB4 HL1 HP1
  go_wp2
  go_loopw [23, 7, 8, 9] (fun q _ _ _ wr => q = .int .i64 0 ∧ wr = w4.alloc (.cells #[.slice none 0 0, .slice d1.heads.a d1.heads.n d1.heads.c, .slice d1.mta.a d1.mta.n d1.mta.c, .slice d1.states.a d1.states.n d1.states.c, .slice d1.acts.a d1.acts.n d1.acts.c, .slice d1.tabs.a d1.tabs.n d1.tabs.c, .slice d1.nodes.a d1.nodes.n d1.nodes.c, .slice d1.out.a d1.out.n d1.out.c] 51)) (fun _ _ _ _ _ => 0)
  case atStart => exact ⟨rfl, rfl⟩
  case round =>
    obtain ⟨rfl, rfl⟩ := hrel
    go_wp2
    exact bodyPost_ret (v := .tuple #[.pointer (some ⟨w4.heap.size, 0, none⟩), .agg #[.int .i64 0, .int .i64 0]]) (by simp [results, Tryz.results7, go_sem, *]) rfl HE.out
end Go.Proofs.YtajelgjbgehahaaGreat

namespace Go.Proofs.YtajelgjbgehahaaGreat
open Go.RowKit

/-- the plan: its blocks b2 .. b9 -/
@[reducible] def CD (b2 b3 b4 b5 b6 b7 b8 b9 : Nat) : PlanD := ⟨⟨some ⟨b3, 0, none⟩, 1, 1⟩, [⟨⟨some ⟨b2, 0, none⟩, 1, 1⟩, [8]⟩], ⟨none, 0, 0⟩, [], ⟨some ⟨b4, 0, none⟩, 1, 1⟩, [⟨0, ⟨0, 0⟩, ⟨none, 0, 0⟩, [], 1000⟩], ⟨some ⟨b7, 0, none⟩, 1, 1⟩, [⟨⟨none, 0, 0⟩, [], ⟨some ⟨b6, 0, none⟩, 1, 1⟩, [⟨1, ⟨0, 0⟩, 0, ⟨some ⟨b5, 0, none⟩, 3, 3⟩, [⟨2, ⟨0, 0⟩, 0⟩, ⟨1, ⟨0, 0⟩, 1⟩, ⟨3, ⟨0, 0⟩, 0⟩]⟩]⟩], ⟨none, 0, 0⟩, [], ⟨some ⟨b8, 0, none⟩, 1, 1⟩, [⟨2, 0, ⟨none, 0, 0⟩, [], 1, 0⟩], ⟨some ⟨b9, 0, none⟩, 1, 1⟩, [0]⟩

theorem CD.is (b2 b3 b4 b5 b6 b7 b8 b9 : Nat) : (CD b2 b3 b4 b5 b6 b7 b8 b9).p = CP := rfl

theorem CD.small (b2 b3 b4 b5 b6 b7 b8 b9 : Nat) : (CD b2 b3 b4 b5 b6 b7 b8 b9).small := ⟨(by decide : 1 ≤ 1000), by simp, by simp, (by decide : 1 ≤ 1000)⟩

theorem CD.fits (b2 b3 b4 b5 b6 b7 b8 b9 : Nat) : (CD b2 b3 b4 b5 b6 b7 b8 b9).fits := ⟨by simp, by simp, by simp, by simp, by simp, by simp, by simp⟩

theorem CD.nil0 (b2 b3 b4 b5 b6 b7 b8 b9 : Nat) : (CD b2 b3 b4 b5 b6 b7 b8 b9).nil0 := ⟨by simp [QSl.nil0], by simp [QSl.nil0], by simp [QSl.nil0], by simp [QSl.nil0], by simp [QSl.nil0], by simp [QSl.nil0], by simp [QSl.nil0]⟩

set_option maxHeartbeats 4000000 in
set_option maxRecDepth 20000 in
theorem counts_lie (w W : World) (n : Nat) (hn : n = w.heap.size) (hW : W = (((((((((w.alloc (.cells #[.slice (some ⟨n + 1 + 1 + 1, 0, none⟩) 1 1, .slice none 0 0, .slice (some ⟨n + 1 + 1 + 1 + 1, 0, none⟩) 1 1, .slice (some ⟨n + 1 + 1 + 1 + 1 + 1 + 1 + 1, 0, none⟩) 1 1, .slice none 0 0, .slice (some ⟨n + 1 + 1 + 1 + 1 + 1 + 1 + 1 + 1, 0, none⟩) 1 1, .slice (some ⟨n + 1 + 1 + 1 + 1 + 1 + 1 + 1 + 1 + 1, 0, none⟩) 1 1] 38)).alloc (.cells #[.int .i64 0, .int .i64 0] 61)).alloc (.cells #[.int .i64 8] 3)).alloc (.cells #[.slice (some ⟨n + 1 + 1, 0, none⟩) 1 1] 63)).alloc (.cells #[.int .i64 0, .int .i64 0, .int .i64 0, .slice none 0 0, .int .i64 1000] 66)).alloc (.cells #[.int .i64 2, .int .i64 0, .int .i64 0, .int .u64 0, .int .i64 1, .int .i64 0, .int .i64 0, .int .u64 1, .int .i64 3, .int .i64 0, .int .i64 0, .int .u64 0] 68)).alloc (.cells #[.int .i64 1, .int .i64 0, .int .i64 0, .int .i64 0, .slice (some ⟨n + 1 + 1 + 1 + 1 + 1, 0, none⟩) 3 3] 71)).alloc (.cells #[.slice none 0 0, .slice (some ⟨n + 1 + 1 + 1 + 1 + 1 + 1, 0, none⟩) 1 1] 74)).alloc (.cells #[.int .i64 2, .int .i64 0, .slice none 0 0, .int .i64 1, .int .i64 0] 76)).alloc (.cells #[.int .i64 0] 3)) : (CD (n + 1 + 1) (n + 1 + 1 + 1) (n + 1 + 1 + 1 + 1) (n + 1 + 1 + 1 + 1 + 1) (n + 1 + 1 + 1 + 1 + 1 + 1) (n + 1 + 1 + 1 + 1 + 1 + 1 + 1) (n + 1 + 1 + 1 + 1 + 1 + 1 + 1 + 1) (n + 1 + 1 + 1 + 1 + 1 + 1 + 1 + 1 + 1)).lie W ∧ Below w.heap.size w W := by
  have c2_0 : W.cell? ⟨n + 1 + 1, 0, none⟩ = some (.int .i64 8) := by
    rw [hW, hn]
    refine (World.cell?_alloc_past _ _ _ (by simp <;> omega)).trans ?_
    refine (World.cell?_alloc_past _ _ _ (by simp <;> omega)).trans ?_
    refine (World.cell?_alloc_past _ _ _ (by simp <;> omega)).trans ?_
    refine (World.cell?_alloc_past _ _ _ (by simp <;> omega)).trans ?_
    refine (World.cell?_alloc_past _ _ _ (by simp <;> omega)).trans ?_
    refine (World.cell?_alloc_past _ _ _ (by simp <;> omega)).trans ?_
    refine (World.cell?_alloc_past _ _ _ (by simp <;> omega)).trans ?_
    exact (World.cell?_alloc_at _ _ _ _ (by simp)).trans rfl
  have c3_0 : W.cell? ⟨n + 1 + 1 + 1, 0, none⟩ = some (.slice (some ⟨n + 1 + 1, 0, none⟩) 1 1) := by
    rw [hW, hn]
    refine (World.cell?_alloc_past _ _ _ (by simp <;> omega)).trans ?_
    refine (World.cell?_alloc_past _ _ _ (by simp <;> omega)).trans ?_
    refine (World.cell?_alloc_past _ _ _ (by simp <;> omega)).trans ?_
    refine (World.cell?_alloc_past _ _ _ (by simp <;> omega)).trans ?_
    refine (World.cell?_alloc_past _ _ _ (by simp <;> omega)).trans ?_
    refine (World.cell?_alloc_past _ _ _ (by simp <;> omega)).trans ?_
    exact (World.cell?_alloc_at _ _ _ _ (by simp)).trans rfl
  have c4_0 : W.cell? ⟨n + 1 + 1 + 1 + 1, 0, none⟩ = some (.int .i64 0) := by
    rw [hW, hn]
    refine (World.cell?_alloc_past _ _ _ (by simp <;> omega)).trans ?_
    refine (World.cell?_alloc_past _ _ _ (by simp <;> omega)).trans ?_
    refine (World.cell?_alloc_past _ _ _ (by simp <;> omega)).trans ?_
    refine (World.cell?_alloc_past _ _ _ (by simp <;> omega)).trans ?_
    refine (World.cell?_alloc_past _ _ _ (by simp <;> omega)).trans ?_
    exact (World.cell?_alloc_at _ _ _ _ (by simp)).trans rfl
  have c4_1 : W.cell? ⟨n + 1 + 1 + 1 + 1, 1, none⟩ = some (.int .i64 0) := by
    rw [hW, hn]
    refine (World.cell?_alloc_past _ _ _ (by simp <;> omega)).trans ?_
    refine (World.cell?_alloc_past _ _ _ (by simp <;> omega)).trans ?_
    refine (World.cell?_alloc_past _ _ _ (by simp <;> omega)).trans ?_
    refine (World.cell?_alloc_past _ _ _ (by simp <;> omega)).trans ?_
    refine (World.cell?_alloc_past _ _ _ (by simp <;> omega)).trans ?_
    exact (World.cell?_alloc_at _ _ _ _ (by simp)).trans rfl
  have c4_2 : W.cell? ⟨n + 1 + 1 + 1 + 1, 2, none⟩ = some (.int .i64 0) := by
    rw [hW, hn]
    refine (World.cell?_alloc_past _ _ _ (by simp <;> omega)).trans ?_
    refine (World.cell?_alloc_past _ _ _ (by simp <;> omega)).trans ?_
    refine (World.cell?_alloc_past _ _ _ (by simp <;> omega)).trans ?_
    refine (World.cell?_alloc_past _ _ _ (by simp <;> omega)).trans ?_
    refine (World.cell?_alloc_past _ _ _ (by simp <;> omega)).trans ?_
    exact (World.cell?_alloc_at _ _ _ _ (by simp)).trans rfl
  have c4_3 : W.cell? ⟨n + 1 + 1 + 1 + 1, 3, none⟩ = some (.slice none 0 0) := by
    rw [hW, hn]
    refine (World.cell?_alloc_past _ _ _ (by simp <;> omega)).trans ?_
    refine (World.cell?_alloc_past _ _ _ (by simp <;> omega)).trans ?_
    refine (World.cell?_alloc_past _ _ _ (by simp <;> omega)).trans ?_
    refine (World.cell?_alloc_past _ _ _ (by simp <;> omega)).trans ?_
    refine (World.cell?_alloc_past _ _ _ (by simp <;> omega)).trans ?_
    exact (World.cell?_alloc_at _ _ _ _ (by simp)).trans rfl
  have c4_4 : W.cell? ⟨n + 1 + 1 + 1 + 1, 4, none⟩ = some (.int .i64 1000) := by
    rw [hW, hn]
    refine (World.cell?_alloc_past _ _ _ (by simp <;> omega)).trans ?_
    refine (World.cell?_alloc_past _ _ _ (by simp <;> omega)).trans ?_
    refine (World.cell?_alloc_past _ _ _ (by simp <;> omega)).trans ?_
    refine (World.cell?_alloc_past _ _ _ (by simp <;> omega)).trans ?_
    refine (World.cell?_alloc_past _ _ _ (by simp <;> omega)).trans ?_
    exact (World.cell?_alloc_at _ _ _ _ (by simp)).trans rfl
  have c5_0 : W.cell? ⟨n + 1 + 1 + 1 + 1 + 1, 0, none⟩ = some (.int .i64 2) := by
    rw [hW, hn]
    refine (World.cell?_alloc_past _ _ _ (by simp <;> omega)).trans ?_
    refine (World.cell?_alloc_past _ _ _ (by simp <;> omega)).trans ?_
    refine (World.cell?_alloc_past _ _ _ (by simp <;> omega)).trans ?_
    refine (World.cell?_alloc_past _ _ _ (by simp <;> omega)).trans ?_
    exact (World.cell?_alloc_at _ _ _ _ (by simp)).trans rfl
  have c5_1 : W.cell? ⟨n + 1 + 1 + 1 + 1 + 1, 1, none⟩ = some (.int .i64 0) := by
    rw [hW, hn]
    refine (World.cell?_alloc_past _ _ _ (by simp <;> omega)).trans ?_
    refine (World.cell?_alloc_past _ _ _ (by simp <;> omega)).trans ?_
    refine (World.cell?_alloc_past _ _ _ (by simp <;> omega)).trans ?_
    refine (World.cell?_alloc_past _ _ _ (by simp <;> omega)).trans ?_
    exact (World.cell?_alloc_at _ _ _ _ (by simp)).trans rfl
  have c5_2 : W.cell? ⟨n + 1 + 1 + 1 + 1 + 1, 2, none⟩ = some (.int .i64 0) := by
    rw [hW, hn]
    refine (World.cell?_alloc_past _ _ _ (by simp <;> omega)).trans ?_
    refine (World.cell?_alloc_past _ _ _ (by simp <;> omega)).trans ?_
    refine (World.cell?_alloc_past _ _ _ (by simp <;> omega)).trans ?_
    refine (World.cell?_alloc_past _ _ _ (by simp <;> omega)).trans ?_
    exact (World.cell?_alloc_at _ _ _ _ (by simp)).trans rfl
  have c5_3 : W.cell? ⟨n + 1 + 1 + 1 + 1 + 1, 3, none⟩ = some (.int .u64 0) := by
    rw [hW, hn]
    refine (World.cell?_alloc_past _ _ _ (by simp <;> omega)).trans ?_
    refine (World.cell?_alloc_past _ _ _ (by simp <;> omega)).trans ?_
    refine (World.cell?_alloc_past _ _ _ (by simp <;> omega)).trans ?_
    refine (World.cell?_alloc_past _ _ _ (by simp <;> omega)).trans ?_
    exact (World.cell?_alloc_at _ _ _ _ (by simp)).trans rfl
  have c5_4 : W.cell? ⟨n + 1 + 1 + 1 + 1 + 1, 4, none⟩ = some (.int .i64 1) := by
    rw [hW, hn]
    refine (World.cell?_alloc_past _ _ _ (by simp <;> omega)).trans ?_
    refine (World.cell?_alloc_past _ _ _ (by simp <;> omega)).trans ?_
    refine (World.cell?_alloc_past _ _ _ (by simp <;> omega)).trans ?_
    refine (World.cell?_alloc_past _ _ _ (by simp <;> omega)).trans ?_
    exact (World.cell?_alloc_at _ _ _ _ (by simp)).trans rfl
  have c5_5 : W.cell? ⟨n + 1 + 1 + 1 + 1 + 1, 5, none⟩ = some (.int .i64 0) := by
    rw [hW, hn]
    refine (World.cell?_alloc_past _ _ _ (by simp <;> omega)).trans ?_
    refine (World.cell?_alloc_past _ _ _ (by simp <;> omega)).trans ?_
    refine (World.cell?_alloc_past _ _ _ (by simp <;> omega)).trans ?_
    refine (World.cell?_alloc_past _ _ _ (by simp <;> omega)).trans ?_
    exact (World.cell?_alloc_at _ _ _ _ (by simp)).trans rfl
  have c5_6 : W.cell? ⟨n + 1 + 1 + 1 + 1 + 1, 6, none⟩ = some (.int .i64 0) := by
    rw [hW, hn]
    refine (World.cell?_alloc_past _ _ _ (by simp <;> omega)).trans ?_
    refine (World.cell?_alloc_past _ _ _ (by simp <;> omega)).trans ?_
    refine (World.cell?_alloc_past _ _ _ (by simp <;> omega)).trans ?_
    refine (World.cell?_alloc_past _ _ _ (by simp <;> omega)).trans ?_
    exact (World.cell?_alloc_at _ _ _ _ (by simp)).trans rfl
  have c5_7 : W.cell? ⟨n + 1 + 1 + 1 + 1 + 1, 7, none⟩ = some (.int .u64 1) := by
    rw [hW, hn]
    refine (World.cell?_alloc_past _ _ _ (by simp <;> omega)).trans ?_
    refine (World.cell?_alloc_past _ _ _ (by simp <;> omega)).trans ?_
    refine (World.cell?_alloc_past _ _ _ (by simp <;> omega)).trans ?_
    refine (World.cell?_alloc_past _ _ _ (by simp <;> omega)).trans ?_
    exact (World.cell?_alloc_at _ _ _ _ (by simp)).trans rfl
  have c5_8 : W.cell? ⟨n + 1 + 1 + 1 + 1 + 1, 8, none⟩ = some (.int .i64 3) := by
    rw [hW, hn]
    refine (World.cell?_alloc_past _ _ _ (by simp <;> omega)).trans ?_
    refine (World.cell?_alloc_past _ _ _ (by simp <;> omega)).trans ?_
    refine (World.cell?_alloc_past _ _ _ (by simp <;> omega)).trans ?_
    refine (World.cell?_alloc_past _ _ _ (by simp <;> omega)).trans ?_
    exact (World.cell?_alloc_at _ _ _ _ (by simp)).trans rfl
  have c5_9 : W.cell? ⟨n + 1 + 1 + 1 + 1 + 1, 9, none⟩ = some (.int .i64 0) := by
    rw [hW, hn]
    refine (World.cell?_alloc_past _ _ _ (by simp <;> omega)).trans ?_
    refine (World.cell?_alloc_past _ _ _ (by simp <;> omega)).trans ?_
    refine (World.cell?_alloc_past _ _ _ (by simp <;> omega)).trans ?_
    refine (World.cell?_alloc_past _ _ _ (by simp <;> omega)).trans ?_
    exact (World.cell?_alloc_at _ _ _ _ (by simp)).trans rfl
  have c5_10 : W.cell? ⟨n + 1 + 1 + 1 + 1 + 1, 10, none⟩ = some (.int .i64 0) := by
    rw [hW, hn]
    refine (World.cell?_alloc_past _ _ _ (by simp <;> omega)).trans ?_
    refine (World.cell?_alloc_past _ _ _ (by simp <;> omega)).trans ?_
    refine (World.cell?_alloc_past _ _ _ (by simp <;> omega)).trans ?_
    refine (World.cell?_alloc_past _ _ _ (by simp <;> omega)).trans ?_
    exact (World.cell?_alloc_at _ _ _ _ (by simp)).trans rfl
  have c5_11 : W.cell? ⟨n + 1 + 1 + 1 + 1 + 1, 11, none⟩ = some (.int .u64 0) := by
    rw [hW, hn]
    refine (World.cell?_alloc_past _ _ _ (by simp <;> omega)).trans ?_
    refine (World.cell?_alloc_past _ _ _ (by simp <;> omega)).trans ?_
    refine (World.cell?_alloc_past _ _ _ (by simp <;> omega)).trans ?_
    refine (World.cell?_alloc_past _ _ _ (by simp <;> omega)).trans ?_
    exact (World.cell?_alloc_at _ _ _ _ (by simp)).trans rfl
  have c6_0 : W.cell? ⟨n + 1 + 1 + 1 + 1 + 1 + 1, 0, none⟩ = some (.int .i64 1) := by
    rw [hW, hn]
    refine (World.cell?_alloc_past _ _ _ (by simp <;> omega)).trans ?_
    refine (World.cell?_alloc_past _ _ _ (by simp <;> omega)).trans ?_
    refine (World.cell?_alloc_past _ _ _ (by simp <;> omega)).trans ?_
    exact (World.cell?_alloc_at _ _ _ _ (by simp)).trans rfl
  have c6_1 : W.cell? ⟨n + 1 + 1 + 1 + 1 + 1 + 1, 1, none⟩ = some (.int .i64 0) := by
    rw [hW, hn]
    refine (World.cell?_alloc_past _ _ _ (by simp <;> omega)).trans ?_
    refine (World.cell?_alloc_past _ _ _ (by simp <;> omega)).trans ?_
    refine (World.cell?_alloc_past _ _ _ (by simp <;> omega)).trans ?_
    exact (World.cell?_alloc_at _ _ _ _ (by simp)).trans rfl
  have c6_2 : W.cell? ⟨n + 1 + 1 + 1 + 1 + 1 + 1, 2, none⟩ = some (.int .i64 0) := by
    rw [hW, hn]
    refine (World.cell?_alloc_past _ _ _ (by simp <;> omega)).trans ?_
    refine (World.cell?_alloc_past _ _ _ (by simp <;> omega)).trans ?_
    refine (World.cell?_alloc_past _ _ _ (by simp <;> omega)).trans ?_
    exact (World.cell?_alloc_at _ _ _ _ (by simp)).trans rfl
  have c6_3 : W.cell? ⟨n + 1 + 1 + 1 + 1 + 1 + 1, 3, none⟩ = some (.int .i64 0) := by
    rw [hW, hn]
    refine (World.cell?_alloc_past _ _ _ (by simp <;> omega)).trans ?_
    refine (World.cell?_alloc_past _ _ _ (by simp <;> omega)).trans ?_
    refine (World.cell?_alloc_past _ _ _ (by simp <;> omega)).trans ?_
    exact (World.cell?_alloc_at _ _ _ _ (by simp)).trans rfl
  have c6_4 : W.cell? ⟨n + 1 + 1 + 1 + 1 + 1 + 1, 4, none⟩ = some (.slice (some ⟨n + 1 + 1 + 1 + 1 + 1, 0, none⟩) 3 3) := by
    rw [hW, hn]
    refine (World.cell?_alloc_past _ _ _ (by simp <;> omega)).trans ?_
    refine (World.cell?_alloc_past _ _ _ (by simp <;> omega)).trans ?_
    refine (World.cell?_alloc_past _ _ _ (by simp <;> omega)).trans ?_
    exact (World.cell?_alloc_at _ _ _ _ (by simp)).trans rfl
  have c7_0 : W.cell? ⟨n + 1 + 1 + 1 + 1 + 1 + 1 + 1, 0, none⟩ = some (.slice none 0 0) := by
    rw [hW, hn]
    refine (World.cell?_alloc_past _ _ _ (by simp <;> omega)).trans ?_
    refine (World.cell?_alloc_past _ _ _ (by simp <;> omega)).trans ?_
    exact (World.cell?_alloc_at _ _ _ _ (by simp)).trans rfl
  have c7_1 : W.cell? ⟨n + 1 + 1 + 1 + 1 + 1 + 1 + 1, 1, none⟩ = some (.slice (some ⟨n + 1 + 1 + 1 + 1 + 1 + 1, 0, none⟩) 1 1) := by
    rw [hW, hn]
    refine (World.cell?_alloc_past _ _ _ (by simp <;> omega)).trans ?_
    refine (World.cell?_alloc_past _ _ _ (by simp <;> omega)).trans ?_
    exact (World.cell?_alloc_at _ _ _ _ (by simp)).trans rfl
  have c8_0 : W.cell? ⟨n + 1 + 1 + 1 + 1 + 1 + 1 + 1 + 1, 0, none⟩ = some (.int .i64 2) := by
    rw [hW, hn]
    refine (World.cell?_alloc_past _ _ _ (by simp <;> omega)).trans ?_
    exact (World.cell?_alloc_at _ _ _ _ (by simp)).trans rfl
  have c8_1 : W.cell? ⟨n + 1 + 1 + 1 + 1 + 1 + 1 + 1 + 1, 1, none⟩ = some (.int .i64 0) := by
    rw [hW, hn]
    refine (World.cell?_alloc_past _ _ _ (by simp <;> omega)).trans ?_
    exact (World.cell?_alloc_at _ _ _ _ (by simp)).trans rfl
  have c8_2 : W.cell? ⟨n + 1 + 1 + 1 + 1 + 1 + 1 + 1 + 1, 2, none⟩ = some (.slice none 0 0) := by
    rw [hW, hn]
    refine (World.cell?_alloc_past _ _ _ (by simp <;> omega)).trans ?_
    exact (World.cell?_alloc_at _ _ _ _ (by simp)).trans rfl
  have c8_3 : W.cell? ⟨n + 1 + 1 + 1 + 1 + 1 + 1 + 1 + 1, 3, none⟩ = some (.int .i64 1) := by
    rw [hW, hn]
    refine (World.cell?_alloc_past _ _ _ (by simp <;> omega)).trans ?_
    exact (World.cell?_alloc_at _ _ _ _ (by simp)).trans rfl
  have c8_4 : W.cell? ⟨n + 1 + 1 + 1 + 1 + 1 + 1 + 1 + 1, 4, none⟩ = some (.int .i64 0) := by
    rw [hW, hn]
    refine (World.cell?_alloc_past _ _ _ (by simp <;> omega)).trans ?_
    exact (World.cell?_alloc_at _ _ _ _ (by simp)).trans rfl
  have c9_0 : W.cell? ⟨n + 1 + 1 + 1 + 1 + 1 + 1 + 1 + 1 + 1, 0, none⟩ = some (.int .i64 0) := by
    rw [hW, hn]
    exact (World.cell?_alloc_at _ _ _ _ (by simp)).trans rfl
  have hB : Below w.heap.size w W := by rw [hW]; exact bl_alloc (bl_alloc (bl_alloc (bl_alloc (bl_alloc (bl_alloc (bl_alloc (bl_alloc (bl_alloc (bl_alloc (Below.refl _ _))))))))))
  refine ⟨?_, hB⟩
  clear hW hB hn
  have wf0 : (Lit.int .i64 0).wf = true := by decide
  have wf1 : (Lit.int .i64 1000).wf = true := by decide
  refine ⟨⟨rfl, fun i d hd => ?_⟩, has_nil _ _, ⟨rfl, fun i d hd => ?_⟩, ⟨rfl, fun i d hd => ?_⟩, row_nil, ⟨rfl, fun i d hd => ?_⟩, has_one c9_0 (by decide), Nat.le_refl _⟩
  · match i, hd with
    | 0, hd =>
      obtain rfl : _ = d := Option.some.inj hd
      exact ⟨_, 0, rfl, ⟨c3_0, by simp [QSl.nil0]⟩, has_one c2_0 (by decide)⟩
  · match i, hd with
    | 0, hd =>
      obtain rfl : _ = d := Option.some.inj hd
      exact ⟨_, 0, rfl, ⟨c4_0, wf0⟩, ⟨c4_1, wf0⟩, ⟨c4_2, wf0⟩, ⟨c4_3, fun _ => ⟨rfl, rfl⟩⟩, ⟨c4_4, wf1⟩, row_nil⟩
  · match i, hd with
    | 0, hd =>
      obtain rfl : _ = d := Option.some.inj hd
      refine ⟨_, 0, rfl, ⟨c7_0, fun _ => ⟨rfl, rfl⟩⟩, ⟨c7_1, by simp [QSl.nil0]⟩, has_nil _ _, ⟨rfl, fun i d hd => ?_⟩⟩
      match i, hd with
      | 0, hd =>
        obtain rfl : _ = d := Option.some.inj hd
        refine ⟨_, 0, rfl, ⟨c6_0, (by decide : (Lit.int .i64 1).wf = true)⟩, ⟨c6_1, wf0⟩, ⟨c6_2, wf0⟩, ⟨c6_3, wf0⟩, ⟨c6_4, by simp [QSl.nil0]⟩, ⟨rfl, fun i d hd => ?_⟩⟩
        match i, hd with
        | 0, hd =>
          obtain rfl : _ = d := Option.some.inj hd
          exact ⟨_, 0, rfl, ⟨c5_0, by decide⟩, ⟨c5_1, by decide⟩, ⟨c5_2, by decide⟩, ⟨c5_3, by decide⟩⟩
        | 1, hd =>
          obtain rfl : _ = d := Option.some.inj hd
          exact ⟨_, 0, rfl, ⟨c5_4, by decide⟩, ⟨c5_5, by decide⟩, ⟨c5_6, by decide⟩, ⟨c5_7, by decide⟩⟩
        | 2, hd =>
          obtain rfl : _ = d := Option.some.inj hd
          exact ⟨_, 0, rfl, ⟨c5_8, by decide⟩, ⟨c5_9, by decide⟩, ⟨c5_10, by decide⟩, ⟨c5_11, by decide⟩⟩
  · match i, hd with
    | 0, hd =>
      obtain rfl : _ = d := Option.some.inj hd
      exact ⟨_, 0, rfl, ⟨c8_0, by decide⟩, ⟨c8_1, wf0⟩, ⟨c8_2, fun _ => ⟨rfl, rfl⟩⟩, ⟨c8_3, by decide⟩, ⟨c8_4, wf0⟩, row_nil⟩

/-- what counts tells -/
def CountsDone (w : World) (e : Ending) (w' : World) : Prop := ∃ d : PlanD, e = .returned d.v ∧ d.p = CP ∧ d.lie w' ∧ d.nil0 ∧ d.small ∧ d.fits ∧ Below w.heap.size w w'

set_option maxHeartbeats 4000000 in
set_option maxRecDepth 20000 in
theorem xcounts (w : World) : Calls Tryz.prog 8 #[] w (CountsDone w) := by
  go_enter Tryz.func8, Tryz.ntmps8
  go_wp2
  have h := counts_lie w _ _ rfl rfl
  exact bodyPost_ret (v := (CD (w.heap.size + 1 + 1) (w.heap.size + 1 + 1 + 1) (w.heap.size + 1 + 1 + 1 + 1) (w.heap.size + 1 + 1 + 1 + 1 + 1) (w.heap.size + 1 + 1 + 1 + 1 + 1 + 1) (w.heap.size + 1 + 1 + 1 + 1 + 1 + 1 + 1) (w.heap.size + 1 + 1 + 1 + 1 + 1 + 1 + 1 + 1) (w.heap.size + 1 + 1 + 1 + 1 + 1 + 1 + 1 + 1 + 1)).v) (by simp [results, Tryz.results8, go_sem]) rfl ⟨_, rfl, rfl, h.1, CD.nil0 _ _ _ _ _ _ _ _, CD.small _ _ _ _ _ _ _ _, CD.fits _ _ _ _ _ _ _ _, h.2⟩
end Go.Proofs.YtajelgjbgehahaaGreat
namespace Go.Proofs.YtajelgjbgehahaaGreat
open Go.RowKit

set_option maxHeartbeats 4000000 in
set_option maxRecDepth 20000 in
theorem same_result {w : World} {a b : Option Addr} {len : Nat} {zs : List Int} (port : Int) (c e : Nat) (ha : Has .u8 w a len zs) (hb : Has .u8 w b len zs) :
    Calls Tryz.prog 10 #[.agg #[.int .i64 port, .slice a len c], .agg #[.int .i64 port, .slice b len e]] w fun q w' => q = .returned (.bool true) ∧ Below w.heap.size w w' := by
  have HC : Hid (∀ w', Below w.heap.size w w' → Calls Tryz.prog 20 #[.slice a len c, .slice b len e] w' fun q w'' => q = .returned (.bool true) ∧ w'' = w') := fun w' h => same_bytes c e (ha.step h) (hb.step h)
  clear ha hb
  go_enter Tryz.func10, Tryz.ntmps10
  go_wp2_with fail
  refine (HC.out _ (bl_alloc (bl_alloc (Below.refl _ _)))).mono ?_
  rintro q w1 ⟨rfl, rfl⟩
  clear HC
  go_wp2
  go_ret
  exact ⟨rfl, bl_alloc (bl_alloc (Below.refl _ _))⟩

theorem res_at (w : World) (port : Int) (a : Option Addr) (n c : Nat) : ∃ W : World, ∃ r f : Nat, W = (w.alloc (.cells #[.int .i64 port, .slice a n c] 42)).alloc (.cells #[.int .i64 0, .int .i64 0] 28) ∧ r = w.heap.size ∧ f = w.heap.size + 1 ∧ Below w.heap.size w W ∧ W.cell? ⟨r, 0, none⟩ = some (.int .i64 port) ∧ W.cell? ⟨r, 1, none⟩ = some (.slice a n c) ∧ W.cell? ⟨f, 0, none⟩ = some (.int .i64 0) :=
  ⟨_, _, _, rfl, rfl, rfl, bl_alloc (bl_alloc (Below.refl _ _)), (World.cell?_alloc_past _ _ _ (by simp)).trans ((World.cell?_alloc_at _ _ _ _ rfl).trans rfl), (World.cell?_alloc_past _ _ _ (by simp)).trans ((World.cell?_alloc_at _ _ _ _ rfl).trans rfl), (World.cell?_alloc_at _ _ _ _ (by simp)).trans rfl⟩

theorem has_two8 (w : World) (x y : Int) (hx : (Lit.int .u8 x).wf = true) (hy : (Lit.int .u8 y).wf = true) (T : TypeId) : Has .u8 (w.alloc (.cells #[.int .u8 x, .int .u8 y] T)) (some ⟨w.heap.size, 0, none⟩) 2 [x, y] := by
  refine ⟨rfl, ?_, .inr ⟨w.heap.size, 0, rfl, by simp, fun i hi => ?_⟩⟩
  · intro n hn
    simp only [List.mem_cons, List.not_mem_nil, or_false] at hn
    rcases hn with rfl | rfl
    · exact hx
    · exact hy
  · have : i = 0 ∨ i = 1 := by omega
    rcases this with rfl | rfl
    · exact (World.cell?_alloc_at _ _ _ _ rfl).trans rfl
    · exact (World.cell?_alloc_at _ _ _ _ rfl).trans rfl

set_option maxHeartbeats 1000000 in
set_option maxRecDepth 20000 in
theorem pipe_begun (w : World) : Calls Tryz.prog 4 #[] w fun e w' => e = .returned (.bool true) ∧ Below w.heap.size w w' := by
  have HT := hid (xcounts w)
  go_enter Tryz.func4, Tryz.ntmps4
  go_wp2_with fail
  refine HT.out.mono ?_
  rintro e w1 ⟨d0, rfl, hp, hl, h0, hs, hf, hb1⟩
  have HN := hid (xnew d0 w1 hp hl h0 hs hf)
  have HB1 := hid hb1
  clear HT hp hl h0 hs hf hb1
  go_wp2_with fail
  refine HN.out.mono ?_
  rintro e w2 ⟨d, pp, rfl, hp, hl, hpa, hb2⟩
  obtain ⟨x, s, a, ee, nd, hc⟩ := counts_are hp
  obtain ⟨W3, eW3⟩ : ∃ W3, W3 = w2.alloc (.cells #[.int .i64 0, .int .i64 0] 28) := ⟨_, rfl⟩
  have b3 : Below w2.heap.size w2 W3 := by rw [eW3]; exact bl_alloc (Below.refl _ _)
  obtain ⟨W4, eW4⟩ : ∃ W4, W4 = W3.alloc (.cells #[.int .u8 7, .int .u8 9] 5) := ⟨_, rfl⟩
  have b4 : Below W3.heap.size W3 W4 := by rw [eW4]; exact bl_alloc (Below.refl _ _)
  obtain ⟨pb, epb⟩ : ∃ pb, pb = w2.heap.size + 1 := ⟨_, rfl⟩
  have ez : pb = W3.heap.size := by rw [epb, eW3]; simp
  have HR := hid (xrun_79 (w := W4) hc (hl.step (bl_step b3 b4)) pp ⟨none, 0, 0⟩ (hpa.step (bl_step b3 b4)) pb 2 (by rw [eW4, ez]; exact has_two8 W3 7 9 (by decide) (by decide) _) (Nat.le_refl _))
  have EP := hid epb
  have HR2 : Hid (∀ w', Below W4.heap.size W4 w' → Calls Tryz.prog 9 #[.pointer (some ⟨pp, 0, none⟩), .slice none 0 0, .int .i64 3] w' (RunDone (-1) [] w')) := fun w' h => xrun_nil hc (hl.step (bl_step (bl_step b3 b4) h)) pp ⟨none, 0, 0⟩ (hpa.step (bl_step (bl_step b3 b4) h))
  have HB4 := hid (bl_step HB1.out (bl_step hb2 (bl_step b3 b4)))
  have E3 := hid eW3
  have E4 := hid eW4
  clear HN HB1 hp hl hpa hb2 hc eW3 eW4 b3 b4 epb ez
  go_wp2_with fail
  rw [← E3.out, ← E4.out, ← EP.out]
  refine HR.out.mono ?_
  rintro e w5 ⟨ra, rc, rfl, hh, hb5⟩
  obtain ⟨W6, r1, f1, eW6, er, ef, b6, c0, c1, c2⟩ := res_at w5 0 ra 2 rc
  have HR3 := hid (HR2.out W6 (bl_step hb5 b6))
  have HH6 := hid (hh.step b6)
  have HB6 := hid (bl_step HB4.out (bl_step hb5 b6))
  have E6 := hid eW6
  have ER := hid er
  have EF := hid ef
  have C0 := hid c0
  have C1 := hid c1
  have C2 := hid c2
  clear HR HR2 HB4 hh hb5 eW6 er ef b6 c0 c1 c2 E3 E4 EP
  go_wp2_with fail
  rw [← E6.out, ← EF.out, ← ER.out]
  refine HR3.out.mono ?_
  rintro e w7 ⟨rb, rd, rfl, hh, hb7⟩
  obtain ⟨W8, r2, f2, eW8, er2, ef2, b8, c3, c4, c5⟩ := res_at w7 (-1) rb 0 rd
  have hb68 := bl_step hb7 b8
  have k0 := cell_keep C0.out hb68
  have k1 := cell_keep C1.out hb68
  have k2 := cell_keep C2.out hb68
  have h0 : Has .u8 W8 ra 2 [8, 9] := HH6.out.step hb68
  have h1 : Has .u8 W8 rb 0 [] := hh.step b8
  obtain ⟨W9, eW9⟩ : ∃ W9, W9 = W8.alloc (.cells #[.int .u8 8, .int .u8 9] 5) := ⟨_, rfl⟩
  have b9 : Below W8.heap.size W8 W9 := by rw [eW9]; exact bl_alloc (Below.refl _ _)
  have h2 : Has .u8 W9 (some ⟨W8.heap.size, 0, none⟩) 2 [8, 9] := by rw [eW9]; exact has_two8 W8 8 9 (by decide) (by decide) _
  have HS1 := hid (same_result (w := W9) 0 rc 2 (h0.step b9) h2)
  have HS2 : Hid (∀ w', Below W9.heap.size W9 w' → Calls Tryz.prog 10 #[.agg #[.int .i64 (-1), .slice rb 0 rd], .agg #[.int .i64 (-1), .slice none 0 0]] w' fun q w'' => q = .returned (.bool true) ∧ Below w'.heap.size w' w'') := fun w' h => same_result (-1) rd 0 (h1.step (bl_step b9 h)) (has_nil _ _)
  have HB9 := hid (bl_step HB6.out (bl_step hb68 b9))
  have HK : Hid (∀ w', Below W9.heap.size W9 w' → w'.cell? ⟨r2, 0, none⟩ = some (.int .i64 (-1)) ∧ w'.cell? ⟨r2, 1, none⟩ = some (.slice rb 0 rd)) := fun w' h => ⟨cell_keep c3 (bl_step b9 h), cell_keep c4 (bl_step b9 h)⟩
  have E8 := hid eW8
  have E9 := hid eW9
  have ER2 := hid er2
  have EF2 := hid ef2
  clear HR3 hh hb7 eW8 er2 ef2 b8 c3 c4 hb68 h0 h1 h2 eW9 b9 HH6 HB6 E6 ER EF C0 C1 C2
  go_upto_region 6 with fail
  rw [← E8.out, ← EF2.out, ← ER2.out]
  clear E8 EF2 ER2
  have l0 : r1 < W8.heap.size := World.block_lt_of_cell? _ _ k0
  have l2 : f1 < W8.heap.size := World.block_lt_of_cell? _ _ k2
  have l5 : f2 < W8.heap.size := World.block_lt_of_cell? _ _ c5
  go_wp2_with fail
  rw [← E9.out]
  refine HS1.out.mono ?_
  rintro e w10 ⟨rfl, hb10⟩
  obtain ⟨q0, q1⟩ := HK.out w10 hb10
  have HS3 := hid (HS2.out w10 hb10)
  have HB10 := hid (bl_step HB9.out hb10)
  clear HS1 HS2 HB9 HK hb10 E9 l0 l2 l5 k0 k1 k2 c5
  go_wp2_with fail
  refine HS3.out.mono ?_
  rintro e w11 ⟨rfl, hb11⟩
  have HB11 := hid (bl_step HB10.out hb11)
  clear HS3 HB10 hb11 q0 q1
  go_wp2
  go_ret
  exact ⟨rfl, HB11.out⟩
end Go.Proofs.YtajelgjbgehahaaGreat

namespace Go.Proofs.YtajelgjbgehahaaGreat
open Go.RowKit

set_option maxHeartbeats 2000000 in
set_option maxRecDepth 20000 in
theorem pipeapplies_main (op a b : Int) (W : World) (ha : (Lit.int .u64 a).wf = true) (hb : (Lit.int .u64 b).wf = true) :
    Calls Tryz.prog 3 #[.int .i64 op, .int .u64 a, .int .u64 b] W fun e W' => e = .returned (.bool true) ∧ Below W.heap.size W W' := by
  have ra : 0 ≤ a ∧ a ≤ 18446744073709551615 := by simpa [Lit.wf, IntKind.min, IntKind.max, IntKind.signed, IntKind.bits] using ha
  have rb : 0 ≤ b ∧ b ≤ 18446744073709551615 := by simpa [Lit.wf, IntKind.min, IntKind.max, IntKind.signed, IntKind.bits] using hb
  obtain ⟨x, rfl⟩ := Int.eq_ofNat_of_zero_le ra.1
  obtain ⟨y, rfl⟩ := Int.eq_ofNat_of_zero_le rb.1
  have hx : x < 18446744073709551616 := by have := ra.2; omega
  have hy : y < 18446744073709551616 := by have := rb.2; omega
  have HA := hid (fun w => apply_any op x y hx hy w)
  have HO := hid (fun w => rop2_any op x y hx hy w)
  have HT := hid (pipe_begun W)
  clear ha hb ra rb hx hy
  go_enter Tryz.func3, Tryz.ntmps3
  go_wp2_with fail
  refine HT.out.mono ?_
  rintro e w1 ⟨rfl, hb1⟩
  have HB1 := hid hb1
  clear HT hb1
  go_wp2_with fail
  refine (HA.out _).mono ?_
  rintro e w2 ⟨rfl, rfl⟩
  clear HA
  go_wp2_with fail
  refine (HO.out _).mono ?_
  rintro e w3 ⟨rfl, rfl⟩
  clear HO
  go_wp2
  go_ret
  exact ⟨rfl, HB1.out⟩
end Go.Proofs.YtajelgjbgehahaaGreat
