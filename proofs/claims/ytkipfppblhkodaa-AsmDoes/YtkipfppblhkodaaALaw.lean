/- every step of an Asm is as the document says: the walk of shuntyardlaw.AsmDoes. -/
import Derived.Test.YtkipfppblhkodaaABeg
import Derived.Test.YtkipfppblhkodaaADone3
import Derived.Test.YtkipfppblhkodaaGSame
import Derived.Deep.RegionLaw
namespace Go.Proofs.Ytkipfppblhkodaa
open Go.RowKit

structure AStD where
  what : Int
  n : Int
  x : InsD
def AStD.lie (d : AStD) (w : World) (g o : Nat) : Prop := CI w g o d.what ∧ CI w g (o + 1) d.n ∧ d.x.lie w g (o + 2)
theorem AStD.keeps : Keeps AStD.lie := fun h b => ⟨h.1.step b, h.2.1.step b, InsD.keeps h.2.2 b⟩

/-- both on their way, behind i steps -/
structure LawAt (W : World) (pa pr i : Nat) (d e : LabD) (w : World) : Prop where
  a : LabAt 49 W.heap.size d w
  r : LabAt 31 W.heap.size e w
  ap : ApartL d e
  pa : d.p = pa
  pr : e.p = pr
  cs : e.cs = d.cs
  ms : e.ms = d.ms
  nc : d.cs.length ≤ i
  nm : d.ms.length ≤ i
  bel : Below W.heap.size W w
theorem LawAt.step {W : World} {pa pr i : Nat} {d e : LabD} {w w' : World} (h : LawAt W pa pr i d e w) (b : Below w.heap.size w w') : LawAt W pa pr i d e w' :=
  ⟨h.a.step b, h.r.step b, h.ap, h.pa, h.pr, h.cs, h.ms, h.nc, h.nm, bl_step h.bel b⟩
theorem LawAt.later {W : World} {pa pr i j : Nat} {d e : LabD} {w : World} (h : LawAt W pa pr i d e w) (hj : i ≤ j) : LawAt W pa pr j d e w := ⟨h.a, h.r, h.ap, h.pa, h.pr, h.cs, h.ms, Nat.le_trans h.nc hj, Nat.le_trans h.nm hj, h.bel⟩

/-- the one has done its step -/
structure HalfAt (W : World) (pa pr i : Nat) (d e : LabD) (cs : List InsD) (ms : List Int) (d' : LabD) (w : World) : Prop where
  a : LabAt 49 W.heap.size d' w
  r : LabAt 31 W.heap.size e w
  ap : ApartL d' e
  pa : d'.p = pa
  pr : e.p = pr
  cs : d'.cs = cs
  ms : d'.ms = ms
  ecs : e.cs = d.cs
  ems : e.ms = d.ms
  nc : d.cs.length ≤ i
  nm : d.ms.length ≤ i
  bel : Below W.heap.size W w
theorem LawAt.half {W : World} {pa pr i : Nat} {d e : LabD} {w w' : World} (h : LawAt W pa pr i d e w) {v : Value} {cs : List InsD} {ms : List Int} {ed : Ending} (k : StepIs 49 W.heap.size d w v cs ms ed w') : ed = .returned v ∧ ∃ d', HalfAt W pa pr i d e cs ms d' w' := by
  obtain ⟨d', rfl, hA, hT, e1, e2, e3⟩ := k
  obtain ⟨q1, q2⟩ := hT.other h.r h.ap
  exact ⟨rfl, d', hA, q1, q2, e1.trans h.pa, h.pr, e2, e3, h.cs, h.ms, h.nc, h.nm, h.bel.trans (hT.below h.a h.bel.size)⟩
theorem HalfAt.step {W : World} {pa pr i : Nat} {d e : LabD} {cs : List InsD} {ms : List Int} {d' : LabD} {w w' : World} (h : HalfAt W pa pr i d e cs ms d' w) (b : Below w.heap.size w w') : HalfAt W pa pr i d e cs ms d' w' :=
  ⟨h.a.step b, h.r.step b, h.ap, h.pa, h.pr, h.cs, h.ms, h.ecs, h.ems, h.nc, h.nm, bl_step h.bel b⟩
theorem HalfAt.whole {W : World} {pa pr i : Nat} {d e : LabD} {w w' : World} {cs : List InsD} {ms : List Int} {d' : LabD} (h : HalfAt W pa pr i d e cs ms d' w) (hc : cs.length ≤ i + 1) (hm : ms.length ≤ i + 1) {v : Value} {ed : Ending} (k : StepIs 31 W.heap.size e w v cs ms ed w') : ed = .returned v ∧ ∃ e', LawAt W pa pr (i + 1) d' e' w' := by
  obtain ⟨e', rfl, hA, hT, e1, e2, e3⟩ := k
  obtain ⟨q1, q2⟩ := hT.other h.a h.ap.symm
  exact ⟨rfl, e', q1, hA, q2.symm, h.pa, e1.trans h.pr, e2.trans h.cs.symm, e3.trans h.ms.symm, by rw [h.cs]; exact hc, by rw [h.ms]; exact hm, h.bel.trans (hT.below h.r h.bel.size)⟩

def LawIs (W : World) (pa pr i : Nat) (w : World) : Prop := ∃ d e, LawAt W pa pr i d e w

set_option maxHeartbeats 16000000 in
set_option maxRecDepth 20000 in
theorem asmdoes_main (l s : QSl) (L : List AStD) (ts : List ShapeD) (W : World) (hl : QRow 8 AStD.lie W l L) (hs : QRow 3 ShapeD.lie W s ts) (hsn : s.nil0) : Calls Try.prog 3 #[.slice l.a l.n l.c, .slice s.a s.n s.c] W (TellB true W) := by
  obtain ⟨la, ln, lc⟩ := l
  have HBEG := hid (abegun W)
  have HNEW := hid (fun w => anew w)
  have HL := hid hl
  have HS := hid hs
  have HSN := hid hsn
  clear hl hs hsn
  dsimp only
  go_enter Try.func3, Try.ntmps3
  go_wp2_with fail
  refine HBEG.out.mono ?_
  rintro e w2 ⟨rfl, hb2⟩
  have B2 := hid hb2
  clear hb2 HBEG
  by_cases h1 : (300 : Int) < (ln : Int)
  · go_wp2
    go_ret
    exact ⟨rfl, B2.out⟩
  by_cases h2 : (100 : Int) < (s.n : Int)
  · go_wp2
    go_ret
    exact ⟨rfl, B2.out⟩
  have HLN : Hid (ln ≤ 300) := by show _ ≤ _; omega
  have HSM : Hid (s.n ≤ 100) := by show _ ≤ _; omega
  go_wp2_with fail
  refine (HNEW.out _).mono ?_
  rintro e w3 ⟨rfl, e3⟩
  obtain ⟨pa, hpa⟩ : ∃ b, b = w2.heap.size := ⟨_, rfl⟩
  obtain ⟨pr, hpr⟩ : ∃ b, b = w3.heap.size := ⟨_, rfl⟩
  obtain ⟨W4, hW4⟩ : ∃ W4, W4 = w3.alloc (.cells #[.slice none 0 0, .slice none 0 0] 31) := ⟨_, rfl⟩
  have b3 : Below w2.heap.size w2 w3 := by rw [e3]; exact bl_alloc (Below.refl _ _)
  have hlt3 : pa < w3.heap.size := by rw [hpa, e3]; simp
  have HLAW : Hid (LawIs W pa pr 0 W4) := by
    refine ⟨⟨pa, none, 0, none, 0, [], []⟩, ⟨pr, none, 0, none, 0, [], []⟩, ?_, ?_, ?_, rfl, rfl, rfl, rfl, Nat.le_refl _, Nat.le_refl _, ?_⟩
    · have := lab_new 49 W.heap.size w2 B2.out.size
      rw [← e3, ← hpa] at this
      rw [hW4]
      exact this.step (bl_alloc (Below.refl _ _))
    · rw [hW4, hpr]
      exact lab_new 31 W.heap.size w3 (Nat.le_trans B2.out.size b3.size)
    · intro k hk hk2
      rcases hk with hk | ⟨ad, ha, _⟩ | ⟨ad, ha, _⟩
      · rcases hk2 with h2 | ⟨ad, ha, _⟩ | ⟨ad, ha, _⟩
        · have h2 : k = pr := h2
          have h3 : k = pa := hk
          omega
        · cases ha
        · cases ha
      · cases ha
      · cases ha
    · rw [hW4]
      exact bl_alloc (bl_step B2.out b3)
  have EW := hid hW4
  have EPA := hid hpa
  have EPR := hid hpr
  rw [← EPA.out]
  clear HNEW e3 hpa hpr hW4 b3 hlt3 h2
  dsimp only [lptr]
  go_upto_region 7 with fail
  rw [← EW.out, ← EPR.out]
  clear EW EPA EPR B2
  go_wp2
  go_loopw [7, 8, 9, 10, 11] (fun q _ _ _ _ wr => ∃ i : Nat, i ≤ ln ∧ q = .int .i64 i ∧ Hid (LawIs W pa pr i wr)) (fun q _ _ _ _ _ => ln - (intOf q).toNat)
  case atStart => exact ⟨0, Nat.zero_le _, rfl, HLAW⟩
  case round =>
    obtain ⟨i, hi, rfl, J⟩ := hrel
    clear HLAW
    by_cases hlt : i < ln
    · have hki : (i : Int) < (ln : Int) := by omega
      obtain ⟨d, e, hJ⟩ := J.out
      obtain ⟨g, off, st, ea, hst, hlie⟩ := grow_at (HL.out.step AStD.keeps hJ.bel) (show i < ln from hlt)
      have ea : la = some ⟨g, off, none⟩ := ea
      subst ea
      have HST : Hid (st.lie wr g (off + i * 8)) := hlie
      have HSTW : Hid (∀ w', Below W.heap.size W w' → st.lie w' g (off + i * 8)) := fun w' hb => by
        obtain ⟨g2, o2, st2, ea2, hst2, hlie2⟩ := grow_at (HL.out.step AStD.keeps hb) (show i < ln from hlt)
        have ea2 : some (Addr.mk g off none) = some ⟨g2, o2, none⟩ := ea2
        simp only [Option.some.injEq, Addr.mk.injEq, and_true] at ea2
        obtain ⟨rfl, rfl⟩ := ea2
        rw [hst] at hst2
        obtain rfl := Option.some.inj hst2
        exact hlie2
      have HIL : Hid (i < 300) := by show _ < _; have := HLN.out; omega
      obtain ⟨⟨x0, _⟩, ⟨xn, hxn⟩, _⟩ := hlie
      have gl := World.block_lt_of_cell? _ _ x0
      have HJ := hid hJ
      have HXN := hid hxn
      have HST0 := hid hst
      clear hJ J hst hxn
      by_cases w0 : st.what = 0
      · rw [w0] at x0
        have HW0 := hid w0
        clear w0
        have HA := hid (alabel HJ.out.a HJ.out.bel.size (by have := HJ.out.nm; have := HIL.out; omega))
        have hpd := HJ.out.pa
        rw [hpd] at HA
        clear hpd
        dsimp only [lptr] at HA
        go_wp2_with fail
        refine HA.out.mono ?_
        intro ed w5 k5
        obtain ⟨rfl, d', h5⟩ := HJ.out.half k5
        have HB5 := hid (rlabel h5.r h5.bel.size (by rw [h5.ems]; have := HJ.out.nm; have := HIL.out; omega))
        have hpe := h5.pr
        rw [hpe, h5.ems, h5.ecs] at HB5
        clear hpe
        have H5 := hid h5
        dsimp only [lptr] at HB5
        clear h5 k5 HA x0 xn
        go_wp2_with fail
        refine HB5.out.mono ?_
        intro ed w6 k6
        obtain ⟨rfl, e', h6⟩ := H5.out.whole (Nat.le_succ_of_le H5.out.nc) (by rw [List.length_append]; exact Nat.succ_le_succ H5.out.nm) k6
        have hq : ((d.ms.length : Int) != (d.ms.length : Int)) = false := by simp
        generalize hml : (d.ms.length : Int) = ml at *
        clear hml
        have H6 := hid h6
        clear h6 k6 HB5
        have H7 := hid (H6.out.step (Below.refl w6.heap.size w6).drew)
        obtain ⟨c0, c1, z0, z1, l0⟩ := H6.out.r.lbox
        rw [H6.out.pr, H6.out.cs] at c0
        rw [H6.out.pr] at l0
        have HLE : Hid (Calls Try.prog 14 #[.pointer (some ⟨pa, 0, none⟩)] w6.drew fun e w' => e = .returned (.int .i64 d'.cs.length) ∧ w' = w6.drew) := by
          have := alen H7.out.a
          rw [H7.out.pa] at this
          exact this
        have hq2 : ((d'.cs.length : Int) != (d'.cs.length : Int)) = false := by simp
        clear c1 z0 z1 H6
        go_wp2_with fail
        go_region_held3 (fun w' => w'.cell? ⟨pr, 0, none⟩ = some (.slice e'.la d'.cs.length e'.lc)) (go_keep) (first | (go_at_call 14; refine HLE.out.mono ?_; rintro ed w7 ⟨rfl, rfl⟩))
        all_goals
          clear c0 HLE
          go_wp2
          go_roundw
          case rel => exact ⟨i + 1, by omega, by go_num, _, _, H7.out⟩
          case measure => simp [intOf]; omega
      by_cases w1 : st.what = 1
      · rw [w1] at x0
        have HW1 := hid w1
        clear w1
        have HJd := hid (HJ.out.step (Below.refl wr.heap.size wr).drew)
        have HA := hid (amark HJd.out.a st.n)
        have hpd := HJd.out.pa
        rw [hpd] at HA
        clear hpd
        dsimp only [lptr] at HA
        have hq : (markB d.ms st.n != markB d.ms st.n) = false := by simp
        have HML : Hid ((if markB d.ms st.n = true then d.ms.set st.n.toNat d.cs.length else d.ms).length ≤ i + 1) := by
          have := HJ.out.nm
          show _ ≤ _
          split
          · rw [List.length_set]; omega
          · omega
        have HBM : Hid (∀ d' w', HalfAt W pa pr i d e d.cs (if markB d.ms st.n = true then d.ms.set st.n.toNat d.cs.length else d.ms) d' w' → Calls Try.prog 9 #[.pointer (some ⟨pr, 0, none⟩), .int .i64 st.n] w' (StepIs 31 W.heap.size e w' (.bool (markB d.ms st.n)) d.cs (if markB d.ms st.n = true then d.ms.set st.n.toNat d.cs.length else d.ms))) := fun d' w' h => by
          have := rmark h.r st.n
          rw [h.pr, h.ecs, h.ems] at this
          exact this
        generalize (if markB d.ms st.n = true then d.ms.set st.n.toNat d.cs.length else d.ms) = mr at *
        generalize markB d.ms st.n = mb at *
        go_wp2_with fail
        go_region_held3 (fun w' => w'.cell? ⟨g, off + i * 8 + 1, none⟩ = some (.int .i64 st.n))
          (first | (with_reducible exact xn5) | (with_reducible exact xn6) | go_keep)
          (first
            | (go_at_call 8; refine HA.out.mono ?_; intro ed w5 k5; obtain ⟨rfl, d', h5⟩ := HJd.out.half k5; have H5 := hid h5; have xn5 := (HSTW.out _ h5.bel).2.1.1; clear h5 k5)
            | (go_at_call 9; refine (HBM.out _ _ H5.out).mono ?_; intro ed w6 k6; obtain ⟨rfl, e', h6⟩ := H5.out.whole (Nat.le_succ_of_le H5.out.nc) HML.out k6; have H6 := hid h6; have xn6 := (HSTW.out _ h6.bel).2.1.1; clear h6 k6))
        clear x0 xn xn5 xn6 HA HBM HML
        have H7 := hid (H6.out.step (Below.refl w6.heap.size w6).drew)
        obtain ⟨c0, c1, z0, z1, l0⟩ := H6.out.r.lbox
        rw [H6.out.pr, H6.out.cs] at c0
        rw [H6.out.pr] at l0
        have HLE : Hid (Calls Try.prog 14 #[.pointer (some ⟨pa, 0, none⟩)] w6.drew fun e w' => e = .returned (.int .i64 d'.cs.length) ∧ w' = w6.drew) := by
          have := alen H7.out.a
          rw [H7.out.pa] at this
          exact this
        have hq2 : ((d'.cs.length : Int) != (d'.cs.length : Int)) = false := by simp
        clear c1 z0 z1 H6
        go_wp2_with fail
        go_region_held3 (fun w' => w'.cell? ⟨pr, 0, none⟩ = some (.slice e'.la d'.cs.length e'.lc)) (go_keep) (first | (go_at_call 14; refine HLE.out.mono ?_; rintro ed w7 ⟨rfl, rfl⟩))
        all_goals
          clear c0 HLE
          go_wp2
          go_roundw
          case rel => exact ⟨i + 1, by omega, by go_num, _, _, H7.out⟩
          case measure => simp [intOf]; omega
      by_cases w2' : st.what = 2
      · rw [w2'] at x0
        have HW2 := hid w2'
        clear w2'
        obtain ⟨⟨y0, v0⟩, ⟨y1, v1⟩, ⟨y2, v2⟩, ⟨y3, v3⟩, ⟨y4, v4⟩, ⟨y5, v5⟩⟩ := HST.out.2.2
        have HXW : Hid (∀ x ∈ [st.x], x.wf) := by intro x hx; simp only [List.mem_singleton] at hx; subst hx; exact ⟨v0, v1, v2, v3, v4, v5⟩
        have ha : Below wr.heap.size wr (wr.alloc (.cells #[.int .i64 st.x.op, .int .i64 st.x.r, .int .i64 st.x.s, .int .i64 st.x.k, .int .i64 st.x.to, .int .u64 st.x.n] 34)) := bl_alloc (Below.refl _ _)
        have HJa := hid (HJ.out.step ha)
        have HA := hid (aput (ad := ⟨wr.heap.size, 0, none⟩) (m := 1) (c := 1) (xs := [st.x]) HJa.out.a HJa.out.bel.size rfl (gsrc_of (cs := [.int .i64 st.x.op, .int .i64 st.x.r, .int .i64 st.x.s, .int .i64 st.x.k, .int .i64 st.x.to, .int .u64 st.x.n])) HXW.out (by decide) (by have := HJ.out.nc; have := HIL.out; omega))
        have hpd := HJa.out.pa
        rw [hpd] at HA
        clear hpd ha v0 v1 v2 v3 v4 v5
        dsimp only [lptr] at HA
        go_wp2_with fail
        refine HA.out.mono ?_
        intro ed w5 k5
        obtain ⟨rfl, d', h5⟩ := HJa.out.half k5
        have h5d := h5.step (Below.refl w5.heap.size w5).drew
        obtain ⟨⟨y0, _⟩, ⟨y1, _⟩, ⟨y2, _⟩, ⟨y3, _⟩, ⟨y4, _⟩, ⟨y5, _⟩⟩ := (HSTW.out _ h5.bel).2.2
        obtain ⟨gg, cap, w', hrun, ⟨c0', c1', z0', z1', l0'⟩, hLA, hLT⟩ := lab_code (w1 := w5.drew.alloc (.cells #[.int .i64 st.x.op, .int .i64 st.x.r, .int .i64 st.x.s, .int .i64 st.x.k, .int .i64 st.x.to, .int .u64 st.x.n] 34)) (ad := ⟨w5.drew.heap.size, 0, none⟩) (m := 1) (c := 1) (xs := [st.x]) h5d.r at_lab h5d.bel.size (bl_alloc (Below.refl _ _)) rfl (gsrc_of (cs := [.int .i64 st.x.op, .int .i64 st.x.r, .int .i64 st.x.s, .int .i64 st.x.k, .int .i64 st.x.to, .int .u64 st.x.n])) HXW.out (by decide) (by rw [h5.ecs]; have := HJ.out.nc; have := HIL.out; omega)
        obtain ⟨w6, hw6⟩ : ∃ w6, w6 = w'.setCell ⟨e.p, 0, none⟩ (.slice (some ⟨gg, 0, none⟩) (e.cs.length + 1) cap) := ⟨_, rfl⟩
        rw [← hw6] at hLA hLT
        have k6 : StepIs 31 W.heap.size e w5.drew (.tuple #[]) (d.cs ++ [st.x]) d.ms (.returned (.tuple #[])) w6 := ⟨_, rfl, hLA, hLT, rfl, by rw [← h5.ecs], h5.ems⟩
        obtain ⟨_, e', h6⟩ := h5d.whole (by rw [List.length_append]; exact Nat.succ_le_succ h5.nc) (Nat.le_succ_of_le h5.nm) k6
        obtain ⟨c0, c1, z0, z1, l0⟩ := h5.r.lbox
        have hep := h5.pr
        have hec := h5.ecs
        rw [hep, hec] at c0 c0' hw6
        rw [hep] at z0 z0' l0 l0' c1 c1' z1 z1'
        rw [hec] at hrun
        have hrun : (Builtin.append_ #[28, 28] 28 #[.slice e.la d.cs.length e.lc, .slice (some ⟨w5.heap.size, 0, none⟩) 1 1]).run Try.prog (w5.drew.alloc (.cells #[.int .i64 st.x.op, .int .i64 st.x.r, .int .i64 st.x.s, .int .i64 st.x.k, .int .i64 st.x.to, .int .u64 st.x.n] 34)) = .ok (.slice (some ⟨gg, 0, none⟩) (d.cs.length + 1) cap) w' := hrun
        have gl := World.block_lt_of_cell? _ _ y0
        have H6 := hid h6
        have E6 := hid hw6
        clear hep hec h6 h5 h5d k5 k6 hLA hLT HA x0 xn hw6 HJa
        go_wp2_with fail
        go_region_law (refine gapp_runR rfl _ _ rfl (by simp [Act.eval]) (by simp [Act.eval]) hrun ?_)
        all_goals
          go_upto_region 24 with fail
          rw [← E6.out]
          clear y0 y1 y2 y3 y4 y5 c0 c0' c1 c1' z0 z0' z1 z1' l0 l0' E6 hrun
          have H7 := hid (H6.out.step (Below.refl w6.heap.size w6).drew)
          obtain ⟨c0, c1, z0, z1, l0⟩ := H6.out.r.lbox
          rw [H6.out.pr, H6.out.cs] at c0
          rw [H6.out.pr] at l0
          have HLE : Hid (Calls Try.prog 14 #[.pointer (some ⟨pa, 0, none⟩)] w6.drew fun e w' => e = .returned (.int .i64 d'.cs.length) ∧ w' = w6.drew) := by
            have := alen H7.out.a
            rw [H7.out.pa] at this
            exact this
          have hq2 : ((d'.cs.length : Int) != (d'.cs.length : Int)) = false := by simp
          clear c1 z0 z1 H6
          go_region_held3 (fun w' => w'.cell? ⟨pr, 0, none⟩ = some (.slice e'.la d'.cs.length e'.lc)) (go_keep) (first | (go_at_call 14; refine HLE.out.mono ?_; rintro ed w7 ⟨rfl, rfl⟩))
          all_goals
            clear c0 HLE
            go_wp2
            go_roundw
            case rel => exact ⟨i + 1, by omega, by go_num, _, _, H7.out⟩
            case measure => simp [intOf]; omega
      have hw0 : (st.what == 0) = false := by simpa using w0
      have hw1 : (st.what == 1) = false := by simpa using w1
      have hw2 : (st.what == 2) = false := by simpa using w2'
      have HA := hid (adone HJ.out.a (by have := HJ.out.nc; have := HIL.out; omega) st.n HXN.out (HS.out.step ShapeD.keeps HJ.out.bel) HSN.out (by have := HSM.out; omega))
      have hpd := HJ.out.pa
      rw [hpd] at HA
      clear hpd w0 w1 w2'
      dsimp only [lptr] at HA
      have HBD : Hid (∀ w', Below wr.heap.size wr w' → Calls Try.prog 12 #[.pointer (some ⟨pr, 0, none⟩), .int .i64 st.n, .slice s.a s.n s.c] w' (DoneIs d.ms st.n ts d.cs w')) := fun w' hb => by
        have h := HJ.out.step hb
        have := rdone h.r (by rw [h.cs]; have := HJ.out.nc; have := HIL.out; omega) st.n HXN.out (HS.out.step ShapeD.keeps h.bel) HSN.out (by have := HSM.out; omega)
        rw [h.pr, h.cs, h.ms] at this
        exact this
      unfold DoneIs at HA HBD
      generalize (doneF d.ms st.n ts d.cs).1 = F1 at *
      generalize (doneF d.ms st.n ts d.cs).2 = F2 at *
      generalize doneS d.ms st.n ts d.cs = dS at *
      generalize doneT d.ms st.n ts d.cs = dT at *
      generalize doneC d.ms st.n ts d.cs = dC at *
      go_wp2_with fail
      refine HA.out.mono ?_
      rintro ed w5 ⟨⟨qs, ⟨ta, tn, tc⟩, qts, ⟨qa, qn, qc⟩, qcs⟩, rfl, e1, e2, e3, hq5, hsm5, hb5⟩
      obtain ⟨W6, hW6⟩ : ∃ W6, W6 = (w5.alloc (.cells #[.int .i64 qs, .slice ta tn tc, .slice qa qn qc] 41)).alloc (.cells #[.int .i64 F1, .int .i64 F2] 43) := ⟨_, rfl⟩
      obtain ⟨pb, hpb⟩ : ∃ b, b = w5.heap.size := ⟨_, rfl⟩
      obtain ⟨fb, hfb⟩ : ∃ b, b = w5.heap.size + 1 := ⟨_, rfl⟩
      have b6 : Below w5.heap.size w5 W6 := by rw [hW6]; exact bl_alloc (bl_alloc (Below.refl _ _))
      have PB6 : W6.heap[pb]? = some (.cells #[.int .i64 qs, .slice ta tn tc, .slice qa qn qc] 41 (0, 0)) := by rw [hW6, hpb, Below.heap_alloc _ _ _ (by simp)]; exact galloc_at _ _ _
      have FB6 : W6.heap[fb]? = some (.cells #[.int .i64 F1, .int .i64 F2] 43 (0, 0)) := by
        rw [hW6, hfb]
        have := galloc_at (w5.alloc (.cells #[.int .i64 qs, .slice ta tn tc, .slice qa qn qc] 41)) #[.int .i64 F1, .int .i64 F2] 43
        simpa using this
      have B6 := hid (bl_step hb5 b6)
      have HQ6 := hid (hq5.step b6)
      have HPB6 := hid PB6
      have HFB6 := hid FB6
      have HE1 : Hid (qs = dS ∧ qts = dT ∧ qcs = dC) := ⟨e1, e2, e3⟩
      have HSM5 := hid hsm5
      have EW6 := hid hW6
      have EPB := hid hpb
      have EFB := hid hfb
      have xn6 := cell_keep xn B6.out
      have HB7 := hid (HBD.out W6 B6.out)
      clear hq5 hsm5 hb5 b6 PB6 FB6 e1 e2 e3 hW6 hpb hfb HA HBD
      dsimp only [ProgD.v]
      go_upto_region 12 with fail
      rw [← EW6.out, ← EFB.out, ← EPB.out]
      clear EW6 EPB EFB x0 xn
      go_wp2_with fail
      refine HB7.out.mono ?_
      rintro ed w7 ⟨⟨rs, ⟨ua, un, uc⟩, rts, ⟨ra, rn, rc⟩, rcs⟩, rfl, e1, e2, e3, hq7, hsm7, hb7⟩
      obtain ⟨W8, hW8⟩ : ∃ W8, W8 = (w7.alloc (.cells #[.int .i64 rs, .slice ua un uc, .slice ra rn rc] 41)).alloc (.cells #[.int .i64 F1, .int .i64 F2] 43) := ⟨_, rfl⟩
      obtain ⟨qb, hqb⟩ : ∃ b, b = w7.heap.size := ⟨_, rfl⟩
      obtain ⟨gb, hgb⟩ : ∃ b, b = w7.heap.size + 1 := ⟨_, rfl⟩
      have b8 : Below w7.heap.size w7 W8 := by rw [hW8]; exact bl_alloc (bl_alloc (Below.refl _ _))
      have b68 : Below W6.heap.size W6 W8 := bl_step hb7 b8
      have QB8 : W8.heap[qb]? = some (.cells #[.int .i64 rs, .slice ua un uc, .slice ra rn rc] 41 (0, 0)) := by rw [hW8, hqb, Below.heap_alloc _ _ _ (by simp)]; exact galloc_at _ _ _
      have GB8 : W8.heap[gb]? = some (.cells #[.int .i64 F1, .int .i64 F2] 43 (0, 0)) := by
        rw [hW8, hgb]
        have := galloc_at (w7.alloc (.cells #[.int .i64 rs, .slice ua un uc, .slice ra rn rc] 41)) #[.int .i64 F1, .int .i64 F2] 43
        simpa using this
      have PB8 := (b68.block pb (Array.getElem?_eq_some_iff.1 HPB6.out).1).trans HPB6.out
      have FB8 := (b68.block fb (Array.getElem?_eq_some_iff.1 HFB6.out).1).trans HFB6.out
      have HSP : Hid (Calls Try.prog 13 #[.agg #[.int .i64 qs, .slice ta tn tc, .slice qa qn qc], .agg #[.int .i64 rs, .slice ua un uc, .slice ra rn rc]] W8 (TellB true W8)) := gsame ⟨qs, ⟨ta, tn, tc⟩, qts, ⟨qa, qn, qc⟩, qcs⟩ ⟨rs, ⟨ua, un, uc⟩, rts, ⟨ra, rn, rc⟩, rcs⟩ W8 (HQ6.out.step b68) (hq7.step b8) (HE1.out.1.trans e1.symm) (HE1.out.2.1.trans e2.symm) (HE1.out.2.2.trans e3.symm) HSM5.out
      have H8 := hid ((HJ.out.step (bl_step B6.out b68)).later (Nat.le_succ i))
      have p0 := (gbox_cell PB8 0).trans (rfl : _ = some (Value.int .i64 qs))
      have p1 := (gbox_cell PB8 1).trans (rfl : _ = some (Value.slice ta tn tc))
      have p2 := (gbox_cell PB8 2).trans (rfl : _ = some (Value.slice qa qn qc))
      have q0 := (gbox_cell QB8 0).trans (rfl : _ = some (Value.int .i64 rs))
      have q1 := (gbox_cell QB8 1).trans (rfl : _ = some (Value.slice ua un uc))
      have q2 := (gbox_cell QB8 2).trans (rfl : _ = some (Value.slice ra rn rc))
      have f0 := (gbox_cell FB8 0).trans (rfl : _ = some (Value.int .i64 F1))
      have f1 := (gbox_cell FB8 1).trans (rfl : _ = some (Value.int .i64 F2))
      have g0 := (gbox_cell GB8 0).trans (rfl : _ = some (Value.int .i64 F1))
      have g1 := (gbox_cell GB8 1).trans (rfl : _ = some (Value.int .i64 F2))
      have hf1 : (F1 != F1) = false := by simp
      have hf2 : (F2 != F2) = false := by simp
      have EW8 := hid hW8
      have EQB := hid hqb
      have EGB := hid hgb
      clear hq7 hsm7 hb7 b8 b68 PB8 FB8 QB8 GB8 e1 e2 e3 hW8 hqb hgb HB7 xn6 HJ
      dsimp only [ProgD.v]
      go_upto_region 13 with fail
      rw [← EW8.out, ← EGB.out, ← EQB.out]
      clear EW8 EQB EGB
      go_wp2_with fail
      refine HSP.out.mono ?_
      rintro ed w6 ⟨rfl, hb9⟩
      obtain ⟨d', hd'⟩ : ∃ d', d' = d := ⟨_, rfl⟩
      obtain ⟨e', he'⟩ : ∃ e', e' = e := ⟨_, rfl⟩
      have H6 := hid (H8.out.step hb9)
      rw [← hd', ← he'] at H6
      clear hb9 hd' he' H8 p0 p1 p2 q0 q1 q2 f0 f1 g0 g1 HSP
      have H7 := hid (H6.out.step (Below.refl w6.heap.size w6).drew)
      obtain ⟨c0, c1, z0, z1, l0⟩ := H6.out.r.lbox
      rw [H6.out.pr, H6.out.cs] at c0
      rw [H6.out.pr] at l0
      have HLE : Hid (Calls Try.prog 14 #[.pointer (some ⟨pa, 0, none⟩)] w6.drew fun e w' => e = .returned (.int .i64 d'.cs.length) ∧ w' = w6.drew) := by
        have := alen H7.out.a
        rw [H7.out.pa] at this
        exact this
      have hq2 : ((d'.cs.length : Int) != (d'.cs.length : Int)) = false := by simp
      clear c1 z0 z1 H6
      go_wp2_with fail
      go_region_held3 (fun w' => w'.cell? ⟨pr, 0, none⟩ = some (.slice e'.la d'.cs.length e'.lc)) (go_keep) (first | (go_at_call 14; refine HLE.out.mono ?_; rintro ed w7 ⟨rfl, rfl⟩))
      all_goals
        clear c0 HLE
        go_wp2
        go_roundw
        case rel => exact ⟨i + 1, by omega, by go_num, _, _, H7.out⟩
        case measure => simp [intOf]; omega
    · have hki : ¬ (i : Int) < (ln : Int) := by omega
      obtain ⟨d, e, hJ⟩ := J.out
      have HB := hid hJ.bel
      clear hJ J
      go_wp2
      go_ret
      exact ⟨rfl, HB.out⟩
end Go.Proofs.Ytkipfppblhkodaa
