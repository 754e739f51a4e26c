/- The document's WalkOf. -/
import Derived.Test.YtkggocdannkdmaaGreatVWOf
namespace Go.Proofs.YtkggocdannkdmaaGreat
open Go.RowKit

theorem ways_gone {p : PPlan} (h : (chkP p).1 = 0) {L : List Wk.Way} (hL : L = ⟨0, 0, 0⟩ :: L.flatMap (Wk.succW (parOf p h) (ldOf p))) (hn : ∀ y ∈ L, y.st ≤ p.ss.length) : ∀ y ∈ L, y.tk < 2 ^ 6 ∧ y.by_ ≤ 256 := by
  have h8 : (p.ss.length : Int) ≤ 8 := (chk_zero h 2 (by decide)).2.1
  intro y hy
  have hw := (Wk.ways_are (leads_same h) hL hn y.st y.tk y.by_).1 hy
  have := Wk.wy_small (K := 6) (Z := 32) (bitN_lt h) (szP_le h) hw
  have hs := hn y hy
  exact ⟨this.1, by omega⟩

/-- while the five cells of one place turn -/
structure Stp (g o lg l t z : Nat) (wr w' : World) (s : Wk.Sets) : Prop where
  but : But g wr w'
  far : ∀ p, p < o ∨ o + 5 ≤ p → w'.cell? ⟨g, p, none⟩ = wr.cell? ⟨g, p, none⟩
  five : Five w' g o s
  fz : ∀ i, w'.frozen? ⟨g, i, none⟩ = wr.frozen? ⟨g, i, none⟩
  q1 : w'.cell? ⟨lg, l + 1, none⟩ = some (.int .u64 (t : Int))
  q2 : w'.cell? ⟨lg, l + 2, none⟩ = some (.int .i64 (z : Int))
  ne : lg ≠ g

theorem Stp.drew {g o lg l t z : Nat} {wr w' : World} {s : Wk.Sets} (h : Stp g o lg l t z wr w' s) : Stp g o lg l t z wr w'.drew s :=
  ⟨⟨h.but.low.drew, h.but.up⟩, h.far, ⟨h.five.c0, h.five.c1, h.five.c2, h.five.c3, h.five.c4⟩, h.fz, h.q1, h.q2, h.ne⟩

theorem Stp.put {g o lg l t z : Nat} {wr w' : World} {s s' : Wk.Sets} {p : Nat} {v : Value} (h : Stp g o lg l t z wr w' s) (hp : o ≤ p ∧ p < o + 5) (h5 : Five (w'.setCell ⟨g, p, none⟩ v) g o s') : Stp g o lg l t z wr (w'.setCell ⟨g, p, none⟩ v) s' :=
  ⟨h.but.trans set_but, fun q hq => (cell_other rfl (by omega)).trans (h.far q hq), h5, fun i => by rw [World.frozen?_setCell]; exact h.fz i, set_but.cell h.ne h.q1, set_but.cell h.ne h.q2, h.ne⟩

theorem Stp.put0 {g o lg l t z : Nat} {wr w' : World} {s : Wk.Sets} (h : Stp g o lg l t z wr w' s) (v : Nat) : Stp g o lg l t z wr (w'.setCell ⟨g, o, none⟩ (.int .u64 (v : Int))) ⟨v, s.may, s.least, s.most, s.there⟩ :=
  h.put ⟨Nat.le_refl _, by omega⟩ ⟨World.cell?_setCell_same _ _ _ h.five.c0, cell_other h.five.c1 (by omega), cell_other h.five.c2 (by omega), cell_other h.five.c3 (by omega), cell_other h.five.c4 (by omega)⟩

theorem Stp.put1 {g o lg l t z : Nat} {wr w' : World} {s : Wk.Sets} (h : Stp g o lg l t z wr w' s) (v : Nat) : Stp g o lg l t z wr (w'.setCell ⟨g, o + 1, none⟩ (.int .u64 (v : Int))) ⟨s.must, v, s.least, s.most, s.there⟩ :=
  h.put ⟨by omega, by omega⟩ ⟨cell_other h.five.c0 (by omega), World.cell?_setCell_same _ _ _ h.five.c1, cell_other h.five.c2 (by omega), cell_other h.five.c3 (by omega), cell_other h.five.c4 (by omega)⟩

theorem Stp.put2 {g o lg l t z : Nat} {wr w' : World} {s : Wk.Sets} (h : Stp g o lg l t z wr w' s) (v : Nat) : Stp g o lg l t z wr (w'.setCell ⟨g, o + 2, none⟩ (.int .i64 (v : Int))) ⟨s.must, s.may, v, s.most, s.there⟩ :=
  h.put ⟨by omega, by omega⟩ ⟨cell_other h.five.c0 (by omega), cell_other h.five.c1 (by omega), World.cell?_setCell_same _ _ _ h.five.c2, cell_other h.five.c3 (by omega), cell_other h.five.c4 (by omega)⟩

theorem Stp.put3 {g o lg l t z : Nat} {wr w' : World} {s : Wk.Sets} (h : Stp g o lg l t z wr w' s) (v : Nat) : Stp g o lg l t z wr (w'.setCell ⟨g, o + 3, none⟩ (.int .i64 (v : Int))) ⟨s.must, s.may, s.least, v, s.there⟩ :=
  h.put ⟨by omega, by omega⟩ ⟨cell_other h.five.c0 (by omega), cell_other h.five.c1 (by omega), cell_other h.five.c2 (by omega), World.cell?_setCell_same _ _ _ h.five.c3, cell_other h.five.c4 (by omega)⟩

theorem Stp.put4 {g o lg l t z : Nat} {wr w' : World} {s : Wk.Sets} (h : Stp g o lg l t z wr w' s) (v : Bool) : Stp g o lg l t z wr (w'.setCell ⟨g, o + 4, none⟩ (.bool v)) ⟨s.must, s.may, s.least, s.most, v⟩ :=
  h.put ⟨by omega, by omega⟩ ⟨cell_other h.five.c0 (by omega), cell_other h.five.c1 (by omega), cell_other h.five.c2 (by omega), cell_other h.five.c3 (by omega), World.cell?_setCell_same _ _ _ h.five.c4⟩

theorem two_keep {w : World} {g o lg l t z : Nat} {v0 v1 v2 v3 v4 : Value} (hne : lg ≠ g) (h : w.cell? ⟨lg, l + 1, none⟩ = some (.int .u64 (t : Int)) ∧ w.cell? ⟨lg, l + 2, none⟩ = some (.int .i64 (z : Int))) :
    (((((w.setCell ⟨g, o, none⟩ v0).setCell ⟨g, o + 1, none⟩ v1).setCell ⟨g, o + 2, none⟩ v2).setCell ⟨g, o + 3, none⟩ v3).setCell ⟨g, o + 4, none⟩ v4).drew.cell? ⟨lg, l + 1, none⟩ = some (.int .u64 (t : Int)) ∧ (((((w.setCell ⟨g, o, none⟩ v0).setCell ⟨g, o + 1, none⟩ v1).setCell ⟨g, o + 2, none⟩ v2).setCell ⟨g, o + 3, none⟩ v3).setCell ⟨g, o + 4, none⟩ v4).drew.cell? ⟨lg, l + 2, none⟩ = some (.int .i64 (z : Int)) := by
  have b : But g w (((((w.setCell ⟨g, o, none⟩ v0).setCell ⟨g, o + 1, none⟩ v1).setCell ⟨g, o + 2, none⟩ v2).setCell ⟨g, o + 3, none⟩ v3).setCell ⟨g, o + 4, none⟩ v4) := set_but.trans (set_but.trans (set_but.trans (set_but.trans set_but)))
  have h1 := b.cell hne h.1
  have h2 := b.cell hne h.2
  generalize ((((w.setCell ⟨g, o, none⟩ v0).setCell ⟨g, o + 1, none⟩ v1).setCell ⟨g, o + 2, none⟩ v2).setCell ⟨g, o + 3, none⟩ v3).setCell ⟨g, o + 4, none⟩ v4 = w' at h1 h2 ⊢
  exact ⟨h1, h2⟩

set_option maxHeartbeats 8000000 in
set_option maxRecDepth 20000 in
theorem walkof_bad (d : PlanD) (w : World) (hl : d.lie w) (hs : d.p.little) (hc : (chkP d.p).1 ≠ 0) : Calls Tryz.prog 25 #[d.v] w (WalkDone d.p w) := by
  obtain ⟨W2, hW⟩ : ∃ W2, W2 = ((w.alloc (.cells #[.slice d.heads.a d.heads.n d.heads.c, .slice d.mta.a d.mta.n d.mta.c, .slice d.states.a d.states.n d.states.c, .slice d.acts.a d.acts.n d.acts.c, .slice d.tabs.a d.tabs.n d.tabs.c, .slice d.nodes.a d.nodes.n d.nodes.c, .slice d.out.a d.out.n d.out.c] 29)).alloc (.cells #[.int .i64 0, .int .i64 0] 35)) := ⟨_, rfl⟩
  obtain ⟨s, es⟩ : ∃ s, s = w.heap.size := ⟨_, rfl⟩
  obtain ⟨f, ef⟩ : ∃ f, f = w.heap.size + 1 := ⟨_, rfl⟩
  have HA : Hid (WlkAt d w W2 s f) := by rw [hW, es, ef]; exact wlk_at d w
  have HB : Hid (Below w.heap.size w W2) := by rw [hW]; exact bl_alloc (bl_alloc (Below.refl _ _))
  have HCK := hid (wform_told d W2 (hl.step HB.out) hs)
  have HE : Hid (∀ w', Below w.heap.size w w' → WalkDone d.p w (.returned (.tuple #[.slice none 0 0, .agg #[.int .i64 (chkP d.p).1, .int .i64 (chkP d.p).2]])) w') := fun w' h => ⟨_, _, none, 0, 0, rfl, .inl ⟨hc, rfl, rfl⟩, fun _ => ⟨rfl, rfl, rfl⟩, fun h' => absurd h' hc, h⟩
  have hne : ((chkP d.p).1 != 0) = true := by rw [bne_iff_ne]; exact hc
  have EW := hid hW
  have ES := hid es
  have EF := hid ef
  clear hl hs hc hW es ef
  generalize (chkP d.p).1 = C at *
  generalize (chkP d.p).2 = A at *
  go_enter Tryz.func25, Tryz.ntmps25
  go_wp2_with fail
  rw [← EW.out, ← EF.out, ← ES.out]
  refine HCK.out.mono ?_
  rintro e w1 ⟨rfl, hb1⟩
  clear HCK EW ES EF
  have HA1 := hid (HA.out.step hb1)
  have HB1 := hid (bl_step HB.out hb1)
  have c0 := HA1.out.f0
  have c1 := HA1.out.f1
  have z0 := HA1.out.fz 0
  have z1 := HA1.out.fz 1
  have hfl : f < w1.heap.size := HA1.out.fl
  have HX : Hid (∀ o, WalkDone d.p w (.returned (.tuple #[.slice none 0 0, .agg #[.int .i64 C, .int .i64 A]])) (((w1.setCell ⟨f, 0, none⟩ (.int .i64 C)).setCell ⟨f, 1, none⟩ (.int .i64 A)).alloc o).drew) := fun o => HE.out _ (bl_alloc ((HB1.out.setCell (p := ⟨f, 0, none⟩) HA.out.wf _).setCell (p := ⟨f, 1, none⟩) HA.out.wf _)).drew
  clear HA HB HA1 HE HB1 hb1
  go_wp2_with fail
  go_region
  all_goals
    go_wp2
    exact bodyPost_ret (v := .tuple #[.slice none 0 0, .agg #[.int .i64 C, .int .i64 A]]) (by simp [results, Tryz.results25, go_sem, *]) rfl (HX.out _)

set_option maxHeartbeats 16000000 in
set_option maxRecDepth 20000 in
theorem walkof_good (d : PlanD) (w : World) (hl : d.lie w) (hs : d.p.little) (hc : (chkP d.p).1 = 0) : Calls Tryz.prog 25 #[d.v] w (WalkDone d.p w) := by
  obtain ⟨W2, hW⟩ : ∃ W2, W2 = ((w.alloc (.cells #[.slice d.heads.a d.heads.n d.heads.c, .slice d.mta.a d.mta.n d.mta.c, .slice d.states.a d.states.n d.states.c, .slice d.acts.a d.acts.n d.acts.c, .slice d.tabs.a d.tabs.n d.tabs.c, .slice d.nodes.a d.nodes.n d.nodes.c, .slice d.out.a d.out.n d.out.c] 29)).alloc (.cells #[.int .i64 0, .int .i64 0] 35)) := ⟨_, rfl⟩
  obtain ⟨s, es⟩ : ∃ s, s = w.heap.size := ⟨_, rfl⟩
  obtain ⟨f, ef⟩ : ∃ f, f = w.heap.size + 1 := ⟨_, rfl⟩
  have HA : Hid (WlkAt d w W2 s f) := by rw [hW, es, ef]; exact wlk_at d w
  have HB : Hid (Below w.heap.size w W2) := by rw [hW]; exact bl_alloc (bl_alloc (Below.refl _ _))
  have HCK := hid (wform_told d W2 (hl.step HB.out) hs)
  have en : d.p.ss.length = d.states.n := by simp [PlanD.p, hl.ss.1]
  have hn8 : d.states.n ≤ 8 := by have : (d.p.ss.length : Int) ≤ 8 := (chk_zero hc 2 (by decide)).2.1; omega
  obtain ⟨m, hm⟩ : ∃ m, m = d.states.n + 1 := ⟨_, rfl⟩
  obtain ⟨i0, hi, hz0, hz1, hz2⟩ := info_parts Tryz.infoRSets
  have hwr : IntKind.i64.wrap ((d.states.n : Int) + 1) = (d.states.n : Int) + 1 := wrap_small _ (by omega) (by omega)
  have hmk : ∀ W : World, (Instr.makeSlice 98 (.int .i64 ((d.states.n : Int) + 1)) (.int .i64 ((d.states.n : Int) + 1))).run Tryz.prog W = .ok (.slice (some ⟨W.heap.size, 0, none⟩) m m) (W.alloc (.cells (zCells m) 101)) := fun W => by
    have h := run_make (P := Tryz.prog) W 98 101 i0 _ Tryz.underlying98 hi hz0 .i64 .i64 ((d.states.n : Int) + 1) ((d.states.n : Int) + 1) (by omega) (by omega) (by rw [hz2]; omega) (by omega)
    rw [show ((d.states.n : Int) + 1).toNat = m by omega, hz1] at h
    exact h
  have HMK := hid hmk
  have HWR := hid hwr
  have EW := hid hW
  have ES := hid es
  have EF := hid ef
  have HL := hid hl
  have HC := hid hc
  have EN := hid en
  have HN8 := hid hn8
  have HM := hid hm
  clear hl hs hc hW es ef hi hz0 hz1 hz2 en hn8 hm hmk hwr
  go_enter Tryz.func25, Tryz.ntmps25
  go_wp2_with fail
  rw [← EW.out, ← EF.out, ← ES.out]
  refine HCK.out.mono ?_
  rintro e w1 ⟨rfl, hb1⟩
  rw [HC.out]
  clear HCK EW ES EF
  generalize (chkP d.p).2 = A
  obtain ⟨W3, hW3⟩ : ∃ W3, W3 = w1.alloc (.cells #[.int .i64 0, .int .i64 A] 35) := ⟨_, rfl⟩
  have b3 : Below W2.heap.size W2 W3 := by rw [hW3]; exact bl_alloc hb1
  have HA3 := hid (HA.out.step b3)
  have HB3 := hid (bl_step HB.out b3)
  have EW3 := hid hW3
  clear hb1 b3 HA HB hW3
  have HWY := hid (ways_any d W3 (HL.out.step HB3.out) HC.out)
  obtain ⟨z0, z1, z2, z3, z4, z5, z6⟩ := HA3.out.cs
  rw [EW3.out] at z0 z1 z2 z3 z4 z5 z6
  go_wp2_with fail
  rw [← EW3.out]
  refine HWY.out.mono ?_
  rintro e w4 ⟨la, lc, L, rfl, hL, hst, hlen, how, hb4⟩
  clear HWY EW3 z0 z1 z2 z3 z4 z5 z6
  have HA4 := hid (HA3.out.step hb4)
  have HB4 := hid (bl_step HB3.out hb4)
  have HO := hid how
  have HLL := hid hL
  have HST := hid hst
  have HLEN := hid hlen
  clear hL hst hlen how hb4 HA3 HB3
  have z2 : w4.cell? ⟨s, 2, none⟩ = some (.slice d.states.a d.states.n d.states.c) := HA4.out.cs.2.2.1
  have hmk := HMK.out
  have hwr := HWR.out
  have HGS : Hid (∀ y ∈ L, y.tk < 2 ^ 6 ∧ y.by_ ≤ 256) := ways_gone HC.out HLL.out HST.out
  obtain ⟨lg, hla⟩ : ∃ lg, la = some ⟨lg, 0, none⟩ := by
    have h0 : L[0]? = some ⟨0, 0, 0⟩ := by rw [HLL.out]; rfl
    obtain ⟨lg, e, _⟩ := HO.out.at h0
    exact ⟨lg, e⟩
  subst hla
  obtain ⟨K, hK⟩ : ∃ K, L.length = K := ⟨_, rfl⟩
  rw [hK]
  have EK := hid hK
  clear hK
  go_upto_region 6 with fail
  obtain ⟨g, hg⟩ : ∃ g, g = w4.heap.size := ⟨_, rfl⟩
  obtain ⟨W5, hW5⟩ : ∃ W5, W5 = w4.alloc (.cells (zCells m) 101) := ⟨_, rfl⟩
  have b5 : Below w4.heap.size w4 W5 := by rw [hW5]; exact bl_alloc (Below.refl _ _)
  have HA5 : Hid (Ahd g (sumK d.states.n L 0) W5) := by
    have h := ahd_made w4 m 101
    rw [← hW5, ← hg, HM.out] at h
    exact h
  have hlg0 : lg < w4.heap.size := by
    have h0 : L[0]? = some ⟨0, 0, 0⟩ := by rw [HLL.out]; rfl
    obtain ⟨l2, e, _, h1, _⟩ := HO.out.at h0
    cases e
    exact World.block_lt_of_cell? w4 _ h1
  have hlg : lg ≠ g := by omega
  have HWA : Hid (∀ wr, But g W5 wr → ∀ k y, L[k]? = some y → wr.cell? ⟨lg, k * 3, none⟩ = some (.int .i64 (y.st : Int)) ∧ wr.cell? ⟨lg, k * 3 + 1, none⟩ = some (.int .u64 (y.tk : Int)) ∧ wr.cell? ⟨lg, k * 3 + 2, none⟩ = some (.int .i64 (y.by_ : Int))) := fun wr hb k y hy => by
    obtain ⟨l2, e, _, h1, h2, h3⟩ := HO.out.at hy
    cases e
    exact ⟨hb.cell hlg (cell_keep h1 b5), hb.cell hlg (cell_keep h2 b5), hb.cell hlg (cell_keep h3 b5)⟩
  have HAW := hid (HA4.out.step b5)
  have HB5 := hid (bl_step HB4.out b5)
  have HWG : Hid (w.heap.size ≤ g) := by rw [hg]; exact HB4.out.size
  have HGF : Hid (f ≠ g) := by have := HA4.out.fl; show f ≠ g; omega
  have HGL : Hid (s ≠ g) := by
    have h : s < w4.heap.size := World.block_lt_of_cell? w4 _ z2
    show s ≠ g
    omega
  have HLG := hid hlg
  rw [← hW5, ← hg]
  clear hW5 hg b5 hlg0 hlg HA4 HB4 HO z2 hmk hwr HMK HWR
  have HK2 : Hid (K ≤ 512) := by
    have h1 := HLEN.out
    have h2 := EN.out
    have h3 := HN8.out
    have h4 := EK.out
    have h5 : 2 ^ (d.p.ss.length + 1) ≤ 2 ^ 9 := Nat.pow_le_pow_right (by decide) (by omega)
    show K ≤ 512
    omega
  go_wp2
  go_loopw [7, 8] (fun qv _ wr => ∃ k : Nat, k ≤ K ∧ qv = .int .i64 k ∧ Hid (Ahd g (sumK d.states.n L k) wr) ∧ Hid (But g W5 wr)) (fun qv _ _ => K - (intOf qv).toNat)
  case atStart => exact ⟨0, Nat.zero_le _, rfl, HA5, But.refl _ _⟩
  case round =>
    obtain ⟨k, hk, rfl, HAJ, HBJ⟩ := hrel
    by_cases hlt : k < K
    · obtain ⟨y, hy⟩ : ∃ y, L[k]? = some y := ⟨L[k]'(by rw [EK.out]; exact hlt), List.getElem?_eq_getElem _⟩
      have hym := List.mem_of_getElem? hy
      have hkI : (k : Int) < (K : Int) := by omega
      have hk2 := HK2.out
      obtain ⟨q0, q1, q2⟩ := HWA.out wr HBJ.out k y hy
      have hfs := sumK_few (n := d.states.n) HGS.out k
      have hyst : y.st < d.states.n + 1 := by have := HST.out y hym; have := EN.out; omega
      obtain ⟨x, hx⟩ : ∃ x, (sumK d.states.n L k)[y.st]? = some x := ⟨(sumK d.states.n L k)[y.st]'(by rw [hfs.2]; exact hyst), List.getElem?_eq_getElem _⟩
      have hxf : x.few := hfs.1 x (List.mem_of_getElem? hx)
      have hmI : (y.st : Int) < (m : Int) := by have := HM.out; omega
      obtain ⟨x0, x1, x2, x3, x4⟩ := HAJ.out.cs y.st x hx
      have HFZ := hid HAJ.out.fz
      have HNX : Hid (∀ w', But g wr w' → (∀ p, p < y.st * 5 ∨ y.st * 5 + 5 ≤ p → w'.cell? ⟨g, p, none⟩ = wr.cell? ⟨g, p, none⟩) → Five w' g (y.st * 5) (Wk.joinS x ⟨y.tk, y.tk, y.by_, y.by_, true⟩) → (∀ o, w'.frozen? ⟨g, o, none⟩ = wr.frozen? ⟨g, o, none⟩) → Ahd g (sumK d.states.n L (k + 1)) w') := fun w' hb far h5 hz => by
        rw [sumK_next hy]
        have e : (sumK d.states.n L k).getD y.st Wk.zero = x := by rw [List.getD_eq_getElem?_getD, hx]; rfl
        unfold Wk.addW
        rw [e]
        exact ahd_set HAJ.out hx far h5 hz hb.size
      have HY6 := hid (HGS.out y hym)
      have HXF := hid hxf
      clear hym hfs hyst hx hxf HAJ hy
      go_upto_region 10 with fail
      obtain ⟨o, ho⟩ : ∃ o, y.st * 5 = o := ⟨_, rfl⟩
      rw [ho] at x0 x1 x2 x3 x4 HNX ⊢
      clear ho
      obtain ⟨ys, t, z⟩ := y
      dsimp only at q0 q1 q2 hmI HNX HY6 ⊢
      have f0 := HFZ.out o
      have f1 := HFZ.out (o + 1)
      have f2 := HFZ.out (o + 2)
      have f3 := HFZ.out (o + 3)
      have f4 := HFZ.out (o + 4)
      have hk1 : (k : Int) + 1 ≤ 512 := by omega
      cases hth : x.there with
      | false =>
        obtain ⟨W6, hW6⟩ : ∃ W6, W6 = (((((wr.setCell ⟨g, o, none⟩ (.int .u64 (t : Int))).setCell ⟨g, o + 1, none⟩ (.int .u64 (t : Int))).setCell ⟨g, o + 2, none⟩ (.int .i64 (z : Int))).setCell ⟨g, o + 3, none⟩ (.int .i64 (z : Int))).setCell ⟨g, o + 4, none⟩ (.bool true)).drew := ⟨_, rfl⟩
        have S0 : Stp g o lg (k * 3) t z wr wr x := ⟨But.refl _ _, fun _ _ => rfl, ⟨x0, x1, x2, x3, x4⟩, fun _ => rfl, q1, q2, HLG.out⟩
        have S6 : Stp g o lg (k * 3) t z wr W6 ⟨t, t, z, z, true⟩ := by rw [hW6]; exact (((((S0.put0 t).put1 t).put2 z).put3 z).put4 true).drew
        have e : Wk.joinS x ⟨t, t, z, z, true⟩ = ⟨t, t, z, z, true⟩ := by unfold Wk.joinS; rw [hth]; rfl
        have RN : Hid (Ahd g (sumK d.states.n L (k + 1)) W6) := HNX.out _ S6.but S6.far (by rw [e]; exact S6.five) S6.fz
        have RB : Hid (But g W5 W6) := HBJ.out.trans S6.but
        have EW6 := hid hW6
        rw [hth] at x4
        clear HNX HBJ HFZ HXF HY6 hW6 S0 S6 e
        go_wp2_with fail
        go_region_held3 (fun w' => w'.cell? ⟨lg, k * 3 + 1, none⟩ = some (.int .u64 (t : Int)) ∧ w'.cell? ⟨lg, k * 3 + 2, none⟩ = some (.int .i64 (z : Int)))
          (first
            | (go_split_ands; with_reducible exact two_keep HLG.out ⟨by assumption, by assumption⟩)
            | go_keep)
          (fail)
        clear q0 q1 q2 x0 x1 x2 x3 x4 f0 f1 f2 f3 f4
        rw [← EW6.out]
        clear EW6
        go_wp2
        go_roundw
        case rel => exact ⟨k + 1, by omega, by go_num, RN, RB⟩
        case measure => simp [intOf]; omega
      | true =>
        have S0 : Hid (Stp g o lg (k * 3) t z wr wr x) := ⟨But.refl _ _, fun _ _ => rfl, ⟨x0, x1, x2, x3, x4⟩, fun _ => rfl, q1, q2, HLG.out⟩
        have ej : Hid (Wk.joinS x ⟨t, t, z, z, true⟩ = ⟨x.must &&& t, x.may ||| t, min x.least z, max x.most z, true⟩) := by show _ = _; unfold Wk.joinS; rw [hth]; rfl
        have hand := u64and x.must t (few64 HXF.out.mu) (few64 HY6.out.1)
        have hor := u64or x.may t (few64 HXF.out.ma) (few64 HY6.out.1)
        rw [hth] at x4
        go_wp2_with fail
        go_region
        obtain ⟨W6, hW6⟩ : ∃ W6, W6 = (wr.setCell ⟨g, o, none⟩ (.int .u64 ((x.must &&& t : Nat) : Int))).drew := ⟨_, rfl⟩
        have S6 : Hid (Stp g o lg (k * 3) t z wr W6 ⟨x.must &&& t, x.may, x.least, x.most, x.there⟩) := by rw [hW6]; exact (S0.out.put0 _).drew
        rw [← hW6]
        clear hW6 S0 hand x0 x1 x2 x3 x4 q1 q2 f0 f1 f2 f3 f4
        have x1 := S6.out.five.c1
        have q1 := S6.out.q1
        have q2 := S6.out.q2
        have f1 : W6.frozen? ⟨g, o + 1, none⟩ = false := (S6.out.fz _).trans (HFZ.out _)
        dsimp only at x1
        go_wp2_with fail
        go_region
        obtain ⟨W7, hW7⟩ : ∃ W7, W7 = (W6.setCell ⟨g, o + 1, none⟩ (.int .u64 ((x.may ||| t : Nat) : Int))).drew := ⟨_, rfl⟩
        have S7 : Hid (Stp g o lg (k * 3) t z wr W7 ⟨x.must &&& t, x.may ||| t, x.least, x.most, x.there⟩) := by rw [hW7]; exact (S6.out.put1 _).drew
        rw [← hW7]
        clear hW7 S6 hor x1 q1 q2 f1
        have x2 := S7.out.five.c2
        have q2 := S7.out.q2
        have f2 : W7.frozen? ⟨g, o + 2, none⟩ = false := (S7.out.fz _).trans (HFZ.out _)
        dsimp only at x2
        go_wp2_with fail
        go_region
        have S8 : Hid (Stp g o lg (k * 3) t z wr W7.drew ⟨x.must &&& t, x.may ||| t, x.least, x.most, x.there⟩) := S7.out.drew
        have x2 : W7.drew.cell? ⟨g, o + 2, none⟩ = some (.int .i64 (x.least : Int)) := S8.out.five.c2
        have q2 := S8.out.q2
        have f2 : W7.drew.frozen? ⟨g, o + 2, none⟩ = false := (S8.out.fz _).trans (HFZ.out _)
        generalize W7.drew = W8 at *
        by_cases hlz : (z : Int) < (x.least : Int)
        · obtain ⟨W9, hW9⟩ : ∃ W9, W9 = W8.setCell ⟨g, o + 2, none⟩ (.int .i64 (z : Int)) := ⟨_, rfl⟩
          have S9 : Hid (Stp g o lg (k * 3) t z wr W9 ⟨x.must &&& t, x.may ||| t, z, x.most, x.there⟩) := by rw [hW9]; exact S8.out.put2 z
          have EW9 := hid hW9
          clear hW9 S8 S7
          go_wp2_with fail
          rw [← EW9.out]
          clear EW9 x2 q2 f2
          have x3 : W9.cell? ⟨g, o + 3, none⟩ = some (.int .i64 (x.most : Int)) := S9.out.five.c3
          have q2 := S9.out.q2
          go_region
          have S10 : Hid (Stp g o lg (k * 3) t z wr W9.drew ⟨x.must &&& t, x.may ||| t, z, x.most, x.there⟩) := S9.out.drew
          obtain ⟨W10, hW10⟩ : ∃ W10, W10 = W9.drew := ⟨_, rfl⟩
          rw [← hW10] at S10 ⊢
          clear hW10 x3 q2
          have x3 : W10.cell? ⟨g, o + 3, none⟩ = some (.int .i64 (x.most : Int)) := S10.out.five.c3
          have q2 := S10.out.q2
          have f3 : W10.frozen? ⟨g, o + 3, none⟩ = false := (S10.out.fz _).trans (HFZ.out _)
          by_cases hmz : (x.most : Int) < (z : Int)
          · have S11 : Stp g o lg (k * 3) t z wr (W10.setCell ⟨g, o + 3, none⟩ (.int .i64 (z : Int))) ⟨x.must &&& t, x.may ||| t, z, z, x.there⟩ := S10.out.put3 z
            have e : (⟨x.must &&& t, x.may ||| t, z, z, x.there⟩ : Wk.Sets) = Wk.joinS x ⟨t, t, z, z, true⟩ := by rw [ej.out, hth]; simp only [Wk.Sets.mk.injEq, true_and, and_true]; omega
            have RN : Hid (Ahd g (sumK d.states.n L (k + 1)) (W10.setCell ⟨g, o + 3, none⟩ (.int .i64 (z : Int)))) := HNX.out _ S11.but S11.far (by rw [← e]; exact S11.five) S11.fz
            have RB : Hid (But g W5 (W10.setCell ⟨g, o + 3, none⟩ (.int .i64 (z : Int)))) := HBJ.out.trans S11.but
            clear S11 S10 S9 HNX HBJ HFZ HXF HY6 e ej
            go_wp2
            go_roundw
            case rel => exact ⟨k + 1, by omega, by go_num, RN, RB⟩
            case measure => simp [intOf]; omega
          · have S11 : Stp g o lg (k * 3) t z wr (W10) ⟨x.must &&& t, x.may ||| t, z, x.most, x.there⟩ := S10.out
            have e : (⟨x.must &&& t, x.may ||| t, z, x.most, x.there⟩ : Wk.Sets) = Wk.joinS x ⟨t, t, z, z, true⟩ := by rw [ej.out, hth]; simp only [Wk.Sets.mk.injEq, true_and, and_true]; omega
            have RN : Hid (Ahd g (sumK d.states.n L (k + 1)) (W10)) := HNX.out _ S11.but S11.far (by rw [← e]; exact S11.five) S11.fz
            have RB : Hid (But g W5 (W10)) := HBJ.out.trans S11.but
            clear S11 S10 S9 HNX HBJ HFZ HXF HY6 e ej
            go_wp2
            go_roundw
            case rel => exact ⟨k + 1, by omega, by go_num, RN, RB⟩
            case measure => simp [intOf]; omega
        · obtain ⟨W9, hW9⟩ : ∃ W9, W9 = W8 := ⟨_, rfl⟩
          have S9 : Hid (Stp g o lg (k * 3) t z wr W9 ⟨x.must &&& t, x.may ||| t, x.least, x.most, x.there⟩) := by rw [hW9]; exact S8.out
          subst hW9
          clear S8 S7
          go_wp2_with fail
          clear x2 q2 f2
          have x3 : W9.cell? ⟨g, o + 3, none⟩ = some (.int .i64 (x.most : Int)) := S9.out.five.c3
          have q2 := S9.out.q2
          go_region
          have S10 : Hid (Stp g o lg (k * 3) t z wr W9.drew ⟨x.must &&& t, x.may ||| t, x.least, x.most, x.there⟩) := S9.out.drew
          obtain ⟨W10, hW10⟩ : ∃ W10, W10 = W9.drew := ⟨_, rfl⟩
          rw [← hW10] at S10 ⊢
          clear hW10 x3 q2
          have x3 : W10.cell? ⟨g, o + 3, none⟩ = some (.int .i64 (x.most : Int)) := S10.out.five.c3
          have q2 := S10.out.q2
          have f3 : W10.frozen? ⟨g, o + 3, none⟩ = false := (S10.out.fz _).trans (HFZ.out _)
          by_cases hmz : (x.most : Int) < (z : Int)
          · have S11 : Stp g o lg (k * 3) t z wr (W10.setCell ⟨g, o + 3, none⟩ (.int .i64 (z : Int))) ⟨x.must &&& t, x.may ||| t, x.least, z, x.there⟩ := S10.out.put3 z
            have e : (⟨x.must &&& t, x.may ||| t, x.least, z, x.there⟩ : Wk.Sets) = Wk.joinS x ⟨t, t, z, z, true⟩ := by rw [ej.out, hth]; simp only [Wk.Sets.mk.injEq, true_and, and_true]; omega
            have RN : Hid (Ahd g (sumK d.states.n L (k + 1)) (W10.setCell ⟨g, o + 3, none⟩ (.int .i64 (z : Int)))) := HNX.out _ S11.but S11.far (by rw [← e]; exact S11.five) S11.fz
            have RB : Hid (But g W5 (W10.setCell ⟨g, o + 3, none⟩ (.int .i64 (z : Int)))) := HBJ.out.trans S11.but
            clear S11 S10 S9 HNX HBJ HFZ HXF HY6 e ej
            go_wp2
            go_roundw
            case rel => exact ⟨k + 1, by omega, by go_num, RN, RB⟩
            case measure => simp [intOf]; omega
          · have S11 : Stp g o lg (k * 3) t z wr (W10) ⟨x.must &&& t, x.may ||| t, x.least, x.most, x.there⟩ := S10.out
            have e : (⟨x.must &&& t, x.may ||| t, x.least, x.most, x.there⟩ : Wk.Sets) = Wk.joinS x ⟨t, t, z, z, true⟩ := by rw [ej.out, hth]; simp only [Wk.Sets.mk.injEq, true_and, and_true]; omega
            have RN : Hid (Ahd g (sumK d.states.n L (k + 1)) (W10)) := HNX.out _ S11.but S11.far (by rw [← e]; exact S11.five) S11.fz
            have RB : Hid (But g W5 (W10)) := HBJ.out.trans S11.but
            clear S11 S10 S9 HNX HBJ HFZ HXF HY6 e ej
            go_wp2
            go_roundw
            case rel => exact ⟨k + 1, by omega, by go_num, RN, RB⟩
            case measure => simp [intOf]; omega
    · obtain rfl : k = K := by omega
      obtain ⟨Wb, rfl⟩ : ∃ Wb, Wb = wr := ⟨_, rfl⟩
      have AE : sumK d.states.n L k = APp d.p HC.out d.p.ss.length := by
        rw [← EK.out, sumK_all, ← EN.out]
        exact (Wk.both_end (leads_same HC.out) HLL.out HST.out).symm
      have HAA : Hid (Ahd g (APp d.p HC.out d.p.ss.length) Wb) := by rw [← AE]; exact HAJ.out
      have hlenS : Hid ((APp d.p HC.out d.p.ss.length).length = d.states.n + 1) := by show _ = _; rw [← EN.out]; exact (ap_inv HC.out (Nat.le_refl _)).1
      have hfew : Hid (∀ y ∈ APp d.p HC.out d.p.ss.length, y.few) := fun y hy => by have := ap_few HC.out (m := d.p.ss.length) (Nat.le_refl _) y hy; exact ⟨this.1, this.2.1, by omega, by omega⟩
      obtain ⟨S, hS⟩ : ∃ S, S = APp d.p HC.out d.p.ss.length := ⟨_, rfl⟩
      rw [← hS] at HAA hlenS hfew
      have ES := hid hS
      have HBW : Hid (Below w.heap.size w Wb) := HB5.out.trans (HBJ.out.low.mono HWG.out)
      have HF0 : Hid (Wb.cell? ⟨s, 2, none⟩ = some (.slice d.states.a d.states.n d.states.c) ∧ Wb.cell? ⟨f, 0, none⟩ = some (.int .i64 0) ∧ Wb.cell? ⟨f, 1, none⟩ = some (.int .i64 0) ∧ (∀ o, Wb.frozen? ⟨f, o, none⟩ = false) ∧ f < Wb.heap.size) := ⟨HBJ.out.cell HGL.out HAW.out.cs.2.2.1, HBJ.out.cell HGF.out HAW.out.f0, HBJ.out.cell HGF.out HAW.out.f1, fun o => (HBJ.out.frozen HGF.out HAW.out.fl).trans (HAW.out.fz o), Nat.lt_of_lt_of_le HAW.out.fl HBJ.out.size⟩
      have HWF : Hid (w.heap.size ≤ f) := HAW.out.wf
      have HFF : Hid (∀ w', Below Wb.heap.size Wb w' → w'.cell? ⟨s, 2, none⟩ = some (.slice d.states.a d.states.n d.states.c) ∧ w'.cell? ⟨f, 0, none⟩ = some (.int .i64 0) ∧ w'.cell? ⟨f, 1, none⟩ = some (.int .i64 0) ∧ w'.frozen? ⟨f, 0, none⟩ = false ∧ w'.frozen? ⟨f, 1, none⟩ = false ∧ f < w'.heap.size) := fun w' h => ⟨cell_keep HF0.out.1 h, cell_keep HF0.out.2.1 h, cell_keep HF0.out.2.2.1 h, (h.frozen (p := ⟨f, 0, none⟩) HF0.out.2.2.2.2).trans (HF0.out.2.2.2.1 0), (h.frozen (p := ⟨f, 1, none⟩) HF0.out.2.2.2.2).trans (HF0.out.2.2.2.1 1), Nat.lt_of_lt_of_le HF0.out.2.2.2.2 h.size⟩
      have HBL : Hid (∀ w' x y, Below Wb.heap.size Wb w' → Below w.heap.size w ((w'.setCell ⟨f, 0, none⟩ x).setCell ⟨f, 1, none⟩ y)) := fun w' x y h => ((bl_step HBW.out h).setCell (p := ⟨f, 0, none⟩) HWF.out _).setCell (p := ⟨f, 1, none⟩) HWF.out _
      have HCODE : Hid (∀ (j : Nat) (C : Int) (w' : World) (u v : Value), j < d.states.n → C ≠ 0 → (∀ i, i < j → codeW d.p S i = 0) → codeW d.p S j = C → Below Wb.heap.size Wb w' → WalkDone d.p w (.returned (.tuple #[.slice none 0 0, .agg #[.int .i64 C, .int .i64 (3000 + (j : Int))]])) ((w'.setCell ⟨f, 0, none⟩ u).setCell ⟨f, 1, none⟩ v)) := fun j C w' u v hj hC hp hc hb => ⟨C, 3000 + (j : Int), none, 0, 0, rfl, .inr ⟨HC.out, .inl ⟨j, by rw [EN.out]; exact hj, by rw [← ES.out, hc]; exact hC, by rw [← ES.out]; exact hp, by rw [← ES.out, hc], rfl⟩⟩, fun _ => ⟨rfl, rfl, rfl⟩, fun _ h => absurd h hC, HBL.out _ _ _ hb⟩
      have HDONE : Hid (∀ (w' : World) (u v : Value), (∀ i, i < d.states.n → codeW d.p S i = 0) → Below Wb.heap.size Wb w' → WalkDone d.p w (.returned (.tuple #[.slice (some ⟨g, 0, none⟩) m m, .agg #[.int .i64 0, .int .i64 0]])) ((w'.setCell ⟨f, 0, none⟩ u).setCell ⟨f, 1, none⟩ v)) := fun w' u v hp hb => by
        refine ⟨0, 0, _, m, m, rfl, .inr ⟨HC.out, .inr ⟨fun j hj => by rw [← ES.out]; exact hp j (by rw [EN.out] at hj; exact hj), rfl, rfl⟩⟩, fun h => absurd rfl h, fun h _ => ?_, HBL.out _ _ _ hb⟩
        refine ⟨by rw [← ES.out, hlenS.out, HM.out], g, rfl, fun i t ht => ?_⟩
        rw [← ES.out] at ht
        have k1 : But f w' (w'.setCell ⟨f, 0, none⟩ u) := set_but
        have k2 : But f (w'.setCell ⟨f, 0, none⟩ u) ((w'.setCell ⟨f, 0, none⟩ u).setCell ⟨f, 1, none⟩ v) := set_but
        exact (k1.trans k2).five (Ne.symm HGF.out) (((HAA.out.cs i t ht)).step hb)
      clear HAJ HBJ HWA HA5 HB5 HAW HGS HLL HST HLEN AE hS HF0 HWF hlt hk HK2 HWG HGL HLG HBL EK
      go_wp2
      go_loopw [9, 10] (fun qv _ w2 => ∃ j : Nat, j ≤ d.states.n ∧ qv = .int .i64 j ∧ Hid (Below Wb.heap.size Wb w2) ∧ Hid (∀ i, i < j → codeW d.p S i = 0)) (fun qv _ _ => d.states.n - (intOf qv).toNat)
      case atStart => exact ⟨0, Nat.zero_le _, rfl, Below.refl _ _, fun i hi => absurd hi (Nat.not_lt_zero _)⟩
      case round =>
        obtain ⟨j, hjn, rfl, HBJ, HPJ⟩ := hrel
        obtain ⟨z2, y0, y1, e0, e1, hfl⟩ := HFF.out wr HBJ.out
        by_cases hj : j < d.states.n
        · have hji : (j : Int) < (d.states.n : Int) := by omega
          have hn8 := HN8.out
          have h3k : IntKind.i64.wrap (3000 + (j : Int)) = 3000 + (j : Int) := wrap_small _ (by omega) (by omega)
          obtain ⟨sg, so, x, ea, hx, hp⟩ := row_at (HL.out.step (bl_step HBW.out HBJ.out)).ss hj
          rw [ea] at z2
          obtain ⟨⟨k0, _⟩, ⟨k1, _⟩, ⟨k2, _⟩, ⟨k3, _⟩, ⟨k4, _⟩, hxn, _⟩ := hp
          have hsgl : sg < wr.heap.size := World.block_lt_of_cell? wr _ k0
          have hfz := hfl
          have HOK : Hid (StateOk d.p j x.p) := by have := state_ok HC.out (i := j) (by rw [EN.out]; exact hj); rwa [p_at hx] at this
          have hσl : j < S.length := by rw [hlenS.out]; omega
          obtain ⟨σ, hσ⟩ : ∃ σ, S[j]? = some σ := ⟨S[j], List.getElem?_eq_getElem hσl⟩
          have HSF : Hid σ.few := hfew.out σ (List.mem_of_getElem? hσ)
          obtain ⟨s0, s1, _, _, s4⟩ := (HAA.out.cs j σ hσ).step HBJ.out
          have hgl : g < wr.heap.size := World.block_lt_of_cell? wr _ s0
          have hjm : (j : Int) < (m : Int) := by have := HM.out; omega
          have HCW0 : Hid (codeW d.p S j = if σ.there = true then wrongN x.p σ else 0) := by
            show _ = _
            unfold codeW
            rw [show S.getD j Wk.zero = σ by rw [List.getD_eq_getElem?_getD, hσ]; rfl, p_at hx]
          clear hσ hσl hx ea
          have h6 : x.head < 6 := by
            have h1 : x.head = -1 ∨ 0 ≤ x.head ∧ x.head < (d.p.hs.length : Int) := HOK.out.head
            have e6 : (d.p.hs.length : Int) ≤ 6 := (chk_zero HC.out 0 (by decide)).2.1
            omega
          have HR6 : Hid (0 < x.cases.n → x.r.h < 6) := fun h => on_six HC.out HOK.out (by show 0 < x.cs.length; rw [hxn]; exact h)
          have HXN := hid hxn
          obtain ⟨W6, hW6⟩ : ∃ W6, W6 = wr.alloc (.cells #[.int .i64 x.head, .int .i64 x.r.h, .int .i64 x.r.f, .slice x.cases.a x.cases.n x.cases.c, .int .i64 x.els] 76) := ⟨_, rfl⟩
          have b6 : Below wr.heap.size wr W6 := by rw [hW6]; exact bl_alloc (Below.refl _ _)
          have HB6 := hid (bl_step HBJ.out b6)
          clear hxn HOK
          cases hth : σ.there with
          | false =>
            have HCO : Hid (codeW d.p S j = 0) := by show _ = _; rw [HCW0.out, hth]; rfl
            have RB := HB6
            have EW6 := hid hW6
            rw [hth] at s4
            have RP : Hid (∀ i, i < j + 1 → codeW d.p S i = 0) := fun i hi => by
              by_cases e : i = j
              · subst e; exact HCO.out
              · exact HPJ.out i (by omega)
            rw [hW6] at RB
            clear HCODE HDONE HFF HB6 b6 HBJ HPJ HCW0 HCO hW6 EW6 HR6 HXN
            go_wp2
            go_roundw
            case rel => exact ⟨j + 1, by omega, by go_num, RB, RP⟩
            case measure => simp [intOf]; omega
          | true =>
            have HCW : Hid (codeW d.p S j = wrongN x.p σ) := by show _ = _; rw [HCW0.out, hth]; rfl
            rw [hth] at s4
            obtain ⟨b, hb⟩ : ∃ b, b = wr.heap.size := ⟨_, rfl⟩
            have c0 : W6.cell? ⟨b, 0, none⟩ = some (.int .i64 x.head) := by rw [hW6, hb]; exact (World.cell?_alloc_at _ _ _ _ rfl).trans rfl
            have c1 : W6.cell? ⟨b, 1, none⟩ = some (.int .i64 x.r.h) := by rw [hW6, hb]; exact (World.cell?_alloc_at _ _ _ _ rfl).trans rfl
            have c3 : W6.cell? ⟨b, 3, none⟩ = some (.slice x.cases.a x.cases.n x.cases.c) := by rw [hW6, hb]; exact (World.cell?_alloc_at _ _ _ _ rfl).trans rfl
            have EW6 := hid hW6
            have EB := hid hb
            go_wp2_with fail
            rw [← EW6.out, ← EB.out]
            replace s0 := cell_keep s0 b6
            replace s1 := cell_keep s1 b6
            clear hW6 hb EW6 EB b6 k0 k1 k2 k3 k4 z2 y0 y1 e0 e1 hsgl hgl hfl hfz s4 HBJ HCW0
            have z0 := cell_by c0
            have zs := cell_by s1
            by_cases hh0 : 0 ≤ x.head
            · have d0 : decide ((0 : Int) ≤ x.head) = true := decide_eq_true hh0
              have HBT : Hid (∀ w', Calls Tryz.prog 50 #[.int .i64 x.head] w' fun e w'' => e = .returned (.int .u64 (bitN x.head)) ∧ w'' = w') := fun w' => rbit_any x.head hh0 h6 w'
              have h1 := u64and σ.may (bitN x.head) (few64 HSF.out.ma) (few64 (bitN_six h6))
              have hz1 := own_zero σ.may x.head
              by_cases hA : σ.may &&& bitN x.head = 0
              · have d6 : ((((σ.may &&& bitN x.head : Nat) : Int)) != 0) = false := by rw [hA]; rfl
                have hw1 : Hid (wrongN x.p σ = if 0 < x.cs.length ∧ 0 ≤ x.r.h ∧ x.r.h ≠ x.head ∧ σ.must.testBit x.r.h.toNat = false then 12 else 0) := by
                  show (if 0 ≤ x.head ∧ σ.may.testBit x.head.toNat = true then (7 : Int) else if 0 < x.cs.length ∧ 0 ≤ x.r.h ∧ x.r.h ≠ x.head ∧ σ.must.testBit x.r.h.toNat = false then 12 else 0) = _
                  rw [if_neg (hz1.1 hA)]
                clear hA hz1
                generalize ((σ.may &&& bitN x.head : Nat) : Int) = M1 at *
                haveI inhB : ∀ w : World, Inhabited (BelowBy w) := fun w => ⟨⟨w, Below.refl _ _⟩⟩
                refine wp_region_quiet_below (by kernel_rfl) (by kernel_rfl) ?_
                repeat (go_big_quiet_step (first | (go_at_call 50; exact calls_same _ (HBT.out _))))
                refine wpQuiet_nil ?_
                intro wq hw'
                obtain ⟨⟨_, hwq⟩, hw''⟩ := hw'
                subst hw''
                clear z0 zs HBT h1
                have c1' := cell_keep c1 hwq
                have c3' := cell_keep c3 hwq
                have c0' := cell_keep c0 hwq
                have s0' := cell_keep s0 hwq
                have z0 := cell_by c0'
                have z1 := cell_by c1'
                have z3 := cell_by c3'
                have zs := cell_by s0'
                have HQ := hid (bl_step HB6.out hwq)
                clear HB6 hwq c0 c1 c3 s0 s1 inhB
                by_cases hcn : 0 < x.cases.n
                · have d1 : decide ((0 : Int) < (x.cases.n : Int)) = true := decide_eq_true (by omega)
                  have d2 : decide (0 < x.cases.n) = true := decide_eq_true hcn
                  by_cases hr0 : 0 ≤ x.r.h
                  · have d3 : decide ((0 : Int) ≤ x.r.h) = true := decide_eq_true hr0
                    by_cases hrh : x.r.h = x.head
                    · have d4 : (x.r.h != x.head) = false := by rw [hrh]; simp
                      have HCO : Hid (codeW d.p S j = 0) := by show _ = _; rw [HCW.out, hw1.out, if_neg (fun h => h.2.2.1 hrh)]
                      have RP : Hid (∀ i, i < j + 1 → codeW d.p S i = 0) := fun i hi => by
                        by_cases e : i = j
                        · subst e; exact HCO.out
                        · exact HPJ.out i (by omega)
                      clear hrh
                      go_wp2_with fail
                      haveI inhB : ∀ w : World, Inhabited (BelowBy w) := fun w => ⟨⟨w, Below.refl _ _⟩⟩
                      refine wp_region_quiet_below (by kernel_rfl) (by kernel_rfl) ?_
                      repeat (go_big_quiet_step (fail))
                      refine wpQuiet_nil ?_
                      intro wj hw'
                      obtain ⟨⟨_, hwq⟩, hw''⟩ := hw'
                      subst hw''
                      have RB : Hid (Below Wb.heap.size Wb wj) := bl_step HQ.out hwq
                      clear HQ hwq z0 z1 z3 zs c0' c1' c3' s0' HFF HCODE HDONE
                      go_wp2
                      go_roundw
                      case rel => exact ⟨j + 1, by omega, by go_num, RB, RP⟩
                      case measure => simp [intOf]; omega
                    · have d4 : (x.r.h != x.head) = true := by rw [bne_iff_ne]; exact hrh
                      have hr6 := HR6.out hcn
                      have HB2 : Hid (∀ w', Calls Tryz.prog 50 #[.int .i64 x.r.h] w' fun e w'' => e = .returned (.int .u64 (bitN x.r.h)) ∧ w'' = w') := fun w' => rbit_any x.r.h hr0 hr6 w'
                      have hb2 : bitN x.r.h < 2 ^ 6 := bitN_six hr6
                      have h2 := u64and σ.must (bitN x.r.h) (few64 HSF.out.mu) (few64 hb2)
                      have hz2 := own_zero σ.must x.r.h
                      by_cases hM : σ.must &&& bitN x.r.h = 0
                      · have d5 : ((((σ.must &&& bitN x.r.h : Nat) : Int)) == 0) = true := by rw [hM]; rfl
                        have HCO : Hid (codeW d.p S j = 12) := by
                          have hb : σ.must.testBit x.r.h.toNat = false := by
                            cases h : σ.must.testBit x.r.h.toNat with
                            | false => rfl
                            | true => exact absurd ⟨hr0, h⟩ (hz2.1 hM)
                          show _ = _
                          rw [HCW.out, hw1.out, if_pos ⟨by rw [HXN.out]; exact hcn, hr0, hrh, hb⟩]
                        clear hM hz2 hb2 hrh
                        generalize ((σ.must &&& bitN x.r.h : Nat) : Int) = M2 at *
                        go_wp2_with fail
                        haveI inhB : ∀ w : World, Inhabited (BelowBy w) := fun w => ⟨⟨w, Below.refl _ _⟩⟩
                        refine wp_region_quiet_below (by kernel_rfl) (by kernel_rfl) ?_
                        repeat (go_big_quiet_step (first | (go_at_call 50; exact calls_same _ (HB2.out _))))
                        refine wpQuiet_nil ?_
                        intro wj hw'
                        obtain ⟨⟨_, hwq⟩, hw''⟩ := hw'
                        subst hw''
                        have HQ2 := hid (bl_step HQ.out hwq)
                        clear HQ hwq z0 z1 z3 zs c0' c1' c3' s0' inhB
                        have HQ := HQ2
                        obtain ⟨_, y0, y1, e0, e1, hfl⟩ := HFF.out wj HQ.out
                        have HFC : Hid (Calls Tryz.prog 28 #[.int .i64 12, .int .i64 (3000 + (j : Int))] wj fun e w' => e = .returned (.agg #[.int .i64 12, .int .i64 (3000 + (j : Int))]) ∧ Below wj.heap.size wj w') := fault_any _ _ _
                        have HE := hid (fun w' hb => HCODE.out j 12 w' (.int .i64 12) (.int .i64 (3000 + (j : Int))) hj (by decide) HPJ.out HCO.out (bl_step HQ.out hb))
                        have HF2 := hid (fun w' hb => HFF.out w' (bl_step HQ.out hb))
                        clear HCODE HDONE HFF
                        go_wp2_with fail
                        refine HFC.out.mono ?_
                        rintro e w9 ⟨rfl, hb9⟩
                        obtain ⟨_, t0, t1, u0, u1, hfl9⟩ := HF2.out w9 hb9
                        have HX := hid (HE.out w9 hb9)
                        clear HE HF2 hb9 HFC y0 y1 e0 e1
                        go_wp2
                        exact bodyPost_ret (v := .tuple #[.slice none 0 0, .agg #[.int .i64 12, .int .i64 (3000 + (j : Int))]]) (by simp [results, Tryz.results25, go_sem, *]) rfl HX.out
                      · have d5 : ((((σ.must &&& bitN x.r.h : Nat) : Int)) == 0) = false := by rw [beq_eq_false_iff_ne]; omega
                        have HCO : Hid (codeW d.p S j = 0) := by
                          show _ = _
                          rw [HCW.out, hw1.out, if_neg (fun h => hM (hz2.2 (fun h3 => by rw [h.2.2.2] at h3; cases h3.2)))]
                        have RP : Hid (∀ i, i < j + 1 → codeW d.p S i = 0) := fun i hi => by
                          by_cases e : i = j
                          · subst e; exact HCO.out
                          · exact HPJ.out i (by omega)
                        clear hM hz2 hb2 hrh
                        generalize ((σ.must &&& bitN x.r.h : Nat) : Int) = M2 at *
                        go_wp2_with fail
                        haveI inhB : ∀ w : World, Inhabited (BelowBy w) := fun w => ⟨⟨w, Below.refl _ _⟩⟩
                        refine wp_region_quiet_below (by kernel_rfl) (by kernel_rfl) ?_
                        repeat (go_big_quiet_step (first | (go_at_call 50; exact calls_same _ (HB2.out _))))
                        refine wpQuiet_nil ?_
                        intro wj hw'
                        obtain ⟨⟨_, hwq⟩, hw''⟩ := hw'
                        subst hw''
                        have RB : Hid (Below Wb.heap.size Wb wj) := bl_step HQ.out hwq
                        clear HQ hwq z0 z1 z3 zs c0' c1' c3' s0' HFF HCODE HDONE
                        go_wp2
                        go_roundw
                        case rel => exact ⟨j + 1, by omega, by go_num, RB, RP⟩
                        case measure => simp [intOf]; omega
                  · have d3 : decide ((0 : Int) ≤ x.r.h) = false := decide_eq_false hr0
                    have HCO : Hid (codeW d.p S j = 0) := by show _ = _; rw [HCW.out, hw1.out, if_neg (fun h => hr0 h.2.1)]
                    have RP : Hid (∀ i, i < j + 1 → codeW d.p S i = 0) := fun i hi => by
                      by_cases e : i = j
                      · subst e; exact HCO.out
                      · exact HPJ.out i (by omega)
                    go_wp2_with fail
                    haveI inhB : ∀ w : World, Inhabited (BelowBy w) := fun w => ⟨⟨w, Below.refl _ _⟩⟩
                    refine wp_region_quiet_below (by kernel_rfl) (by kernel_rfl) ?_
                    repeat (go_big_quiet_step (fail))
                    refine wpQuiet_nil ?_
                    intro wj hw'
                    obtain ⟨⟨_, hwq⟩, hw''⟩ := hw'
                    subst hw''
                    have RB : Hid (Below Wb.heap.size Wb wj) := bl_step HQ.out hwq
                    clear HQ hwq z0 z1 z3 zs c0' c1' c3' s0' HFF HCODE HDONE
                    go_wp2
                    go_roundw
                    case rel => exact ⟨j + 1, by omega, by go_num, RB, RP⟩
                    case measure => simp [intOf]; omega
                · have d1 : decide ((0 : Int) < (x.cases.n : Int)) = false := decide_eq_false (by omega)
                  have d2 : decide (0 < x.cases.n) = false := decide_eq_false hcn
                  have HCO : Hid (codeW d.p S j = 0) := by show _ = _; rw [HCW.out, hw1.out, if_neg (fun h => hcn (by rw [← HXN.out]; exact h.1))]
                  have RP : Hid (∀ i, i < j + 1 → codeW d.p S i = 0) := fun i hi => by
                    by_cases e : i = j
                    · subst e; exact HCO.out
                    · exact HPJ.out i (by omega)
                  go_wp2_with fail
                  haveI inhB : ∀ w : World, Inhabited (BelowBy w) := fun w => ⟨⟨w, Below.refl _ _⟩⟩
                  refine wp_region_quiet_below (by kernel_rfl) (by kernel_rfl) ?_
                  repeat (go_big_quiet_step (fail))
                  refine wpQuiet_nil ?_
                  intro wj hw'
                  obtain ⟨⟨_, hwq⟩, hw''⟩ := hw'
                  subst hw''
                  have RB : Hid (Below Wb.heap.size Wb wj) := bl_step HQ.out hwq
                  clear HQ hwq z0 z1 z3 zs c0' c1' c3' s0' HFF HCODE HDONE
                  go_wp2
                  go_roundw
                  case rel => exact ⟨j + 1, by omega, by go_num, RB, RP⟩
                  case measure => simp [intOf]; omega
              · have d6 : ((((σ.may &&& bitN x.head : Nat) : Int)) != 0) = true := by rw [bne_iff_ne]; omega
                have HCO : Hid (codeW d.p S j = 7) := by
                  show _ = _
                  rw [HCW.out]
                  show (if 0 ≤ x.head ∧ σ.may.testBit x.head.toNat = true then (7 : Int) else if 0 < x.cs.length ∧ 0 ≤ x.r.h ∧ x.r.h ≠ x.head ∧ σ.must.testBit x.r.h.toNat = false then 12 else 0) = 7
                  rw [if_pos (Decidable.byContradiction fun h => hA (hz1.2 h))]
                clear hA hz1
                generalize ((σ.may &&& bitN x.head : Nat) : Int) = M1 at *
                haveI inhB : ∀ w : World, Inhabited (BelowBy w) := fun w => ⟨⟨w, Below.refl _ _⟩⟩
                refine wp_region_quiet_below (by kernel_rfl) (by kernel_rfl) ?_
                repeat (go_big_quiet_step (first | (go_at_call 50; exact calls_same _ (HBT.out _))))
                refine wpQuiet_nil ?_
                intro wj hw'
                obtain ⟨⟨_, hwq⟩, hw''⟩ := hw'
                subst hw''
                have HQ := hid (bl_step HB6.out hwq)
                clear HB6 hwq z0 zs HBT h1 c0 c1 c3 s0 s1 inhB
                obtain ⟨_, y0, y1, e0, e1, hfl⟩ := HFF.out wj HQ.out
                have HFC : Hid (Calls Tryz.prog 28 #[.int .i64 7, .int .i64 (3000 + (j : Int))] wj fun e w' => e = .returned (.agg #[.int .i64 7, .int .i64 (3000 + (j : Int))]) ∧ Below wj.heap.size wj w') := fault_any _ _ _
                have HE := hid (fun w' hb => HCODE.out j 7 w' (.int .i64 7) (.int .i64 (3000 + (j : Int))) hj (by decide) HPJ.out HCO.out (bl_step HQ.out hb))
                have HF2 := hid (fun w' hb => HFF.out w' (bl_step HQ.out hb))
                clear HCODE HDONE HFF
                go_wp2_with fail
                refine HFC.out.mono ?_
                rintro e w9 ⟨rfl, hb9⟩
                obtain ⟨_, t0, t1, u0, u1, hfl9⟩ := HF2.out w9 hb9
                have HX := hid (HE.out w9 hb9)
                clear HE HF2 hb9 HFC y0 y1 e0 e1
                go_wp2
                exact bodyPost_ret (v := .tuple #[.slice none 0 0, .agg #[.int .i64 7, .int .i64 (3000 + (j : Int))]]) (by simp [results, Tryz.results25, go_sem, *]) rfl HX.out
            · have d0 : decide ((0 : Int) ≤ x.head) = false := decide_eq_false hh0
              have hw1 : Hid (wrongN x.p σ = if 0 < x.cs.length ∧ 0 ≤ x.r.h ∧ x.r.h ≠ x.head ∧ σ.must.testBit x.r.h.toNat = false then 12 else 0) := by
                show (if 0 ≤ x.head ∧ σ.may.testBit x.head.toNat = true then (7 : Int) else if 0 < x.cs.length ∧ 0 ≤ x.r.h ∧ x.r.h ≠ x.head ∧ σ.must.testBit x.r.h.toNat = false then 12 else 0) = _
                rw [if_neg (fun h => hh0 h.1)]
              haveI inhB : ∀ w : World, Inhabited (BelowBy w) := fun w => ⟨⟨w, Below.refl _ _⟩⟩
              refine wp_region_quiet_below (by kernel_rfl) (by kernel_rfl) ?_
              repeat (go_big_quiet_step (fail))
              refine wpQuiet_nil ?_
              intro wq hw'
              obtain ⟨⟨_, hwq⟩, hw''⟩ := hw'
              subst hw''
              clear z0 zs
              have c1' := cell_keep c1 hwq
              have c3' := cell_keep c3 hwq
              have c0' := cell_keep c0 hwq
              have s0' := cell_keep s0 hwq
              have z0 := cell_by c0'
              have z1 := cell_by c1'
              have z3 := cell_by c3'
              have zs := cell_by s0'
              have HQ := hid (bl_step HB6.out hwq)
              clear HB6 hwq c0 c1 c3 s0 s1 inhB
              by_cases hcn : 0 < x.cases.n
              · have d1 : decide ((0 : Int) < (x.cases.n : Int)) = true := decide_eq_true (by omega)
                have d2 : decide (0 < x.cases.n) = true := decide_eq_true hcn
                by_cases hr0 : 0 ≤ x.r.h
                · have d3 : decide ((0 : Int) ≤ x.r.h) = true := decide_eq_true hr0
                  by_cases hrh : x.r.h = x.head
                  · have d4 : (x.r.h != x.head) = false := by rw [hrh]; simp
                    have HCO : Hid (codeW d.p S j = 0) := by show _ = _; rw [HCW.out, hw1.out, if_neg (fun h => h.2.2.1 hrh)]
                    have RP : Hid (∀ i, i < j + 1 → codeW d.p S i = 0) := fun i hi => by
                      by_cases e : i = j
                      · subst e; exact HCO.out
                      · exact HPJ.out i (by omega)
                    clear hrh
                    go_wp2_with fail
                    haveI inhB : ∀ w : World, Inhabited (BelowBy w) := fun w => ⟨⟨w, Below.refl _ _⟩⟩
                    refine wp_region_quiet_below (by kernel_rfl) (by kernel_rfl) ?_
                    repeat (go_big_quiet_step (fail))
                    refine wpQuiet_nil ?_
                    intro wj hw'
                    obtain ⟨⟨_, hwq⟩, hw''⟩ := hw'
                    subst hw''
                    have RB : Hid (Below Wb.heap.size Wb wj) := bl_step HQ.out hwq
                    clear HQ hwq z0 z1 z3 zs c0' c1' c3' s0' HFF HCODE HDONE
                    go_wp2
                    go_roundw
                    case rel => exact ⟨j + 1, by omega, by go_num, RB, RP⟩
                    case measure => simp [intOf]; omega
                  · have d4 : (x.r.h != x.head) = true := by rw [bne_iff_ne]; exact hrh
                    have hr6 := HR6.out hcn
                    have HB2 : Hid (∀ w', Calls Tryz.prog 50 #[.int .i64 x.r.h] w' fun e w'' => e = .returned (.int .u64 (bitN x.r.h)) ∧ w'' = w') := fun w' => rbit_any x.r.h hr0 hr6 w'
                    have hb2 : bitN x.r.h < 2 ^ 6 := bitN_six hr6
                    have h2 := u64and σ.must (bitN x.r.h) (few64 HSF.out.mu) (few64 hb2)
                    have hz2 := own_zero σ.must x.r.h
                    by_cases hM : σ.must &&& bitN x.r.h = 0
                    · have d5 : ((((σ.must &&& bitN x.r.h : Nat) : Int)) == 0) = true := by rw [hM]; rfl
                      have HCO : Hid (codeW d.p S j = 12) := by
                        have hb : σ.must.testBit x.r.h.toNat = false := by
                          cases h : σ.must.testBit x.r.h.toNat with
                          | false => rfl
                          | true => exact absurd ⟨hr0, h⟩ (hz2.1 hM)
                        show _ = _
                        rw [HCW.out, hw1.out, if_pos ⟨by rw [HXN.out]; exact hcn, hr0, hrh, hb⟩]
                      clear hM hz2 hb2 hrh
                      generalize ((σ.must &&& bitN x.r.h : Nat) : Int) = M2 at *
                      go_wp2_with fail
                      haveI inhB : ∀ w : World, Inhabited (BelowBy w) := fun w => ⟨⟨w, Below.refl _ _⟩⟩
                      refine wp_region_quiet_below (by kernel_rfl) (by kernel_rfl) ?_
                      repeat (go_big_quiet_step (first | (go_at_call 50; exact calls_same _ (HB2.out _))))
                      refine wpQuiet_nil ?_
                      intro wj hw'
                      obtain ⟨⟨_, hwq⟩, hw''⟩ := hw'
                      subst hw''
                      have HQ2 := hid (bl_step HQ.out hwq)
                      clear HQ hwq z0 z1 z3 zs c0' c1' c3' s0' inhB
                      have HQ := HQ2
                      obtain ⟨_, y0, y1, e0, e1, hfl⟩ := HFF.out wj HQ.out
                      have HFC : Hid (Calls Tryz.prog 28 #[.int .i64 12, .int .i64 (3000 + (j : Int))] wj fun e w' => e = .returned (.agg #[.int .i64 12, .int .i64 (3000 + (j : Int))]) ∧ Below wj.heap.size wj w') := fault_any _ _ _
                      have HE := hid (fun w' hb => HCODE.out j 12 w' (.int .i64 12) (.int .i64 (3000 + (j : Int))) hj (by decide) HPJ.out HCO.out (bl_step HQ.out hb))
                      have HF2 := hid (fun w' hb => HFF.out w' (bl_step HQ.out hb))
                      clear HCODE HDONE HFF
                      go_wp2_with fail
                      refine HFC.out.mono ?_
                      rintro e w9 ⟨rfl, hb9⟩
                      obtain ⟨_, t0, t1, u0, u1, hfl9⟩ := HF2.out w9 hb9
                      have HX := hid (HE.out w9 hb9)
                      clear HE HF2 hb9 HFC y0 y1 e0 e1
                      go_wp2
                      exact bodyPost_ret (v := .tuple #[.slice none 0 0, .agg #[.int .i64 12, .int .i64 (3000 + (j : Int))]]) (by simp [results, Tryz.results25, go_sem, *]) rfl HX.out
                    · have d5 : ((((σ.must &&& bitN x.r.h : Nat) : Int)) == 0) = false := by rw [beq_eq_false_iff_ne]; omega
                      have HCO : Hid (codeW d.p S j = 0) := by
                        show _ = _
                        rw [HCW.out, hw1.out, if_neg (fun h => hM (hz2.2 (fun h3 => by rw [h.2.2.2] at h3; cases h3.2)))]
                      have RP : Hid (∀ i, i < j + 1 → codeW d.p S i = 0) := fun i hi => by
                        by_cases e : i = j
                        · subst e; exact HCO.out
                        · exact HPJ.out i (by omega)
                      clear hM hz2 hb2 hrh
                      generalize ((σ.must &&& bitN x.r.h : Nat) : Int) = M2 at *
                      go_wp2_with fail
                      haveI inhB : ∀ w : World, Inhabited (BelowBy w) := fun w => ⟨⟨w, Below.refl _ _⟩⟩
                      refine wp_region_quiet_below (by kernel_rfl) (by kernel_rfl) ?_
                      repeat (go_big_quiet_step (first | (go_at_call 50; exact calls_same _ (HB2.out _))))
                      refine wpQuiet_nil ?_
                      intro wj hw'
                      obtain ⟨⟨_, hwq⟩, hw''⟩ := hw'
                      subst hw''
                      have RB : Hid (Below Wb.heap.size Wb wj) := bl_step HQ.out hwq
                      clear HQ hwq z0 z1 z3 zs c0' c1' c3' s0' HFF HCODE HDONE
                      go_wp2
                      go_roundw
                      case rel => exact ⟨j + 1, by omega, by go_num, RB, RP⟩
                      case measure => simp [intOf]; omega
                · have d3 : decide ((0 : Int) ≤ x.r.h) = false := decide_eq_false hr0
                  have HCO : Hid (codeW d.p S j = 0) := by show _ = _; rw [HCW.out, hw1.out, if_neg (fun h => hr0 h.2.1)]
                  have RP : Hid (∀ i, i < j + 1 → codeW d.p S i = 0) := fun i hi => by
                    by_cases e : i = j
                    · subst e; exact HCO.out
                    · exact HPJ.out i (by omega)
                  go_wp2_with fail
                  haveI inhB : ∀ w : World, Inhabited (BelowBy w) := fun w => ⟨⟨w, Below.refl _ _⟩⟩
                  refine wp_region_quiet_below (by kernel_rfl) (by kernel_rfl) ?_
                  repeat (go_big_quiet_step (fail))
                  refine wpQuiet_nil ?_
                  intro wj hw'
                  obtain ⟨⟨_, hwq⟩, hw''⟩ := hw'
                  subst hw''
                  have RB : Hid (Below Wb.heap.size Wb wj) := bl_step HQ.out hwq
                  clear HQ hwq z0 z1 z3 zs c0' c1' c3' s0' HFF HCODE HDONE
                  go_wp2
                  go_roundw
                  case rel => exact ⟨j + 1, by omega, by go_num, RB, RP⟩
                  case measure => simp [intOf]; omega
              · have d1 : decide ((0 : Int) < (x.cases.n : Int)) = false := decide_eq_false (by omega)
                have d2 : decide (0 < x.cases.n) = false := decide_eq_false hcn
                have HCO : Hid (codeW d.p S j = 0) := by show _ = _; rw [HCW.out, hw1.out, if_neg (fun h => hcn (by rw [← HXN.out]; exact h.1))]
                have RP : Hid (∀ i, i < j + 1 → codeW d.p S i = 0) := fun i hi => by
                  by_cases e : i = j
                  · subst e; exact HCO.out
                  · exact HPJ.out i (by omega)
                go_wp2_with fail
                haveI inhB : ∀ w : World, Inhabited (BelowBy w) := fun w => ⟨⟨w, Below.refl _ _⟩⟩
                refine wp_region_quiet_below (by kernel_rfl) (by kernel_rfl) ?_
                repeat (go_big_quiet_step (fail))
                refine wpQuiet_nil ?_
                intro wj hw'
                obtain ⟨⟨_, hwq⟩, hw''⟩ := hw'
                subst hw''
                have RB : Hid (Below Wb.heap.size Wb wj) := bl_step HQ.out hwq
                clear HQ hwq z0 z1 z3 zs c0' c1' c3' s0' HFF HCODE HDONE
                go_wp2
                go_roundw
                case rel => exact ⟨j + 1, by omega, by go_num, RB, RP⟩
                case measure => simp [intOf]; omega
        · have hji : ¬ (j : Int) < (d.states.n : Int) := by omega
          have HX := hid (HDONE.out wr (.int .i64 0) (.int .i64 0) (fun i hi => HPJ.out i (by omega)) HBJ.out)
          clear HDONE HCODE HFF HPJ HBJ
          go_wp2
          exact bodyPost_ret (v := .tuple #[.slice (some ⟨g, 0, none⟩) m m, .agg #[.int .i64 0, .int .i64 0]]) (by simp [results, Tryz.results25, go_sem, *]) rfl HX.out

/-- what the document's WalkOf does with a plan -/
theorem walkof_any (d : PlanD) (w : World) (hl : d.lie w) (hs : d.p.little) : Calls Tryz.prog 25 #[d.v] w (WalkDone d.p w) := by
  by_cases hc : (chkP d.p).1 = 0
  · exact walkof_good d w hl hs hc
  · exact walkof_bad d w hl hs hc
end Go.Proofs.YtkggocdannkdmaaGreat
