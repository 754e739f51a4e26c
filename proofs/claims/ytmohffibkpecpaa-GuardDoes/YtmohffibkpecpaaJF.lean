/- Texts of one chain, joined: HCheck, HBegun. -/
import Derived.Test.YtmohffibkpecpaaVHOver
namespace Go.Proofs.Ytmohffibkpecpaa
open Go.RowKit

theorem behind_ok {slots : Int} {ts : List ShapeD} {m i : Nat} {x : InsD} {s : SD} (hs : s.ok) (hx : GOk slots ts m i x) (hw : wrongD ts s x = 0) : (behindD ts s x).ok := by
  have hn := hx.n
  have hr : x.op = 9 → (s.reg x.r.toNat).set = true := fun h9 => by
    have : readyD s x = (s.reg x.r.toNat).set := by
      unfold readyD
      rw [if_neg (by omega), if_neg (by omega), if_pos (by omega)]
    rw [← this]
    cases hrd : readyD s x
    · unfold wrongD at hw
      rw [if_pos hrd] at hw
      exact absurd hw (by decide)
    · rfl
  unfold behindD
  split
  · exact hs.setR (RD.ok_num (by omega))
  split
  · exact hs.setR (hs _)
  split
  · exact hs.setR ((hs _).bin _)
  split
  · exact hs.setR RD.ok_any
  split
  · exact hs.fill _ _
  split
  · exact (hs.setR RD.ok_any).fill _ _
  split
  · rename_i h9
    exact hs.setR ((hs _).more (by have := hx.room h9; omega) (hr h9))
  · exact hs

def okA (A : Nat → Option SD) : Prop := ∀ j s, A j = some s → s.ok
theorem okA_put {A : Nat → Option SD} (h : okA A) {i : Nat} {s : SD} (hs : s.ok) : okA (putA A i s) := fun j t ht => by
  unfold putA at ht
  split at ht
  · cases ht; exact hs
  · exact h j t ht
theorem okA_join {A : Nat → Option SD} (h : okA A) {i : Nat} {s : SD} (hs : s.ok) : (joinO (A i) s).ok := by
  cases e : A i with
  | none => exact hs
  | some t => exact (h i t e).join hs
theorem okA_over {slots : Int} {ts : List ShapeD} {m i : Nat} {x : InsD} {s : SD} {A : Nat → Option SD} (h : okA A) (hs : s.ok) (hx : GOk slots ts m i x) (hw : wrongD ts s x = 0) : okA (overA ts A i x s) := by
  have hb := behind_ok hs hx hw
  have h1 : okA (if hasT x.op = true then putA A (i + 1 + x.to.toNat) (joinO (A (i + 1 + x.to.toNat)) s) else A) := by
    split
    · exact okA_put h (okA_join h hs)
    · exact h
  unfold overA
  dsimp only
  split
  · exact okA_put h1 (okA_join h1 hb)
  · exact h1
theorem okA_start : okA startA := fun j s hj => by
  unfold startA at hj
  split at hj
  · cases hj; exact SD.ok_none
  · cases hj

set_option maxRecDepth 20000 in
theorem Try.infoSt : (Try.prog.info? 47).map (fun i => (i.zero, i.size, i.bytes)) = some (some (.agg (stC false SD.none).toArray), 147, 504) := by kernel_rfl

theorem made_at (z : List Value) (k m j r : Nat) (hz : z.length = k) (hj : j < m) (hr : r < k) : (madeCells z.toArray (m * k))[j * k + r]? = z[r]? := by
  unfold madeCells
  have h1 : j * k + r < m * k := by
    have : (j + 1) * k ≤ m * k := Nat.mul_le_mul_right k (by omega)
    rw [Nat.succ_mul] at this
    omega
  rw [Array.getElem?_map, Array.getElem?_range, if_pos h1]
  have h2 : (j * k + r) % k = r := by rw [Nat.mul_comm, Nat.mul_add_mod, Nat.mod_eq_of_lt hr]
  show some (z.toArray[(j * k + r) % z.toArray.size]!) = _
  rw [List.size_toArray, hz, h2]
  simp [hz, hr]

/-- the states of a walker as they are made -/
theorem made_states (w : World) (m : Nat) : (∀ j, j < m → (w.alloc (.cells (madeCells (stC false SD.none).toArray (m * 147)) 47)).rangeAt w.heap.size (j * 147) (stC false SD.none)) ∧ ∀ j, j < m → (w.alloc (.cells (madeCells (stC false SD.none).toArray (m * 147)) 47)).there w.heap.size (j * 147) 147 := by
  have h := boxc_new (w := w) (madeCells (stC false SD.none).toArray (m * 147)) 47 _ rfl
  have c : ∀ j, j < m → ∀ r, r < 147 → (w.alloc (.cells (madeCells (stC false SD.none).toArray (m * 147)) 47)).cell? ⟨w.heap.size, j * 147 + r, none⟩ = (stC false SD.none)[r]? := fun j hj r hr => by
    rw [h.cell]
    exact made_at _ 147 m j r (stC_len _ _) hj hr
  refine ⟨fun j hj r v hv => ?_, fun j hj r hr => ?_⟩
  · have hr : r < 147 := by
      have := (List.getElem?_eq_some_iff.1 hv).1
      rw [stC_len] at this
      exact this
    rw [c j hj r hr]
    exact hv
  · refine ⟨?_, h.fz _⟩
    rw [c j hj r hr, List.getElem?_eq_getElem (by rw [stC_len]; exact hr)]
    rfl

set_option maxHeartbeats 2000000 in
set_option maxRecDepth 20000 in
theorem hcheck_bad (d : ProgD) (w : World) (hl : d.lie w) (hs : d.small) (hc : (chkW d.slots d.ts d.cs).1 ≠ 0) : Calls Try.prog 7 #[d.v] w (TellF (chkW d.slots d.ts d.cs) w) := by
  obtain ⟨W2, hW⟩ : ∃ W2, W2 = ((w.alloc (.cells #[.int .i64 d.slots, .slice d.tabs.a d.tabs.n d.tabs.c, .slice d.code.a d.code.n d.code.c] 25)).alloc (.cells #[.int .i64 0, .int .i64 0] 30)) := ⟨_, rfl⟩
  obtain ⟨pb, es⟩ : ∃ s, s = w.heap.size := ⟨_, rfl⟩
  obtain ⟨f, ef⟩ : ∃ f, f = w.heap.size + 1 := ⟨_, rfl⟩
  have HA : Hid (GEncAt d w W2 pb f) := by rw [hW, es, ef]; exact genc_at d w
  have HB : Hid (Below w.heap.size w W2) := by rw [hW]; exact bl_alloc (bl_alloc (Below.refl _ _))
  have HCK := hid (gcheck d W2 (hl.step HB.out) hs)
  have EW := hid hW
  have ES := hid es
  have EF := hid ef
  dsimp only [ProgD.v, TellF] at HCK ⊢
  generalize chkW d.slots d.ts d.cs = F at *
  obtain ⟨c, a⟩ := F
  dsimp only at *
  have hcb : (c != 0) = true := by simpa using hc
  clear hl hs hc hW es ef
  go_enter Try.func7, Try.ntmps7
  go_upto_region 1 with fail
  rw [← EW.out, ← EF.out, ← ES.out]
  clear EW EF ES
  obtain ⟨p0, p1, p2⟩ := HA.out.p
  have hpl : pb < W2.heap.size := World.block_lt_of_cell? _ _ p0
  go_wp2_with fail
  refine HCK.out.mono ?_
  rintro e w3 ⟨rfl, hb3⟩
  have ff : BoxC w3 f #[.int .i64 0, .int .i64 0] 30 := BoxC.step HA.out.ff hb3
  have c0 : w3.cell? ⟨f, 0, none⟩ = some (.int .i64 0) := ff.cell 0
  have c1 : w3.cell? ⟨f, 1, none⟩ = some (.int .i64 0) := ff.cell 1
  have f0 := ff.fz 0
  have f1 := ff.fz 1
  have hfl := ff.lt
  have HW := hid HA.out.wf
  have B3 := hid (bl_step HB.out hb3)
  have B4 : Hid (∀ u v o, Below w.heap.size w (((w3.setCell ⟨f, 0, none⟩ u).setCell ⟨f, 1, none⟩ v).alloc o)) := fun u v o => bl_alloc (hput2 B3.out HW.out u v)
  clear ff hb3 HA HB HCK p0 p1 p2 hpl
  go_wp2
  exact bodyPost_ret (v := .agg #[.int .i64 c, .int .i64 a]) (by simp [results, Try.results7, go_sem, *]) rfl ⟨rfl, B4.out _ _ _⟩

theorem hkeep3 {w w' : World} {a b c d e f : Nat} {x y z : Value} (h : w.cell? ⟨a, b, none⟩ = some x ∧ w.cell? ⟨c, d, none⟩ = some y ∧ w.cell? ⟨e, f, none⟩ = some z) (hb : Below w.heap.size w w') : w'.cell? ⟨a, b, none⟩ = some x ∧ w'.cell? ⟨c, d, none⟩ = some y ∧ w'.cell? ⟨e, f, none⟩ = some z := ⟨cell_keep h.1 hb, cell_keep h.2.1 hb, cell_keep h.2.2 hb⟩

/-- what is so all the way of Check -/
structure CkAt (w : World) (d : ProgD) (wk ag pb f : Nat) (A : Nat → Option SD) (W : World) : Prop where
  wk : WkAt W wk ag d.code.n d A
  ok : okA A
  p2 : W.cell? ⟨pb, 2, none⟩ = some (.slice d.code.a d.code.n d.code.c)
  ff : BoxC W f #[.int .i64 0, .int .i64 0] 30
  bel : Below w.heap.size w W
theorem CkAt.over {w : World} {d : ProgD} {wk ag pb f : Nat} {A A' : Nat → Option SD} {W W' : World} (h : CkAt w d wk ag pb f A W) (hr : HRn ag W W') (hw : WkAt W' wk ag d.code.n d A') (ho : okA A') (h1 : pb ≠ ag) (h2 : f ≠ ag) (h3 : w.heap.size ≤ ag) : CkAt w d wk ag pb f A' W' :=
  ⟨hw, ho, hr.cell h1 h.p2, (hr.block f h.ff.lt h2).trans h.ff, h.bel.trans (hr.low h3 h.bel.size)⟩

set_option maxHeartbeats 8000000 in
set_option maxRecDepth 20000 in
theorem hcheck_good (d : ProgD) (w : World) (hl : d.lie w) (hs : d.small) (hc : (chkW d.slots d.ts d.cs).1 = 0) : Calls Try.prog 7 #[d.v] w (TellF (guardG d.ts d.cs 0 startA) w) := by
  obtain ⟨W2, hW⟩ : ∃ W2, W2 = ((w.alloc (.cells #[.int .i64 d.slots, .slice d.tabs.a d.tabs.n d.tabs.c, .slice d.code.a d.code.n d.code.c] 25)).alloc (.cells #[.int .i64 0, .int .i64 0] 30)) := ⟨_, rfl⟩
  obtain ⟨pb, es⟩ : ∃ s, s = w.heap.size := ⟨_, rfl⟩
  obtain ⟨f, ef⟩ : ∃ f, f = w.heap.size + 1 := ⟨_, rfl⟩
  have HA : Hid (GEncAt d w W2 pb f) := by rw [hW, es, ef]; exact genc_at d w
  have HB : Hid (Below w.heap.size w W2) := by rw [hW]; exact bl_alloc (bl_alloc (Below.refl _ _))
  have HCK := hid (gcheck d W2 (hl.step HB.out) hs)
  have hfit := chk_fit hl.wfs hc
  have hcl : d.cs.length = d.code.n := hl.c.1
  have hm : d.code.n ≤ 60000 := by have := hfit.nc.2; omega
  have hm1 : 1 ≤ d.code.n := by have := hfit.nc.1; omega
  have HOKS : Hid (∀ i x, d.cs[i]? = some x → GOk d.slots d.ts d.code.n i x) := fun i x hx => by rw [← hcl]; exact gok hl.wfs hc hx
  have HSL : Hid (d.slots ≤ 96) := hfit.s.2
  obtain ⟨i0, hi, hz0, hz1, hz2⟩ := info_parts Try.infoSt
  obtain ⟨Z, hZ⟩ : ∃ Z, Z = madeCells (stC false SD.none).toArray (d.code.n * 147) := ⟨_, rfl⟩
  have hmk : ∀ W : World, (Instr.makeSlice 37 (.int .i64 (d.code.n : Int)) (.int .i64 (d.code.n : Int))).run Try.prog W = .ok (.slice (some ⟨W.heap.size, 0, none⟩) d.code.n d.code.n) (W.alloc (.cells Z 47)) := fun W => by
    have h := run_make (P := Try.prog) W 37 47 i0 _ Try.underlying37 hi hz0 .i64 .i64 (d.code.n : Int) (d.code.n : Int) (by omega) (by omega) (by rw [hz2]; omega) (by omega)
    rw [show ((d.code.n : Int)).toNat = d.code.n by omega, hz1] at h
    rw [hZ]
    exact h
  have HMK := hid hmk
  have EZ := hid hZ
  have EW := hid hW
  have ES := hid es
  have EF := hid ef
  have HL := hid hl
  have HC := hid hc
  have HM := hid hm
  have HM1 := hid hm1
  have HCL := hid hcl
  obtain ⟨R, hR⟩ : ∃ R, R = guardG d.ts d.cs 0 startA := ⟨_, rfl⟩
  rw [← hR]
  have ER := hid hR
  dsimp only [ProgD.v, TellF] at HCK ⊢
  clear hl hs hc hW es ef hi hz0 hz1 hz2 hmk hZ hfit hm hm1 hcl hR
  go_enter Try.func7, Try.ntmps7
  go_upto_region 1 with fail
  rw [← EW.out, ← EF.out, ← ES.out]
  clear EW EF ES
  obtain ⟨p0, p1, p2⟩ := HA.out.p
  have hpl : pb < W2.heap.size := World.block_lt_of_cell? _ _ p0
  go_wp2_with fail
  refine HCK.out.mono ?_
  rintro e w3 ⟨rfl, hb3⟩
  rw [HC.out]
  generalize (chkW d.slots d.ts d.cs).2 = a0
  obtain ⟨W4, hW4⟩ : ∃ W, W = w3.alloc (.cells #[.int .i64 0, .int .i64 a0] 30) := ⟨_, rfl⟩
  have b4 : Below W2.heap.size W2 W4 := by rw [hW4]; exact bl_alloc hb3
  have HA4 := hid (HA.out.step b4)
  have HB4 := hid (bl_step HB.out b4)
  have E4 := hid hW4
  clear hb3 b4 HA HB HCK p0 p1 p2 hpl hW4
  go_upto_region 4 with fail
  rw [← E4.out]
  clear E4
  obtain ⟨p0, p1, p2⟩ := HA4.out.p
  have hpl : pb < W4.heap.size := World.block_lt_of_cell? _ _ p0
  have hmk := HMK.out
  clear HMK
  go_region_held3 (fun w' => w'.cell? ⟨pb, 0, none⟩ = some (.int .i64 d.slots) ∧ w'.cell? ⟨pb, 1, none⟩ = some (.slice d.tabs.a d.tabs.n d.tabs.c) ∧ w'.cell? ⟨pb, 2, none⟩ = some (.slice d.code.a d.code.n d.code.c))
    (first
      | (go_split_ands; with_reducible exact hkeep3 ⟨by assumption, by assumption, by assumption⟩ (bl_alloc (Below.refl _ _)))
      | go_keep)
    (fail)
  rename_i hHeld
  clear hmk p0 p1 p2 hpl hHeld
  obtain ⟨ag, hag⟩ : ∃ g, g = W4.heap.size := ⟨_, rfl⟩
  obtain ⟨wk, hwk⟩ : ∃ q, q = W4.heap.size + 1 := ⟨_, rfl⟩
  obtain ⟨W6, hW6⟩ : ∃ W, W = ((W4.alloc (.cells Z 47)).alloc (.cells #[.int .i64 d.slots, .slice d.tabs.a d.tabs.n d.tabs.c, .slice d.code.a d.code.n d.code.c, .slice (some ⟨W4.heap.size, 0, none⟩) d.code.n d.code.n] 39)).drew := ⟨_, rfl⟩
  have b6 : Below W4.heap.size W4 W6 := by rw [hW6]; exact (bl_alloc (bl_alloc (Below.refl _ _))).drew
  have hlow := (HL.out.step HB4.out).low
  have st6 : (∀ j, j < d.code.n → W6.rangeAt ag (j * 147) (stC false SD.none)) ∧ ∀ j, j < d.code.n → W6.there ag (j * 147) 147 := by
    obtain ⟨h1, h2⟩ := made_states W4 d.code.n
    rw [← EZ.out] at h1 h2
    rw [hW6, hag]
    exact ⟨fun j hj => range_step (h1 j hj) (bl_alloc (Below.refl _ _)).drew, fun j hj => there_step (h2 j hj) (bl_alloc (Below.refl _ _)).drew⟩
  have kb : BoxC W6 wk #[.int .i64 d.slots, .slice d.tabs.a d.tabs.n d.tabs.c, .slice d.code.a d.code.n d.code.c, .slice (some ⟨ag, 0, none⟩) d.code.n d.code.n] 39 := by
    rw [hW6, hwk, hag]
    exact BoxC.step (boxc_new (w := W4.alloc (.cells Z 47)) _ _ _ (by simp)) (Below.refl _ _).drew
  have hpb : pb < W4.heap.size := World.block_lt_of_cell? _ _ HA4.out.p.c0
  have hff : f < W4.heap.size := BoxC.lt HA4.out.ff
  have HNE : Hid (pb ≠ ag ∧ f ≠ ag ∧ w.heap.size ≤ ag ∧ w.heap.size ≤ f) := ⟨by omega, by omega, by rw [hag]; exact HB4.out.size, HA4.out.wf⟩
  obtain ⟨W7, hW7⟩ : ∃ W, W = W6.setCell ⟨ag, 0, none⟩ (.bool true) := ⟨_, rfl⟩
  have hr7 : HRn ag W6 W7 := by rw [hW7]; exact HRn.put ag W6 0 _
  have hwka : wk ≠ ag := by omega
  have HK7 : Hid (CkAt w d wk ag pb f startA W7) := by
    have hft : ∀ ad, d.tabs.a = some ad → 0 < d.tabs.n → ad.block ≠ ag ∧ ad.block < W6.heap.size := fun ad e n0 => ⟨by have := hlow.1 ad e n0; omega, Nat.lt_of_lt_of_le (hlow.1 ad e n0) b6.size⟩
    have hfc : ∀ ad, d.code.a = some ad → 0 < d.code.n → ad.block ≠ ag ∧ ad.block < W6.heap.size := fun ad e n0 => ⟨by have := hlow.2 ad e n0; omega, Nat.lt_of_lt_of_le (hlow.2 ad e n0) b6.size⟩
    refine ⟨⟨hr7.cell hwka (kb.cell 1), hr7.cell hwka (kb.cell 2), hr7.cell hwka (kb.cell 3), fun j hj => ?_, fun j hj => ?_, hr7.lie (HL.out.step (bl_step HB4.out b6)) hft hfc, hwka, fun ad e n0 => ⟨(hft ad e n0).1, Nat.lt_of_lt_of_le (hft ad e n0).2 hr7.size⟩, fun ad e n0 => ⟨(hfc ad e n0).1, Nat.lt_of_lt_of_le (hfc ad e n0).2 hr7.size⟩⟩, okA_start, hr7.cell HNE.out.1 (cell_keep HA4.out.p.c2 b6), ?_, ?_⟩
    · rw [hW7]
      have h0 := st6.1 j hj
      by_cases e : j = 0
      · subst e
        rw [show startA 0 = some SD.none from rfl]
        rw [Nat.zero_mul] at h0 ⊢
        have h1 := range_st.1 h0
        refine range_st.2 ⟨World.cell?_setCell_same _ _ _ h1.1, fun q hq r v hv => ?_, fun q hq => ?_⟩
        · exact (World.cell?_setCell_other _ _ _ _ (by intro e; simp only [Addr.mk.injEq] at e; omega)).trans (h1.2.1 q hq r v hv)
        · exact (World.cell?_setCell_other _ _ _ _ (by intro e; simp only [Addr.mk.injEq] at e; omega)).trans (h1.2.2 q hq)
      · rw [show startA j = none by simp [startA, e]]
        exact World.rangeAt_setCells_apart h0 ag 0 [_] (.inr (.inr (by simp only [List.length_cons, List.length_nil]; omega)))
    · rw [hW7]
      exact there_set (st6.2 j hj) _ _ _
    · exact (hr7.block f (Nat.lt_of_lt_of_le hff b6.size) HNE.out.2.1).trans (BoxC.step HA4.out.ff b6)
    · exact (bl_step HB4.out b6).trans (hr7.low HNE.out.2.2.1 (bl_step HB4.out b6).size)
  have k3 : W6.cell? ⟨wk, 3, none⟩ = some (.slice (some ⟨ag, 0, none⟩) d.code.n d.code.n) := kb.cell 3
  have y0 : W6.cell? ⟨ag, 0, none⟩ = some (.bool false) := by
    have := (range_st.1 (st6.1 0 HM1.out)).1
    rw [Nat.zero_mul] at this
    exact this
  have fz0 : W6.frozen? ⟨ag, 0, none⟩ = false := by
    have := (st6.2 0 HM1.out 0 (by omega)).2
    rw [Nat.zero_mul] at this
    exact this
  have hwl : wk < W6.heap.size := kb.lt
  have hagl : ag < W6.heap.size := World.block_lt_of_cell? _ _ y0
  have hmp : (0 : Int) < (d.code.n : Int) := by have := HM1.out; omega
  rw [← hW6, ← hwk, ← hag]
  have E7 := hid hW7
  clear hW7 hW6 hwk hag b6 hlow st6 kb hpb hff hr7 hwka HA4 HB4 EZ
  go_upto_region 6 with fail
  rw [← E7.out]
  clear E7 k3 y0 fz0 hwl hagl
  have p2 := HK7.out.p2
  have hpl : pb < W7.heap.size := World.block_lt_of_cell? _ _ p2
  go_wp2
  clear p2 hpl
  go_loopw [29, 5] (fun q _ wr => ∃ k : Nat, k ≤ d.code.n ∧ q = .int .i64 k ∧ Hid (∃ A, CkAt w d wk ag pb f A wr ∧ R = guardG d.ts (d.cs.drop k) k A)) (fun q _ _ => d.code.n - (intOf q).toNat)
  case atStart => exact ⟨0, Nat.zero_le _, rfl, startA, HK7.out, by rw [ER.out]; rfl⟩
  case round =>
    obtain ⟨k, hk, rfl, J⟩ := hrel
    clear HK7
    obtain ⟨A, hka, hgr⟩ := J.out
    have h60 := HM.out
    by_cases hlt : k < d.code.n
    · have hki : (k : Int) < (d.code.n : Int) := by omega
      have hkl : k < d.cs.length := by rw [HCL.out]; exact hlt
      have hx : d.cs[k]? = some d.cs[k] := List.getElem?_eq_getElem hkl
      have hdr : d.cs.drop k = d.cs[k] :: d.cs.drop (k + 1) := List.drop_eq_getElem_cons hkl
      rw [hdr] at hgr
      generalize d.cs[k] = x at *
      have hg := HOKS.out k x hx
      have HKA := hid hka
      have HNX : Hid (R.1 = 0 ∨ R.1 ≠ 0) := by
        by_cases e : R.1 = 0
        · exact .inl e
        · exact .inr e
      cases hA : A k with
      | none =>
        have HOV := hid (hover_none hka.wk k hlt hA)
        have HGR : Hid (R = guardG d.ts (d.cs.drop (k + 1)) (k + 1) A) := by
          show _ = _
          rw [hgr, guardG, hA]
        clear hka hgr hg hx hdr hA hkl J
        go_wp2_with fail
        refine HOV.out.mono ?_
        rintro e w8 ⟨rfl, hw8, hr8⟩
        have HK8 : Hid (∃ A, CkAt w d wk ag pb f A w8 ∧ R = guardG d.ts (d.cs.drop (k + 1)) (k + 1) A) := ⟨A, HKA.out.over hr8 (hw8 rfl) HKA.out.ok HNE.out.1 HNE.out.2.1 HNE.out.2.2.1, HGR.out⟩
        clear hw8 hr8 HOV HGR HKA
        go_wp2
        go_roundw
        case rel => exact ⟨k + 1, by omega, by go_num, HK8⟩
        case measure => simp [intOf]; omega
      | some s =>
        have HOV := hid (hover_some hka.wk k hlt h60 rfl hx hg HSL.out hA (hka.ok k s hA))
        have hgr2 : R = if wrongD d.ts s x ≠ 0 then (wrongD d.ts s x, (k : Int)) else guardG d.ts (d.cs.drop (k + 1)) (k + 1) (overA d.ts A k x s) := by
          rw [hgr, guardG, hA]
        have HOA : Hid (wrongD d.ts s x = 0 → okA (overA d.ts A k x s)) := fun h0 => okA_over hka.ok (hka.ok k s hA) hg h0
        have HG2 := hid hgr2
        clear hka hgr hg hx hdr hA hkl J hgr2
        go_wp2_with fail
        refine HOV.out.mono ?_
        rintro e w8 ⟨rfl, hw8, hr8⟩
        clear HOV
        by_cases hc : wrongD d.ts s x = 0
        · have HK8 : Hid (∃ A, CkAt w d wk ag pb f A w8 ∧ R = guardG d.ts (d.cs.drop (k + 1)) (k + 1) A) := ⟨_, HKA.out.over hr8 (hw8 hc) (HOA.out hc) HNE.out.1 HNE.out.2.1 HNE.out.2.2.1, by rw [HG2.out, if_neg (by rw [hc]; decide)]⟩
          rw [hc]
          clear hw8 hr8 HG2 HKA HOA hc
          go_wp2
          go_roundw
          case rel => exact ⟨k + 1, by omega, by go_num, HK8⟩
          case measure => simp [intOf]; omega
        · have ff : BoxC w8 f #[.int .i64 0, .int .i64 0] 30 := (hr8.block f HKA.out.ff.lt HNE.out.2.1).trans HKA.out.ff
          have c0 : w8.cell? ⟨f, 0, none⟩ = some (.int .i64 0) := ff.cell 0
          have c1 : w8.cell? ⟨f, 1, none⟩ = some (.int .i64 0) := ff.cell 1
          have f0 := ff.fz 0
          have f1 := ff.fz 1
          have hfl := ff.lt
          have B8 : Hid (Below w.heap.size w w8) := HKA.out.bel.trans (hr8.low HNE.out.2.2.1 HKA.out.bel.size)
          have HEQ : Hid (R = (wrongD d.ts s x, (k : Int))) := by
            show _ = _
            rw [HG2.out, if_pos hc]
          generalize wrongD d.ts s x = C at *
          have hcb : (C != 0) = true := by simpa using hc
          clear hw8 hr8 HG2 HKA HOA ff
          go_wp2
          exact bodyPost_ret (v := .agg #[.int .i64 C, .int .i64 (k : Int)]) (by simp [results, Try.results7, go_sem, *]) rfl ⟨by rw [HEQ.out], hput2 B8.out HNE.out.2.2.2 _ _⟩
    · have hki : ¬ (k : Int) < (d.code.n : Int) := by omega
      obtain rfl : k = d.code.n := by omega
      have HEQ : Hid (R = (0, 0)) := by
        show _ = _
        rw [hgr, List.drop_eq_nil_of_le (by rw [HCL.out]; exact Nat.le_refl _)]
        rfl
      have ff := hka.ff
      have c0 : wr.cell? ⟨f, 0, none⟩ = some (.int .i64 0) := ff.cell 0
      have c1 : wr.cell? ⟨f, 1, none⟩ = some (.int .i64 0) := ff.cell 1
      have f0 := ff.fz 0
      have f1 := ff.fz 1
      have hfl := ff.lt
      have B8 := hid hka.bel
      clear hka hgr ff J
      go_wp2
      exact bodyPost_ret (v := .agg #[.int .i64 0, .int .i64 0]) (by simp [results, Try.results7, go_sem, *]) rfl ⟨by rw [HEQ.out], hput2 B8.out HNE.out.2.2.2 _ _⟩

theorem hcheck (d : ProgD) (w : World) (hl : d.lie w) (hs : d.small) : Calls Try.prog 7 #[d.v] w (TellF (guardW d.slots d.ts d.cs) w) := by
  unfold guardW
  by_cases hc : (chkW d.slots d.ts d.cs).1 ≠ 0
  · rw [if_pos hc]
    exact hcheck_bad d w hl hs hc
  · rw [if_neg hc]
    exact hcheck_good d w hl hs (by simpa using hc)
end Go.Proofs.Ytmohffibkpecpaa

namespace Go.Proofs.Ytmohffibkpecpaa
open Go.RowKit

theorem row_box {W : World} {g : Nat} {cs : List InsD} {T : TypeId} (h : BoxC W g (cs.flatMap kInsE).toArray T) (hw : ∀ x ∈ cs, x.wf) : QRow 6 InsD.lie W ⟨some ⟨g, 0, none⟩, cs.length, cs.length⟩ cs := by
  refine ⟨rfl, fun i x hx => ⟨g, 0, rfl, ?_⟩⟩
  have hxw := hw x (List.mem_of_getElem? hx)
  have c : ∀ r u, (kInsE x)[r]? = some u → W.cell? ⟨g, 0 + i * 6 + r, none⟩ = some u := fun r u hu => by
    rw [h.cell, List.getElem?_toArray, Nat.zero_add]
    exact gflat_to (k := 6) (fun _ => rfl) hx hu
  exact ⟨⟨c 0 _ rfl, hxw.1⟩, ⟨c 1 _ rfl, hxw.2.1⟩, ⟨c 2 _ rfl, hxw.2.2.1⟩, ⟨c 3 _ rfl, hxw.2.2.2.1⟩, ⟨c 4 _ rfl, hxw.2.2.2.2.1⟩, ⟨c 5 _ rfl, hxw.2.2.2.2.2⟩⟩

def begCs (y : InsD) : List InsD := [⟨1, 0, 0, 0, 0, 0⟩, y, ⟨6, 1, 0, 1, 0, 0⟩, ⟨17, 0, 0, 0, 0, 0⟩]
theorem beg_lie {W : World} {g : Nat} {T : TypeId} {y : InsD} (h : BoxC W g ((begCs y).flatMap kInsE).toArray T) (hy : y.wf) : ProgD.lie ⟨0, ⟨none, 0, 0⟩, [], ⟨some ⟨g, 0, none⟩, 4, 4⟩, begCs y⟩ W := by
  refine ⟨(show gwfI 0 by decide), by simp [QSl.nil0], by simp [QSl.nil0], ⟨rfl, by simp⟩, row_box h fun x hx => ?_⟩
  simp only [begCs, List.mem_cons, List.not_mem_nil, or_false] at hx
  rcases hx with rfl | rfl | rfl | rfl
  · exact ⟨by decide, by decide, by decide, by decide, by decide, by decide⟩
  · exact hy
  · exact ⟨by decide, by decide, by decide, by decide, by decide, by decide⟩
  · exact ⟨by decide, by decide, by decide, by decide, by decide, by decide⟩

theorem beg_one : guardW 0 [] (begCs ⟨9, 0, 0, 0, 1, 1⟩) = (0, 0) := by decide
theorem beg_two : guardW 0 [] (begCs ⟨1, 2, 0, 0, 0, 0⟩) = (16, 2) := by decide

set_option maxHeartbeats 4000000 in
set_option maxRecDepth 20000 in
theorem hbegun (w : World) : Calls Try.prog 4 #[] w (TellB true w) := by
  obtain ⟨W2, hW2⟩ : ∃ W, W = (w.alloc (.cells #[.int .i64 1, .int .i64 0, .int .i64 0, .int .i64 0, .int .i64 0, .int .u64 0, .int .i64 9, .int .i64 0, .int .i64 0, .int .i64 0, .int .i64 1, .int .u64 1, .int .i64 6, .int .i64 1, .int .i64 0, .int .i64 1, .int .i64 0, .int .u64 0, .int .i64 17, .int .i64 0, .int .i64 0, .int .i64 0, .int .i64 0, .int .u64 0] 35)).alloc (.cells #[.int .i64 0, .slice none 0 0, .slice (some ⟨w.heap.size, 0, none⟩) 4 4] 25) := ⟨_, rfl⟩
  obtain ⟨g, hg⟩ : ∃ b, b = w.heap.size := ⟨_, rfl⟩
  obtain ⟨pb, hpb⟩ : ∃ b, b = w.heap.size + 1 := ⟨_, rfl⟩
  have b2 : Below w.heap.size w W2 := by rw [hW2]; exact bl_alloc (bl_alloc (Below.refl _ _))
  have xg : BoxC W2 g ((begCs ⟨9, 0, 0, 0, 1, 1⟩).flatMap kInsE).toArray 35 := by
    rw [hW2, hg]
    exact BoxC.step (boxc_new _ _ _ rfl) (bl_alloc (Below.refl _ _))
  have xp : BoxC W2 pb #[.int .i64 0, .slice none 0 0, .slice (some ⟨g, 0, none⟩) 4 4] 25 := by
    rw [hW2, hpb, hg]
    exact boxc_new _ _ _ (by simp)
  have HC1 := hid (hcheck ⟨0, ⟨none, 0, 0⟩, [], ⟨some ⟨g, 0, none⟩, 4, 4⟩, begCs ⟨9, 0, 0, 0, 1, 1⟩⟩ W2 (beg_lie xg ⟨by decide, by decide, by decide, by decide, by decide, by decide⟩) ⟨Nat.zero_le _, show (4 : Nat) ≤ 65535 by decide⟩)
  rw [beg_one] at HC1
  dsimp only [ProgD.v, TellF] at HC1
  have XG := hid xg
  have XP := hid xp
  have B2 := hid b2
  have hgp : ¬ g = pb := by omega
  have hwg : w.heap.size ≤ g := by omega
  have HWG := hid hwg
  have EW := hid hW2
  have EG := hid hg
  have EP := hid hpb
  clear hW2 hg hpb b2 xg xp hwg
  go_enter Try.func4, Try.ntmps4
  go_upto_region 2 with fail
  rw [← EW.out, ← EP.out, ← EG.out]
  clear EW EP EG
  have p0 : W2.cell? ⟨pb, 0, none⟩ = some (.int .i64 0) := XP.out.cell 0
  have p1 : W2.cell? ⟨pb, 1, none⟩ = some (.slice none 0 0) := XP.out.cell 1
  have p2 : W2.cell? ⟨pb, 2, none⟩ = some (.slice (some ⟨g, 0, none⟩) 4 4) := XP.out.cell 2
  have hpl := XP.out.lt
  go_wp2_with fail
  refine HC1.out.mono ?_
  rintro e w3 ⟨rfl, hb3⟩
  clear p0 p1 p2 hpl HC1
  obtain ⟨W4, hW4⟩ : ∃ W, W = w3.alloc (.cells #[.int .i64 0, .int .i64 0] 30) := ⟨_, rfl⟩
  obtain ⟨fb, hfb⟩ : ∃ b, b = w3.heap.size := ⟨_, rfl⟩
  have b4 : Below W2.heap.size W2 W4 := by rw [hW4]; exact bl_alloc hb3
  have xf : BoxC W4 fb #[.int .i64 0, .int .i64 0] 30 := by rw [hW4, hfb]; exact boxc_new _ _ _ rfl
  have hfg : ¬ g = fb := by
    have h1 := XG.out.lt
    have h2 := hb3.size
    omega
  have XG4 := hid (XG.out.step b4)
  have XP4 := hid (XP.out.step b4)
  have XF4 := hid xf
  have B4 := hid (bl_step B2.out b4)
  have E4 := hid hW4
  have EF := hid hfb
  clear hW4 hfb b4 xf hb3 XG XP B2
  go_upto_region 3 with fail
  rw [← E4.out, ← EF.out]
  clear E4 EF
  have p2 : W4.cell? ⟨pb, 2, none⟩ = some (.slice (some ⟨g, 0, none⟩) 4 4) := XP4.out.cell 2
  have hpl := XP4.out.lt
  have hgl := XG4.out.lt
  have g6 : W4.cell? ⟨g, 6, none⟩ = some (.int .i64 9) := XG4.out.cell 6
  have g7 : W4.cell? ⟨g, 7, none⟩ = some (.int .i64 0) := XG4.out.cell 7
  have g8 : W4.cell? ⟨g, 8, none⟩ = some (.int .i64 0) := XG4.out.cell 8
  have g9 : W4.cell? ⟨g, 9, none⟩ = some (.int .i64 0) := XG4.out.cell 9
  have g10 : W4.cell? ⟨g, 10, none⟩ = some (.int .i64 1) := XG4.out.cell 10
  have g11 : W4.cell? ⟨g, 11, none⟩ = some (.int .u64 1) := XG4.out.cell 11
  have z6 := XG4.out.fz 6
  have z7 := XG4.out.fz 7
  have z8 := XG4.out.fz 8
  have z9 := XG4.out.fz 9
  have z10 := XG4.out.fz 10
  have z11 := XG4.out.fz 11
  obtain ⟨W5, hW5⟩ : ∃ W, W = (((((W4.setCell ⟨g, 6, none⟩ (.int .i64 1)).setCell ⟨g, 7, none⟩ (.int .i64 2)).setCell ⟨g, 8, none⟩ (.int .i64 0)).setCell ⟨g, 9, none⟩ (.int .i64 0)).setCell ⟨g, 10, none⟩ (.int .i64 0)).setCell ⟨g, 11, none⟩ (.int .u64 0) := ⟨_, rfl⟩
  have xg5 : BoxC W5 g ((begCs ⟨1, 2, 0, 0, 0, 0⟩).flatMap kInsE).toArray 35 := by
    rw [hW5]
    exact (((((XG4.out.put 6 (.int .i64 1)).put 7 (.int .i64 2)).put 8 (.int .i64 0)).put 9 (.int .i64 0)).put 10 (.int .i64 0)).put 11 (.int .u64 0)
  have xp5 : BoxC W5 pb #[.int .i64 0, .slice none 0 0, .slice (some ⟨g, 0, none⟩) 4 4] 25 := by
    rw [hW5]
    exact (((((XP4.out.far hgp _ _).far hgp _ _).far hgp _ _).far hgp _ _).far hgp _ _).far hgp _ _
  have xf5 : BoxC W5 fb #[.int .i64 0, .int .i64 0] 30 := by
    rw [hW5]
    exact (((((XF4.out.far hfg _ _).far hfg _ _).far hfg _ _).far hfg _ _).far hfg _ _).far hfg _ _
  have B5 : Hid (Below w.heap.size w W5) := by
    rw [hW5]
    exact hput1 (hput1 (hput1 (hput1 (hput1 (hput1 B4.out HWG.out _ _) HWG.out _ _) HWG.out _ _) HWG.out _ _) HWG.out _ _) HWG.out _ _
  have HC2 := hid (hcheck ⟨0, ⟨none, 0, 0⟩, [], ⟨some ⟨g, 0, none⟩, 4, 4⟩, begCs ⟨1, 2, 0, 0, 0, 0⟩⟩ W5 (beg_lie xg5 ⟨by decide, by decide, by decide, by decide, by decide, by decide⟩) ⟨Nat.zero_le _, show (4 : Nat) ≤ 65535 by decide⟩)
  rw [beg_two] at HC2
  dsimp only [ProgD.v, TellF] at HC2
  have XP5 := hid xp5
  have XF5 := hid xf5
  have E5 := hid hW5
  clear hW5 xg5 xp5 xf5 XG4 XP4 XF4 B4
  go_upto_region 4 with fail
  rw [← E5.out]
  clear E5 p2 hpl hgl g6 g7 g8 g9 g10 g11 z6 z7 z8 z9 z10 z11
  have p0 : W5.cell? ⟨pb, 0, none⟩ = some (.int .i64 0) := XP5.out.cell 0
  have p1 : W5.cell? ⟨pb, 1, none⟩ = some (.slice none 0 0) := XP5.out.cell 1
  have p2 : W5.cell? ⟨pb, 2, none⟩ = some (.slice (some ⟨g, 0, none⟩) 4 4) := XP5.out.cell 2
  have hpl := XP5.out.lt
  have c0 : W5.cell? ⟨fb, 0, none⟩ = some (.int .i64 0) := XF5.out.cell 0
  have hfl := XF5.out.lt
  go_wp2_with fail
  refine HC2.out.mono ?_
  rintro e w6 ⟨rfl, hb6⟩
  have B6 := hid (bl_step B5.out hb6)
  clear hb6 HC2 p0 p1 p2 hpl c0 hfl
  go_wp2
  go_ret
  exact ⟨rfl, B6.out⟩
end Go.Proofs.Ytmohffibkpecpaa
