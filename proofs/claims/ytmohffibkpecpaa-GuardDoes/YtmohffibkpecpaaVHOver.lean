/- guard's walker: goOver. -/
import Derived.Test.YtmohffibkpecpaaJ6
import Derived.Test.YtmohffibkpecpaaJ5
import Derived.Test.YtmohffibkpecpaaJ7
import Derived.Test.YtmohffibkpecpaaJ8
import Derived.Test.YtmohffibkpecpaaJ9
import Derived.Test.YtmohffibkpecpaaVHBehCall
namespace Go.Proofs.Ytmohffibkpecpaa
open Go.RowKit

/-- the cells of a visit -/
def visC (wk : Nat) (x : InsD) (s : SD) : List Value := .pointer (some ⟨wk, 0, none⟩) :: .int .i64 x.op :: .int .i64 x.r :: .int .i64 x.s :: .int .i64 x.k :: .int .i64 x.to :: .int .u64 x.n :: stC true s

set_option maxRecDepth 20000 in
theorem built_vis (wk : Nat) (x : InsD) (s : SD) : Try.prog.built 69 [(0, vptr wk), (1, .agg #[.int .i64 x.op, .int .i64 x.r, .int .i64 x.s, .int .i64 x.k, .int .i64 x.to, .int .u64 x.n]), (2, .agg (stC true s).toArray)] = some (visC wk x s).toArray := by kernel_rfl

theorem wpList_build_to {P : Program} {ops : Array Oper} {rest : List Oper} {o : Oper} {a : Act} {w : World} {Q : Exit → Act → World → Prop} (hg : o.guard = none) (t : TypeId) (parts : Array (Nat × Operand)) (ho : o.op = .build t parts) (cells : Array Value) (hf : P.built t (parts.map fun (i, x) => (i, a.eval x)).toList = some cells) (h : wpList P ops Q rest (a.put o.dst (.agg cells)) w) : wpList P ops Q (o :: rest) a w :=
  wpList_build hg t parts ho (by rw [hf]; rfl) (by rw [hf]; exact h)

theorem range_tail {w : World} {b o : Nat} {l r : List Value} (h : w.rangeAt b o (l ++ r)) : w.rangeAt b (o + l.length) r := fun j v hv => by
  have := h (l.length + j) v (by rw [List.getElem?_append_right (by omega), show l.length + j - l.length = j by omega]; exact hv)
  rw [Nat.add_assoc]
  exact this

theorem vis_len (wk : Nat) (x : InsD) (s : SD) : (visC wk x s).length = 154 := by simp [visC, stC_len]

theorem vis_new {w : World} {wk ag m : Nat} {d : ProgD} {A : Nat → Option SD} (h : WkAt w wk ag m d A) (x : InsD) (s : SD) : VisAt (w.alloc (.cells (visC wk x s).toArray 69)) w.heap.size wk d x s := by
  have hr := range_new w (visC wk x s) 69
  have ht := there_new w (visC wk x s) 69
  have hb : Below w.heap.size w (w.alloc (.cells (visC wk x s).toArray 69)) := bl_alloc (Below.refl _ _)
  refine ⟨hr 0 _ rfl, hr 1 _ rfl, hr 2 _ rfl, hr 3 _ rfl, hr 4 _ rfl, hr 5 _ rfl, hr 6 _ rfl, ?_, fun j hj => ?_, cell_keep h.k1 hb, h.lie.step hb⟩
  · exact range_tail (o := 0) (l := [.pointer (some ⟨wk, 0, none⟩), .int .i64 x.op, .int .i64 x.r, .int .i64 x.s, .int .i64 x.k, .int .i64 x.to, .int .u64 x.n]) hr
  · have := ht (7 + j) (by rw [vis_len]; omega)
    rw [Nat.zero_add] at this
    exact this

theorem vis_apart {w w' : World} {wk ag m : Nat} {d : ProgD} {A : Nat → Option SD} (h : WkAt w wk ag m d A) {vb : Nat} (hv : w.heap.size ≤ vb) (hs : w.heap.size ≤ w'.heap.size) : VisAp w' vb wk d :=
  ⟨by have := World.block_lt_of_cell? _ _ h.k1; show wk ≠ vb; have : wk < w.heap.size := this; omega, fun ad e n0 => ⟨by have := (h.ft ad e n0).2; omega, Nat.lt_of_lt_of_le (h.ft ad e n0).2 hs⟩, fun ad e n0 => ⟨by have := (h.fc ad e n0).2; omega, Nat.lt_of_lt_of_le (h.fc ad e n0).2 hs⟩⟩

theorem range_blk {w w' : World} {b o : Nat} {cs : List Value} (h : w.rangeAt b o cs) (e : w'.heap[b]? = w.heap[b]?) : w'.rangeAt b o cs := fun j v hv => cell_blk e (h j v hv)
theorem there_blk {w w' : World} {b o n : Nat} (h : w.there b o n) (e : w'.heap[b]? = w.heap[b]?) : w'.there b o n := fun j hj => by
  obtain ⟨h1, h2⟩ := h j hj
  obtain ⟨u, hu⟩ := Option.isSome_iff_exists.1 h1
  exact ⟨by rw [cell_blk e hu]; rfl, by unfold World.frozen? at h2 ⊢; rw [e]; exact h2⟩

/-- the visit stays where another block turns -/
theorem VisAt.rn {w w' : World} {vb wk p : Nat} {d : ProgD} {x : InsD} {s : SD} (h : VisAt w vb wk d x s) (hr : HRn p w w') (h1 : vb ≠ p) (h2 : wk ≠ p) (ft : ∀ ad, d.tabs.a = some ad → 0 < d.tabs.n → ad.block ≠ p ∧ ad.block < w.heap.size) (fc : ∀ ad, d.code.a = some ad → 0 < d.code.n → ad.block ≠ p ∧ ad.block < w.heap.size) : VisAt w' vb wk d x s :=
  ⟨hr.cell h1 h.c0, hr.cell h1 h.i0, hr.cell h1 h.i1, hr.cell h1 h.i2, hr.cell h1 h.i3, hr.cell h1 h.i4, hr.cell h1 h.i5, range_blk h.st (hr.block vb h.lt h1), there_blk h.th (hr.block vb h.lt h1), hr.cell h2 h.p1, hr.lie h.lie ft fc⟩
/-- and the walker -/
theorem WkAt.rn {w w' : World} {wk ag m p : Nat} {d : ProgD} {A : Nat → Option SD} (h : WkAt w wk ag m d A) (hr : HRn p w w') (hm : 0 < m) (h1 : ag ≠ p) (h2 : wk ≠ p) (ft : ∀ ad, d.tabs.a = some ad → 0 < d.tabs.n → ad.block ≠ p ∧ ad.block < w.heap.size) (fc : ∀ ad, d.code.a = some ad → 0 < d.code.n → ad.block ≠ p ∧ ad.block < w.heap.size) : WkAt w' wk ag m d A := by
  have hag : ag < w.heap.size := by
    obtain ⟨u, hu⟩ := Option.isSome_iff_exists.1 (h.th 0 hm 0 (by omega)).1
    exact World.block_lt_of_cell? _ _ hu
  have e := hr.block ag hag h1
  exact ⟨hr.cell h2 h.k1, hr.cell h2 h.k2, hr.cell h2 h.k3, fun j hj => range_blk (h.st j hj) e, fun j hj => there_blk (h.th j hj) e, hr.lie h.lie ft fc, h.ne, fun ad x n0 => ⟨(h.ft ad x n0).1, Nat.lt_of_lt_of_le (h.ft ad x n0).2 hr.size⟩, fun ad x n0 => ⟨(h.fc ad x n0).1, Nat.lt_of_lt_of_le (h.fc ad x n0).2 hr.size⟩⟩
theorem HRn.far {p q : Nat} {a b c : World} (h : HRn p a b) (k : HRn q b c) (hq : a.heap.size ≤ q) : HRn p a c := ⟨k.os.trans h.os, k.tape.trans h.tape, k.output.trans h.output, Nat.le_trans h.size k.size, fun i hi hp => (k.block i (Nat.lt_of_lt_of_le hi h.size) (by omega)).trans (h.block i hi hp)⟩

theorem hbehind {w : World} {vb wk : Nat} {d : ProgD} {x : InsD} {s : SD} {m i : Nat} (h : VisAt w vb wk d x s) (ha : VisAp w vb wk d) (hx : GOk d.slots d.ts m i x) (hok : s.ok) (hsl : d.slots ≤ 96) : Calls Try.prog 25 #[vptr vb] w (BehIs w vb wk d x (behindD d.ts s x)) := by
  rcases op18 hx.op with q | q | q | q | q | q | q | q | q | q | q | q | q | q | q | q | q | q
  · exact hbeh_num h ha hx hok q
  · exact hbeh_move h ha hx hok q
  · exact hbeh_bin h ha hx hok q
  · exact hbeh_any h ha hx hok (by omega)
  · exact hbeh_any h ha hx hok (by omega)
  · exact hbeh_any h ha hx hok (by omega)
  · exact hbeh_any h ha hx hok (by omega)
  · exact hbeh_set h ha hx hsl q
  · exact hbeh_room h ha hx hok q
  · exact hbeh_none h (by omega)
  · exact hbeh_none h (by omega)
  · exact hbeh_none h (by omega)
  · exact hbeh_call h ha hx hsl q
  · exact hbeh_none h (by omega)
  · exact hbeh_none h (by omega)
  · exact hbeh_none h (by omega)
  · exact hbeh_none h (by omega)
  · exact hbeh_any h ha hx hok (by omega)

/-- what goOver does -/
def OverIs (w : World) (wk ag m : Nat) (d : ProgD) (c : Int) (A : Nat → Option SD) (e : Ending) (w' : World) : Prop := e = .returned (.int .i64 c) ∧ (c = 0 → WkAt w' wk ag m d A) ∧ HRn ag w w'

set_option maxHeartbeats 2000000 in
set_option maxRecDepth 20000 in
theorem hover_none {w : World} {wk ag m : Nat} {d : ProgD} {A : Nat → Option SD} (h : WkAt w wk ag m d A) (i : Nat) (hi : i < m) (hA : A i = none) : Calls Try.prog 11 #[vptr wk, .int .i64 (i : Int)] w (OverIs w wk ag m d 0 A) := by
  have HE : Hid (OverIs w wk ag m d 0 A (.returned (.int .i64 0)) w) := ⟨rfl, fun _ => h, HRn.refl _ _⟩
  have hs := h.st i hi
  rw [hA] at hs
  have c0 := (range_st.1 hs).1
  have k3 := h.k3
  have hl : wk < w.heap.size := World.block_lt_of_cell? _ _ k3
  have hal : ag < w.heap.size := World.block_lt_of_cell? _ _ c0
  have hii : (i : Int) < (m : Int) := by omega
  clear h hs hA
  go_enter Try.func11, Try.ntmps11
  go_wp2
  go_ret
  exact HE.out

set_option maxHeartbeats 4000000 in
set_option maxRecDepth 20000 in
theorem hover_some {w : World} {wk ag m : Nat} {d : ProgD} {A : Nat → Option SD} (h : WkAt w wk ag m d A) (i : Nat) (hi : i < m) (hm : m ≤ 60000) (hdm : d.code.n = m) {x : InsD} (hx : d.cs[i]? = some x) (hg : GOk d.slots d.ts m i x) (hsl : d.slots ≤ 96) {s : SD} (hA : A i = some s) (hok : s.ok) : Calls Try.prog 11 #[vptr wk, .int .i64 (i : Int)] w (OverIs w wk ag m d (wrongD d.ts s x) (overA d.ts A i x s)) := by
  have HW := hid h
  have HG := hid hg
  have HOK := hid hok
  have HSL := hid hsl
  have hs := h.st i hi
  rw [hA] at hs
  have c0 := (range_st.1 hs).1
  have k2 := h.k2
  have k3 := h.k3
  obtain ⟨cg, co, x', ea, hx', hp⟩ := grow_at h.lie.c (i := i) (by omega)
  obtain rfl : x' = x := Option.some.inj (hx'.symm.trans hx)
  obtain ⟨p0, p1, p2, p3, p4, p5⟩ := hp
  replace p0 := p0.1
  replace p1 := p1.1
  replace p2 := p2.1
  replace p3 := p3.1
  replace p4 := p4.1
  replace p5 := p5.1
  rw [ea, hdm] at k2
  have hl : wk < w.heap.size := World.block_lt_of_cell? _ _ k3
  have hal : ag < w.heap.size := World.block_lt_of_cell? _ _ c0
  have hcl : cg < w.heap.size := World.block_lt_of_cell? _ _ p0
  have hii : (i : Int) < (m : Int) := by omega
  have k2' := cell_by k2
  have k3' := cell_by k3
  have p0' := cell_by p0
  have p1' := cell_by p1
  have p2' := cell_by p2
  have p3' := cell_by p3
  have p4' := cell_by p4
  have p5' := cell_by p5
  obtain ⟨Z, hZ⟩ : ∃ Z, Z = stC true s := ⟨_, rfl⟩
  have HRZ : Hid (∀ p : BelowBy w, p.to.rangeAt ag (i * 147) Z) := fun p => by rw [hZ]; exact range_step hs p.h
  have HLZ : Hid (Z.length = 147) := by rw [hZ]; exact stC_len _ _
  obtain ⟨V, hV⟩ : ∃ V, V = visC wk x' s := ⟨_, rfl⟩
  have HBV : Hid (Try.prog.built 69 [(0, vptr wk), (1, .agg #[.int .i64 x'.op, .int .i64 x'.r, .int .i64 x'.s, .int .i64 x'.k, .int .i64 x'.to, .int .u64 x'.n]), (2, .agg Z.toArray)] = some V.toArray) := by
    show _ = _
    rw [hZ, hV]
    exact built_vis wk x' s
  have EV := hid hV
  clear h hg hok hsl hs hx hx' hA hdm hZ hV
  haveI inhB : ∀ w : World, Inhabited (BelowBy w) := fun w => ⟨⟨w, Below.refl _ _⟩⟩
  go_enter Try.func11, Try.ntmps11
  go_upto_region 3 with fail
  refine wp_region_cutQ 16 (by kernel_rfl) (by kernel_rfl) ?_
  simp only [List.take_succ_cons, List.take_zero]
  iterate 15 go_big_quiet_step (fail)
  refine quiet_load_mid rfl 47 (.tmp 30) rfl ag (i * 147) rfl Z _ (by rintro _ ⟨p, rfl⟩; exact HRZ.out p) Try.underlying47 rfl (by rw [HLZ.out]; exact Try.sizeSt) ?_
  simp only [Act.put, List.setIfInBounds_toArray, List.set_cons_succ, List.set_cons_zero]
  refine wpQuiet_nil ?_
  intro wq hw'
  obtain ⟨⟨_, hwq⟩, hw''⟩ := hw'
  subst hw''
  simp only [List.drop_succ_cons, List.drop_zero]
  refine wpList_build_to rfl 69 #[(0, .tmp 16), (1, .tmp 24), (2, .tmp 31)] rfl V.toArray (by simpa [Act.eval] using HBV.out) ?_
  simp only [Act.put, List.setIfInBounds_toArray, List.set_cons_succ, List.set_cons_zero]
  obtain ⟨W4, hW4⟩ : ∃ W, W = wq.alloc (.cells V.toArray 69) := ⟨_, rfl⟩
  obtain ⟨vb, hvb⟩ : ∃ b, b = wq.heap.size := ⟨_, rfl⟩
  have hwk : WkAt wq wk ag m d A := HW.out.step hwq
  have HV4 : Hid (VisAt W4 vb wk d x' s) := by
    show VisAt W4 vb wk d x' s
    rw [hW4, hvb, EV.out]
    exact vis_new hwk x' s
  have b4 : Below wq.heap.size wq W4 := by rw [hW4]; exact bl_alloc (Below.refl _ _)
  have HW4 := hid (hwk.step b4)
  have HN4 : Hid (HRn ag w W4) := HRn.of (bl_step hwq b4)
  have HLV : Hid (w.heap.size ≤ vb ∧ ag < w.heap.size ∧ wk < w.heap.size) := ⟨by rw [hvb]; exact hwq.size, hal, hl⟩
  have HAP : Hid (∀ w', W4.heap.size ≤ w'.heap.size → VisAp w' vb wk d) := fun w' h' => vis_apart hwk (by omega) (Nat.le_trans b4.size h')
  have HWR := hid (hwrong HV4.out HG.out HSL.out)
  have E4 := hid hW4
  have EB := hid hvb
  clear hwk b4 hW4 hvb hwq c0 k2 k3 k2' k3' p0 p1 p2 p3 p4 p5 p0' p1' p2' p3' p4' p5' HRZ HLZ HBV EV hl hal hcl ea HW hii
  obtain ⟨C, hC⟩ : ∃ C, C = wrongD d.ts s x' := ⟨_, rfl⟩
  rw [← hC] at HWR
  have EC := hid hC
  clear hC
  go_wp2_with fail
  rw [← E4.out, ← EB.out]
  clear E4 EB
  refine HWR.out.mono ?_
  rintro e w5 ⟨rfl, hb5⟩
  have HV5 := hid (HV4.out.step hb5)
  have HW5 := hid (HW4.out.step hb5)
  have HN5 : Hid (HRn ag w w5) := HN4.out.trans (HRn.of hb5)
  have HS5 : Hid (W4.heap.size ≤ w5.heap.size) := hb5.size
  clear HWR hb5 HV4 HW4 HN4
  by_cases hc0 : C = 0
  case neg =>
    have hcb : (C != 0) = true := by simpa using hc0
    have HE : Hid (OverIs w wk ag m d (wrongD d.ts s x') (overA d.ts A i x' s) (.returned (.int .i64 C)) w5) := ⟨by rw [EC.out], fun e => absurd (EC.out.trans e) hc0, HN5.out⟩
    clear HV5 HW5 HN5 HS5 HAP HLV EC HG HOK HSL
    go_wp2
    go_ret
    exact HE.out
  subst hc0
  have HLD := hid (hleads HV5.out HG.out.op)
  obtain ⟨L, hL⟩ : ∃ L, L = hasT x'.op := ⟨_, rfl⟩
  rw [← hL] at HLD
  have EL := hid hL
  clear hL
  go_wp2_with fail
  refine HLD.out.mono ?_
  rintro e w6 ⟨rfl, hb6⟩
  have HV6 := hid (HV5.out.step hb6)
  have HW6 := hid (HW5.out.step hb6)
  have HN6 : Hid (HRn ag w w6) := HN5.out.trans (HRn.of hb6)
  have HS6 : Hid (W4.heap.size ≤ w6.heap.size) := Nat.le_trans HS5.out hb6.size
  clear HLD hb6 HV5 HW5 HN5 HS5
  obtain ⟨A1, hA1⟩ : ∃ A1, A1 = if hasT x'.op = true then putA A (i + 1 + x'.to.toNat) (joinO (A (i + 1 + x'.to.toNat)) s) else A := ⟨_, rfl⟩
  have EA1 := hid hA1
  clear hA1
  cases L
  case' true =>
    have hto := HG.out.leads EL.out.symm
    have hto0 := HG.out.jmp
    have i4 := HV6.out.i4
    have hlv := HV6.out.lt
    obtain ⟨tt, htt⟩ : ∃ t : Nat, x'.to = t := ⟨x'.to.toNat, by omega⟩
    rw [htt] at i4 hto
    have hw1 : IntKind.i64.wrap ((i : Int) + 1) = ((i + 1 : Nat) : Int) := by rw [gwrap_i _ (by omega) (by omega)]; omega
    obtain ⟨i1, hi1⟩ : ∃ n, n = i + 1 := ⟨_, rfl⟩
    rw [← hi1] at hw1
    have hw2 : IntKind.i64.wrap ((i1 : Int) + (tt : Int)) = ((i1 + tt : Nat) : Int) := by rw [gwrap_i _ (by omega) (by omega)]; omega
    obtain ⟨i2, hi2⟩ : ∃ n, n = i1 + tt := ⟨_, rfl⟩
    rw [← hi2] at hw2
    have h2m : i2 < m := by omega
    have EA2 : Hid (A1 = putA A i2 (joinO (A i2) s)) := by
      show _ = _
      rw [EA1.out, if_pos EL.out.symm, htt, Int.toNat_natCast, hi2, hi1]
    obtain ⟨Z, hZ⟩ : ∃ Z, Z = stO (some s) := ⟨_, rfl⟩
    have HLZ : Hid (Z.length = 147) := by rw [hZ]; exact stO_len _
    have HRZ : Hid (∀ p : BelowBy w6, p.to.rangeAt vb 7 Z) := fun p => by rw [hZ]; exact range_step HV6.out.st p.h
    have HLE : Hid (∀ w', Below w6.heap.size w6 w' → Calls Try.prog 23 #[vptr wk, .int .i64 (i2 : Int), .agg Z.toArray] w' (LeadIs w' wk ag m d (putA A i2 (joinO (A i2) s)))) := fun w' hb => by rw [hZ]; exact hlead (HW6.out.step hb) i2 h2m s
    rw [← EA2.out] at HLE
    have i4' := cell_by i4
    clear hZ hi1 hi2 htt hto hto0 h2m EA2
    go_wp2_with fail
    refine wp_region_cutQ 13 (by kernel_rfl) (by kernel_rfl) ?_
    simp only [List.take_succ_cons, List.take_zero]
    iterate 12 go_big_quiet_step (fail)
    refine quiet_load_mid rfl 47 (.tmp 52) rfl vb 7 rfl Z _ (by rintro _ ⟨p, rfl⟩; exact HRZ.out p) Try.underlying47 rfl (by rw [HLZ.out]; exact Try.sizeSt) ?_
    simp only [Act.put, List.setIfInBounds_toArray, List.set_cons_succ, List.set_cons_zero]
    refine wpQuiet_nil ?_
    intro wx hw'
    obtain ⟨⟨_, hwx⟩, hw''⟩ := hw'
    subst hw''
    simp only [List.drop_succ_cons, List.drop_zero]
    have HLX := hid (HLE.out wx hwx)
    have HVX := hid (HV6.out.step hwx)
    have HNX : Hid (HRn ag w wx) := HN6.out.trans (HRn.of hwx)
    have HWX := hid (HW6.out.step hwx)
    have HSX : Hid (W4.heap.size ≤ wx.heap.size) := Nat.le_trans HS6.out hwx.size
    clear i4 i4' hlv HLE HRZ HLZ hwx HV6 HW6 HN6 HS6
    go_wp2_with fail
    refine HLX.out.mono ?_
    rintro e w7 ⟨rfl, hw7, hr7⟩
    have HW7 := hid hw7
    have HV7 : Hid (VisAt w7 vb wk d x' s) := HVX.out.rn hr7 (by have := HLV.out; omega) HWX.out.ne HWX.out.ft HWX.out.fc
    have HN7 : Hid (HRn ag w w7) := HNX.out.trans hr7
    have HS7 : Hid (W4.heap.size ≤ w7.heap.size) := Nat.le_trans HSX.out hr7.size
    clear hw7 hr7 HLX HVX HNX HWX HSX hw1 hw2
    go_upto_region 9 with fail
  case' false =>
    have HW7 : Hid (WkAt w6 wk ag m d A1) := by
      show WkAt w6 wk ag m d A1
      rw [EA1.out, if_neg (by rw [← EL.out]; decide)]
      exact HW6.out
    have HV7 := HV6
    have HN7 := HN6
    have HS7 := HS6
    clear HV6 HW6 HN6 HS6
    go_upto_region 9 with fail
  all_goals
    have HGO := hid (hgoes HV7.out)
    obtain ⟨G, hG⟩ : ∃ G, G = goesD x' := ⟨_, rfl⟩
    rw [← hG] at HGO
    have EG := hid hG
    clear hG
    go_wp2_with fail
    refine HGO.out.mono ?_
    rintro e w8 ⟨rfl, hb8⟩
    have HV8 := hid (HV7.out.step hb8)
    have HW8 := hid (HW7.out.step hb8)
    have HN8 : Hid (HRn ag w w8) := HN7.out.trans (HRn.of hb8)
    have HS8 : Hid (W4.heap.size ≤ w8.heap.size) := Nat.le_trans HS7.out hb8.size
    clear HGO hb8 HV7 HW7 HN7 HS7
    cases G
    case false =>
      have HE : Hid (OverIs w wk ag m d (wrongD d.ts s x') (overA d.ts A i x' s) (.returned (.int .i64 0)) w8) := by
        refine ⟨by rw [← EC.out], fun _ => ?_, HN8.out⟩
        have e : overA d.ts A i x' s = A1 := by
          unfold overA
          rw [if_neg (by rw [← EG.out]; decide), ← EA1.out]
        rw [e]
        exact HW8.out
      clear HV8 HW8 HN8 HS8 HAP HLV EC HG HOK HSL EA1 EG EL
      go_wp2
      go_ret
      exact HE.out
    case true =>
      have hon := HG.out.on (by
        have := EG.out
        unfold goesD at this
        cases he : endsB x'.op
        · rfl
        · rw [he] at this; simp at this)
      have HBH := hid (hbehind HV8.out (HAP.out w8 HS8.out) HG.out HOK.out HSL.out)
      go_wp2_with fail
      refine HBH.out.mono ?_
      rintro e w9 ⟨rfl, hv9, hr9⟩
      have hap := HAP.out w8 HS8.out
      have HW9 : Hid (WkAt w9 wk ag m d A1) := HW8.out.rn hr9 (by omega) (by have := HLV.out; omega) hap.ne hap.ft hap.fc
      have HN9 : Hid (HRn ag w w9) := HN8.out.far hr9 HLV.out.1
      obtain ⟨S2, hS2⟩ : ∃ S, S = behindD d.ts s x' := ⟨_, rfl⟩
      rw [← hS2] at hv9
      obtain ⟨Z, hZ⟩ : ∃ Z, Z = stO (some S2) := ⟨_, rfl⟩
      have HLZ : Hid (Z.length = 147) := by rw [hZ]; exact stO_len _
      have HRZ : Hid (w9.rangeAt vb 7 Z) := by rw [hZ]; exact hv9.st
      have hlv := hv9.lt
      have hw1 : IntKind.i64.wrap ((i : Int) + 1) = ((i + 1 : Nat) : Int) := by rw [gwrap_i _ (by omega) (by omega)]; omega
      obtain ⟨i1, hi1⟩ : ∃ n, n = i + 1 := ⟨_, rfl⟩
      rw [← hi1] at hw1 hon
      have HLE : Hid (Calls Try.prog 23 #[vptr wk, .int .i64 (i1 : Int), .agg Z.toArray] w9 (LeadIs w9 wk ag m d (putA A1 i1 (joinO (A1 i1) S2)))) := by rw [hZ]; exact hlead HW9.out i1 hon S2
      have EO : Hid (overA d.ts A i x' s = putA A1 i1 (joinO (A1 i1) S2)) := by
        show _ = _
        unfold overA
        rw [if_pos EG.out.symm, ← EA1.out, hi1, hS2]
      clear HBH hv9 hr9 hap HV8 HW8 HN8 HS8 hZ hS2 hi1 HAP HLV HG HOK HSL EA1 EG EL
      go_wp2_with fail
      refine wp_load_mid 47 (.tmp 64) rfl vb 7 rfl Z _ HRZ.out Try.underlying47 rfl (by rw [HLZ.out]; exact Try.sizeSt) ?_
      clear HRZ HLZ hlv
      go_wp2_with fail
      refine HLE.out.mono ?_
      rintro e wz ⟨rfl, hwz, hrz⟩
      have HE : Hid (OverIs w wk ag m d (wrongD d.ts s x') (overA d.ts A i x' s) (.returned (.int .i64 0)) wz) := by
        refine ⟨by rw [← EC.out], fun _ => ?_, HN9.out.trans hrz⟩
        rw [EO.out]
        exact hwz
      clear HLE hwz hrz HW9 HN9 EC EO
      go_wp2
      go_ret
      exact HE.out
end Go.Proofs.Ytmohffibkpecpaa
