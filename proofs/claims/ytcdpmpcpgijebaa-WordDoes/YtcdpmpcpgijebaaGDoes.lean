/- every Check, Encode, Decode and Ends is as the document says: the walk of shuntyardlaw.WordDoes. -/
import Derived.Test.YtcdpmpcpgijebaaGRefP
import Derived.Test.YtcdpmpcpgijebaaGBack
namespace Go.Proofs.Ytcdpmpcpgijebaa
open Go.RowKit

theorem inss_two {slots : Int} {ts : List ShapeD} {m : Int} : ∀ {cs : List InsD} {i : Int}, (inssN slots ts m cs i).1 = 0 → (inssN slots ts m cs i).2 = 0 := by
  intro cs
  induction cs with
  | nil => intro i _; rfl
  | cons y r ih =>
    intro i h
    rw [inssN] at h ⊢
    by_cases h1 : insN slots ts m i y = 0
    · rw [if_pos h1] at h ⊢; exact ih h
    · rw [if_neg h1] at h; exact absurd h h1

theorem chk_two {slots : Int} {ts : List ShapeD} {cs : List InsD} (h : (chkW slots ts cs).1 = 0) : (chkW slots ts cs).2 = 0 := by
  unfold chkW at h ⊢
  by_cases h1 : (sizesN slots ts cs.length).1 ≠ 0
  · rw [if_pos h1] at h; exact absurd h h1
  rw [if_neg h1] at h ⊢
  by_cases h2 : (inssN slots ts cs.length cs 0).1 ≠ 0
  · rw [if_pos h2] at h; exact absurd h h2
  rw [if_neg h2] at h ⊢
  by_cases h3 : endsB ((cs[cs.length - 1]?.map InsD.op).getD 0) = true
  · rw [if_pos h3]
  · rw [if_neg h3] at h; simp at h

/-- what Decode and ProgramOf tell, in one form -/
def DecU (zs : List Int) (S : Int) (T : List ShapeD) (C : List InsD) (w : World) (e : Ending) (w' : World) : Prop := ∃ q : ProgD, e = .returned (.tuple #[q.v, .agg #[.int .i64 (decF zs).1, .int .i64 (decF zs).2]]) ∧ q.slots = S ∧ q.ts = T ∧ q.cs = C ∧ q.lie w' ∧ q.small ∧ Below w.heap.size w w'

theorem dec_two (zs : List Int) : ∃ S T C, ∀ w e w', GDecDone zs w e w' → DecU zs S T C w e w' := by
  by_cases h : (decF zs).1 = 0
  · refine ⟨slotsOf (zs.drop 3), tsOf (zs.drop 3), csOf (zs.drop 3), fun w e w' hd => ?_⟩
    rcases hd with ⟨h1, _⟩ | ⟨_, h2, q, e1, e2, e3, e4, e5, e6, e7⟩
    · exact absurd h h1
    · refine ⟨q, ?_, e2, e3, e4, e5, e6, e7⟩
      have h3 : (decF zs).2 = 0 := by
        have hF : decF zs = chkW (slotsOf (zs.drop 3)) (tsOf (zs.drop 3)) (csOf (zs.drop 3)) := by unfold decF; rw [if_neg (by rw [h2]; exact fun h => h rfl)]
        rw [hF] at h ⊢
        exact chk_two h
      rw [h, h3]
      exact e1
  · refine ⟨0, [], [], fun w e w' hd => ?_⟩
    rcases hd with ⟨_, e1, e2⟩ | ⟨h1, _⟩
    · exact ⟨nilD, e1, rfl, rfl, rfl, nil_lie w', ⟨Nat.zero_le _, Nat.zero_le _⟩, e2⟩
    · exact absurd h1 h

/-- what Encode tells, in one form -/
def EncU (d : ProgD) (L : List Int) (w : World) (e : Ending) (w' : World) : Prop := ∃ a c, e = .returned (.tuple #[.slice a L.length c, .agg #[.int .i64 (chkW d.slots d.ts d.cs).1, .int .i64 (chkW d.slots d.ts d.cs).2]]) ∧ Has .u8 w' a L.length L ∧ Below w.heap.size w w'

theorem enc_two (d : ProgD) : ∃ L, ((chkW d.slots d.ts d.cs).1 ≠ 0 → L = []) ∧ ((chkW d.slots d.ts d.cs).1 = 0 → L = gencL d.slots d.ts d.cs) ∧ ∀ w e w', GEncDone d w e w' → EncU d L w e w' := by
  by_cases h : (chkW d.slots d.ts d.cs).1 = 0
  · refine ⟨gencL d.slots d.ts d.cs, fun h1 => absurd h h1, fun _ => rfl, fun w e w' hd => ?_⟩
    rcases hd with ⟨h1, _⟩ | ⟨_, a, c, e1, e2, e3⟩
    · exact absurd h h1
    · exact ⟨a, c, by rw [h, chk_two h]; exact e1, e2.has genc_byt, e3⟩
  · refine ⟨[], fun _ => rfl, fun h1 => absurd h1 h, fun w e w' hd => ?_⟩
    rcases hd with ⟨_, e1, e2⟩ | ⟨h1, _⟩
    · exact ⟨none, 0, e1, has_nil _ _, e2⟩
    · exact absurd h1 h

/-- a box that is there, at any world behind -/
theorem box_by {w : World} {b : Nat} {cs : Array Value} {T : TypeId} {f : Nat × Nat} (h : w.heap[b]? = some (.cells cs T f)) {i : Nat} {v : Value} (hv : cs[i]? = some v) (p : BelowBy w) : p.to.cell? ⟨b, i, none⟩ = some v := cell_by ((gbox_cell h i).trans hv) p

theorem heap_keep {w w' : World} {b : Nat} {o : Obj} (h : w.heap[b]? = some o) (k : Below w.heap.size w w') : w'.heap[b]? = some o := (k.block b (Array.getElem?_eq_some_iff.1 h).1).trans h

set_option maxHeartbeats 16000000 in
set_option maxRecDepth 20000 in
theorem worddoes_main (d : ProgD) (a : Option Addr) (n c : Nat) (zs : List Int) (op : Int) (W : World) (hd : d.lie W) (hz : Has .u8 W a n zs) (hc : n ≤ c) (hcm : c ≤ maxLen) (hnil : a = none → n = 0 ∧ c = 0) : Calls Try.prog 3 #[d.v, .slice a n c, .int .i64 op] W (TellB true W) := by
  obtain ⟨W1, hW1⟩ : ∃ W1, W1 = W.alloc (.cells #[.int .i64 d.slots, .slice d.tabs.a d.tabs.n d.tabs.c, .slice d.code.a d.code.n d.code.c] 25) := ⟨_, rfl⟩
  obtain ⟨pb, hpb⟩ : ∃ b, b = W.heap.size := ⟨_, rfl⟩
  have PB : Hid (W1.heap[pb]? = some (.cells #[.int .i64 d.slots, .slice d.tabs.a d.tabs.n d.tabs.c, .slice d.code.a d.code.n d.code.c] 25 (0, 0))) := by show _ = _; rw [hW1, hpb]; exact galloc_at _ _ _
  have b1 : Below W.heap.size W W1 := by rw [hW1]; exact bl_alloc (Below.refl _ _)
  have B1 := hid b1
  have EW := hid hW1
  have EP := hid hpb
  have HBEG := hid (gbegun W1)
  have HGR := hid (fun w => ggreat d w)
  have HZ := hid hz
  have HC := hid hc
  have HCM := hid hcm
  have HD := hid hd
  have HNI := hid hnil
  obtain ⟨S, T, CC, hdu⟩ := dec_two zs
  obtain ⟨L, hL0, hL1, heu⟩ := enc_two d
  have HDU := hid hdu
  have HEU := hid heu
  have HL0 := hid hL0
  have HL1 := hid hL1
  dsimp only [ProgD.v] at HGR ⊢
  clear hW1 hpb b1 hz hc hcm hd hnil hdu heu hL0 hL1
  go_enter Try.func3, Try.ntmps3
  go_wp2_with fail
  rw [← EW.out, ← EP.out]
  refine HBEG.out.mono ?_
  rintro e w2 ⟨rfl, hb2⟩
  have B2 := hid (bl_step B1.out hb2)
  have PB2 := hid (heap_keep PB.out hb2)
  have p0 := gbox_cell PB2.out 0
  have p1 := gbox_cell PB2.out 1
  have p2 := gbox_cell PB2.out 2
  clear HBEG EW EP hb2 B1 PB
  go_wp2_with fail
  refine (HGR.out _).mono ?_
  rintro e w3 ⟨rfl, hb3⟩
  have B3 := hid (bl_step B2.out hb3)
  have PB3 := hid (heap_keep PB2.out hb3)
  clear HGR hb3 B2 PB2 p0 p1 p2
  by_cases hg : (decide (300 < (d.tabs.n : Int)) || decide (65000 < (d.code.n : Int))) = true
  · rw [hg]
    go_wp2
    go_ret
    exact ⟨rfl, B3.out⟩
  have hg' : (decide (300 < (d.tabs.n : Int)) || decide (65000 < (d.code.n : Int))) = false := by simpa using hg
  rw [hg']
  by_cases hn : (50000 : Int) < (n : Int)
  · go_wp2
    go_ret
    exact ⟨rfl, B3.out⟩
  have hsm : d.small := by
    simp only [Bool.or_eq_true, decide_eq_true_eq, not_or] at hg
    exact ⟨by omega, by omega⟩
  have HN : Hid (n ≤ 50000) := by show _ ≤ _; omega
  have HSM := hid hsm
  have HOW := hid (rown d w3 (HD.out.step B3.out) hsm)
  dsimp only [ProgD.v] at HOW
  have p0 := gbox_cell PB3.out 0
  have p1 := gbox_cell PB3.out 1
  have p2 := gbox_cell PB3.out 2
  clear hg hg' hsm
  go_wp2_with fail
  refine HOW.out.mono ?_
  clear p0 p1 p2
  rintro e w4 ⟨q, rfl, es, et, ec, hlq, hsq, hb4⟩
  obtain ⟨W5, hW5⟩ : ∃ W5, W5 = w4.alloc (.cells #[.int .i64 q.slots, .slice q.tabs.a q.tabs.n q.tabs.c, .slice q.code.a q.code.n q.code.c] 25) := ⟨_, rfl⟩
  obtain ⟨ob, hob⟩ : ∃ b, b = w4.heap.size := ⟨_, rfl⟩
  have b5 : Below w4.heap.size w4 W5 := by rw [hW5]; exact bl_alloc (Below.refl _ _)
  have OB5 : Hid (W5.heap[ob]? = some (.cells #[.int .i64 q.slots, .slice q.tabs.a q.tabs.n q.tabs.c, .slice q.code.a q.code.n q.code.c] 25 (0, 0))) := by show _ = _; rw [hW5, hob]; exact galloc_at _ _ _
  have PB5 := hid (heap_keep (heap_keep PB3.out hb4) b5)
  have B5 := hid (bl_step (bl_step B3.out hb4) b5)
  have HQ5 := hid (hlq.step b5)
  have HSQ := hid hsq
  have ES := hid es
  have ET := hid et
  have EC := hid ec
  have EW5 := hid hW5
  have EOB := hid hob
  clear HOW B3 PB3 hlq hsq hb4 b5 hW5 hob es et ec
  go_upto_region 6 with fail
  rw [← EW5.out, ← EOB.out]
  clear EW5 EOB
  have HZ5 := hid (HZ.out.step B5.out)
  go_upto_region 7 with (at_builtin; refine copy_law rfl _ _ rfl rfl _ _ _ zs rfl HNI.out ?c1 ?c2 ?_)
  case c1 => exact HZ5.out
  case c2 => have := HN.out; omega
  intro v6 w6 ho6 hb6
  obtain ⟨a6, c6, rfl, hh6⟩ := has_of_owns8 ho6 HZ.out.bytes
  have hcap : n ≤ c6 ∧ c6 ≤ maxLen := by
    rcases ho6.2 with ⟨e, e2⟩ | ⟨g, cap, cur, e, _, _, h1, h2, _⟩
    · simp only [Value.slice.injEq] at e
      exact ⟨by omega, by unfold maxLen; omega⟩
    · simp only [Value.slice.injEq] at e
      rw [← e.2.2] at h1 h2
      exact ⟨h1, h2⟩
  have HCAP := hid hcap
  obtain ⟨F1, hF1⟩ : ∃ f, f = (chkW d.slots d.ts d.cs).1 := ⟨_, rfl⟩
  obtain ⟨F2, hF2⟩ : ∃ f, f = (chkW d.slots d.ts d.cs).2 := ⟨_, rfl⟩
  obtain ⟨D1, hD1⟩ : ∃ f, f = (decF zs).1 := ⟨_, rfl⟩
  obtain ⟨D2, hD2⟩ : ∃ f, f = (decF zs).2 := ⟨_, rfl⟩
  have EF1 := hid hF1
  have HZ6 := hid hh6
  have B6 := hid (bl_step B5.out hb6)
  have PB6 := hid (heap_keep PB5.out hb6)
  have OB6 := hid (heap_keep OB5.out hb6)
  have HQ6 := hid (HQ5.out.step hb6)
  have HRF := hid (rfault d w6 (HD.out.step B6.out) HSM.out)
  have HENC : Hid (∀ w', Below w6.heap.size w6 w' → Calls Try.prog 10 #[q.v] w' (EncU d L w')) := fun w' h => (gencode q w' (HQ6.out.step h) HSQ.out).mono fun e w'' hh => HEU.out w' e w'' (by unfold GEncDone at hh ⊢; rw [ES.out, ET.out, EC.out] at hh; exact hh)
  have HDEC : Hid (∀ w', Below w6.heap.size w6 w' → Calls Try.prog 11 #[.slice a6 n c6] w' (DecU zs S T CC w')) := fun w' h => (gdecode a6 n c6 zs w' (HZ6.out.step h) HCAP.out.1 HCAP.out.2 (by have := HN.out; omega)).mono fun e w'' hh => HDU.out w' e w'' hh
  have HPOF : Hid (∀ w', Below w6.heap.size w6 w' → Calls Try.prog 12 #[.slice a n c] w' (DecU zs S T CC w')) := fun w' h => (rprogOf a n c zs w' (HZ.out.step (bl_step B6.out h)) HC.out HCM.out (by have := HN.out; omega)).mono fun e w'' hh => HDU.out w' e w'' hh
  have HCHK : Hid (∀ w', Below w6.heap.size w6 w' → Calls Try.prog 13 #[q.v] w' (TellF (chkW d.slots d.ts d.cs) w')) := fun w' h => by
    have := gcheck q w' (HQ6.out.step h) HSQ.out
    rw [ES.out, ET.out, EC.out] at this
    exact this
  unfold TellF at HRF HCHK
  unfold EncU at HENC
  unfold DecU at HDEC HPOF
  rw [← hF1, ← hF2] at HRF HCHK HENC
  rw [← hD1, ← hD2] at HDEC HPOF
  dsimp only [ProgD.v] at HRF HENC HCHK
  have p0 := gbox_cell PB6.out 0
  have p1 := gbox_cell PB6.out 1
  have p2 := gbox_cell PB6.out 2
  clear hh6 hcap ho6 hb6 B5 PB5 OB5 HQ5 HZ5 hF1 hF2 hD1 hD2
  go_wp2_with fail
  refine HRF.out.mono ?_
  rintro e w7 ⟨rfl, hb7⟩
  clear p0 p1 p2 HRF
  obtain ⟨W8, hW8⟩ : ∃ W8, W8 = w7.alloc (.cells #[.int .i64 F1, .int .i64 F2] 31) := ⟨_, rfl⟩
  obtain ⟨wb, hwb⟩ : ∃ b, b = w7.heap.size := ⟨_, rfl⟩
  have b8 : Below w6.heap.size w6 W8 := by rw [hW8]; exact bl_alloc hb7
  have WB8 : W8.heap[wb]? = some (.cells #[.int .i64 F1, .int .i64 F2] 31 (0, 0)) := by rw [hW8, hwb]; exact galloc_at _ _ _
  have HWB8 := hid WB8
  have H8 := hid b8
  have OB8 := hid (heap_keep OB6.out b8)
  have p0 := gbox_cell OB8.out 0
  have p1 := gbox_cell OB8.out 1
  have p2 := gbox_cell OB8.out 2
  have EW8 := hid hW8
  have EWB := hid hwb
  have HE8 := hid (HENC.out W8 b8)
  clear hb7 hW8 hwb b8 WB8 HENC
  go_upto_region 8 with fail
  rw [← EW8.out, ← EWB.out]
  clear EW8 EWB
  go_wp2_with fail
  refine HE8.out.mono ?_
  rintro e w9 ⟨a9, c9, rfl, hh9, hb9⟩
  clear p0 p1 p2 HE8
  obtain ⟨W10, hW10⟩ : ∃ W, W = w9.alloc (.cells #[.int .i64 F1, .int .i64 F2] 31) := ⟨_, rfl⟩
  obtain ⟨eb, heb⟩ : ∃ b, b = w9.heap.size := ⟨_, rfl⟩
  have b10 : Below W8.heap.size W8 W10 := by rw [hW10]; exact bl_alloc hb9
  have EB10 : W10.heap[eb]? = some (.cells #[.int .i64 F1, .int .i64 F2] 31 (0, 0)) := by rw [hW10, heb]; exact galloc_at _ _ _
  have HEB10 := hid EB10
  have HWB10 := hid (heap_keep HWB8.out b10)
  have H10 := hid (bl_step H8.out b10)
  have HX10 := hid (hh9.step (show Below w9.heap.size w9 W10 by rw [hW10]; exact bl_alloc (Below.refl _ _)))
  have EW10 := hid hW10
  have EEB := hid heb
  have HD10 := hid (HDEC.out W10 H10.out)
  clear hh9 hb9 hW10 heb b10 EB10 HDEC H8 HWB8
  go_upto_region 9 with fail
  rw [← EW10.out, ← EEB.out]
  clear EW10 EEB
  go_wp2_with fail
  refine HD10.out.mono ?_
  rintro e w11 ⟨x, rfl, xs, xt, xc, xl, xm, hb11⟩
  clear HD10
  obtain ⟨W12, hW12⟩ : ∃ W, W = (w11.alloc (.cells #[.int .i64 x.slots, .slice x.tabs.a x.tabs.n x.tabs.c, .slice x.code.a x.code.n x.code.c] 25)).alloc (.cells #[.int .i64 D1, .int .i64 D2] 31) := ⟨_, rfl⟩
  obtain ⟨xb, hxb⟩ : ∃ b, b = w11.heap.size := ⟨_, rfl⟩
  obtain ⟨gb, hgb⟩ : ∃ b, b = w11.heap.size + 1 := ⟨_, rfl⟩
  have b12' : Below w11.heap.size w11 W12 := by rw [hW12]; exact bl_alloc (bl_alloc (Below.refl _ _))
  have b12 := bl_step hb11 b12'
  have HXB12 : Hid (W12.heap[xb]? = some (.cells #[.int .i64 x.slots, .slice x.tabs.a x.tabs.n x.tabs.c, .slice x.code.a x.code.n x.code.c] 25 (0, 0))) := by
    show _ = _
    rw [hW12, hxb]
    exact heap_keep (galloc_at w11 _ _) (bl_alloc (Below.refl _ _))
  have HGB12 : Hid (W12.heap[gb]? = some (.cells #[.int .i64 D1, .int .i64 D2] 31 (0, 0))) := by
    show _ = _
    rw [hW12, hgb]
    have := galloc_at (w11.alloc (.cells #[.int .i64 x.slots, .slice x.tabs.a x.tabs.n x.tabs.c, .slice x.code.a x.code.n x.code.c] 25)) #[.int .i64 D1, .int .i64 D2] 31
    simpa using this
  have HEB12 := hid (heap_keep HEB10.out b12)
  have HWB12 := hid (heap_keep HWB10.out b12)
  have H12 := hid (bl_step H10.out b12)
  have HX12 := hid (HX10.out.step b12)
  have XL12 := hid (xl.step b12')
  have XM := hid xm
  have XS := hid xs
  have XT := hid xt
  have XC := hid xc
  have EW12 := hid hW12
  have EXB := hid hxb
  have EGB := hid hgb
  have HP12 := hid (HPOF.out W12 H12.out)
  clear hb11 hW12 hxb hgb b12 b12' xl xm xs xt xc HPOF HEB10 HWB10 H10 HX10
  go_upto_region 10 with fail
  rw [← EW12.out, ← EGB.out, ← EXB.out]
  clear EW12 EGB EXB
  go_wp2_with fail
  refine HP12.out.mono ?_
  rintro e w13 ⟨y, rfl, ys, yt, yc, yl, ym, hb13⟩
  clear HP12
  obtain ⟨W14, hW14⟩ : ∃ W, W = (w13.alloc (.cells #[.int .i64 y.slots, .slice y.tabs.a y.tabs.n y.tabs.c, .slice y.code.a y.code.n y.code.c] 25)).alloc (.cells #[.int .i64 D1, .int .i64 D2] 31) := ⟨_, rfl⟩
  obtain ⟨yb, hyb⟩ : ∃ b, b = w13.heap.size := ⟨_, rfl⟩
  obtain ⟨hb, hhb⟩ : ∃ b, b = w13.heap.size + 1 := ⟨_, rfl⟩
  have b14' : Below w13.heap.size w13 W14 := by rw [hW14]; exact bl_alloc (bl_alloc (Below.refl _ _))
  have b14 := bl_step hb13 b14'
  have YB : W14.heap[yb]? = some (.cells #[.int .i64 y.slots, .slice y.tabs.a y.tabs.n y.tabs.c, .slice y.code.a y.code.n y.code.c] 25 (0, 0)) := by
    rw [hW14, hyb]
    exact heap_keep (galloc_at w13 _ _) (bl_alloc (Below.refl _ _))
  have HB14 : W14.heap[hb]? = some (.cells #[.int .i64 D1, .int .i64 D2] 31 (0, 0)) := by
    rw [hW14, hhb]
    have := galloc_at (w13.alloc (.cells #[.int .i64 y.slots, .slice y.tabs.a y.tabs.n y.tabs.c, .slice y.code.a y.code.n y.code.c] 25)) #[.int .i64 D1, .int .i64 D2] 31
    simpa using this
  have H14 := bl_step H12.out b14
  have XB := heap_keep HXB12.out b14
  have GB := heap_keep HGB12.out b14
  have EB := heap_keep HEB12.out b14
  have WB := heap_keep HWB12.out b14
  have OB := heap_keep OB6.out H14
  have PB := heap_keep PB6.out H14
  have B14 := hid (bl_step B6.out H14)
  have HX14 := hid (HX12.out.step b14)
  have HCK : Hid (∀ p : BelowBy W14, Calls Try.prog 13 #[.agg #[.int .i64 q.slots, .slice q.tabs.a q.tabs.n q.tabs.c, .slice q.code.a q.code.n q.code.c]] p.to fun e w' => e = .returned (.agg #[.int .i64 F1, .int .i64 F2]) ∧ Below p.to.heap.size p.to w') := fun p => HCHK.out p.to (bl_step H14 p.h)
  have HS1 : Hid (∀ p : BelowBy W14, Calls Try.prog 14 #[.agg #[.int .i64 x.slots, .slice x.tabs.a x.tabs.n x.tabs.c, .slice x.code.a x.code.n x.code.c], .agg #[.int .i64 y.slots, .slice y.tabs.a y.tabs.n y.tabs.c, .slice y.code.a y.code.n y.code.c]] p.to (TellB true p.to)) := fun p => gsame x y p.to (XL12.out.step (bl_step b14 p.h)) (yl.step (bl_step b14' p.h)) (by rw [XS.out, ys]) (by rw [XT.out, yt]) (by rw [XC.out, yc]) XM.out
  have HS2 : Hid (∀ p : BelowBy W14, Calls Try.prog 14 #[.agg #[.int .i64 q.slots, .slice q.tabs.a q.tabs.n q.tabs.c, .slice q.code.a q.code.n q.code.c], .agg #[.int .i64 d.slots, .slice d.tabs.a d.tabs.n d.tabs.c, .slice d.code.a d.code.n d.code.c]] p.to (TellB true p.to)) := fun p => gsame q d p.to (HQ6.out.step (bl_step H14 p.h)) (HD.out.step (bl_step B14.out p.h)) ES.out ET.out EC.out HSQ.out
  have HSB : Hid (∀ p : BelowBy W14, Calls Try.prog 15 #[.slice a6 n c6, .slice a n c] p.to fun e w' => e = .returned (.bool true) ∧ w' = p.to) := fun p => same_bytes c6 c (HZ6.out.step (bl_step H14 p.h)) (HZ.out.step (bl_step B14.out p.h))
  have HEN : Hid (∀ p : BelowBy W14, Calls Try.prog 16 #[.int .i64 op] p.to fun e w' => e = .returned (.bool (endsB op)) ∧ w' = p.to) := fun p => gends op p.to
  have EW14 := hid hW14
  have EYB := hid hyb
  have EHB := hid hhb
  have HWBB := hid WB
  have HPBB := hid PB
  have jo0 := fun p => box_by OB (i := 0) rfl p
  have jo1 := fun p => box_by OB (i := 1) rfl p
  have jo2 := fun p => box_by OB (i := 2) rfl p
  have jp0 := fun p => box_by PB (i := 0) rfl p
  have jp1 := fun p => box_by PB (i := 1) rfl p
  have jp2 := fun p => box_by PB (i := 2) rfl p
  have jx0 := fun p => box_by XB (i := 0) rfl p
  have jx1 := fun p => box_by XB (i := 1) rfl p
  have jx2 := fun p => box_by XB (i := 2) rfl p
  have jy0 := fun p => box_by YB (i := 0) rfl p
  have jy1 := fun p => box_by YB (i := 1) rfl p
  have jy2 := fun p => box_by YB (i := 2) rfl p
  have je0 := fun p => box_by EB (i := 0) rfl p
  have je1 := fun p => box_by EB (i := 1) rfl p
  have jf0 := fun p => box_by WB (i := 0) rfl p
  have jf1 := fun p => box_by WB (i := 1) rfl p
  have jg0 := fun p => box_by GB (i := 0) rfl p
  have jg1 := fun p => box_by GB (i := 1) rfl p
  have jh0 := fun p => box_by HB14 (i := 0) rfl p
  have jh1 := fun p => box_by HB14 (i := 1) rfl p
  clear hb13 hW14 hyb hhb b14 b14' yl ym ys yt yc H14 XB GB EB WB OB PB YB HB14 HCHK OB6 PB6 HXB12 HGB12 HEB12 HWB12 H12 HX12 XL12 XM XS XT XC OB8 HQ6 HZ6
  go_upto_region 11 with fail
  rw [← EW14.out, ← EHB.out, ← EYB.out]
  clear EW14 EHB EYB
  haveI inhB : ∀ w : World, Inhabited (BelowBy w) := fun w => ⟨⟨w, Below.refl _ _⟩⟩
  by_cases o16 : op = 16
  · subst o16
    rw [show endsB 16 = true from rfl] at HEN
    refine wp_region_quiet_below (by kernel_rfl) (by kernel_rfl) ?_
    repeat (go_big_quiet_step (first | (go_at_call 13; exact calls_below _ (HCK.out _)) | (go_at_call 14; with_reducible exact calls_below _ (HS1.out _)) | (go_at_call 14; with_reducible exact calls_below _ (HS2.out _)) | (go_at_call 15; exact calls_same _ (HSB.out _)) | (go_at_call 16; exact calls_same _ (HEN.out _))))
    refine wpQuiet_nil ?_
    intro wq hw'
    obtain ⟨⟨_, hwq⟩, hw''⟩ := hw'
    subst hw''
    have f0 := cell_keep (gbox_cell HWBB.out 0) hwq
    have f1 := cell_keep (gbox_cell HWBB.out 1) hwq
    have p0 := cell_keep (gbox_cell HPBB.out 0) hwq
    have p1 := cell_keep (gbox_cell HPBB.out 1) hwq
    have p2 := cell_keep (gbox_cell HPBB.out 2) hwq
    have BQ := hid (bl_step B14.out hwq)
    have XQ := hid (HX14.out.step hwq)
    clear hwq HCK HS1 HS2 HSB HEN jo0 jo1 jo2 jp0 jp1 jp2 jx0 jx1 jx2 jy0 jy1 jy2 je0 je1 jf0 jf1 jg0 jg1 jh0 jh1 inhB
    by_cases hf : F1 = 0
    · have e0 : (F1 != 0) = false := by simpa using hf
      have e1 : (F1 == 0) = true := by simpa using hf
      have eC : (chkW d.slots d.ts d.cs).1 = 0 := by rw [← EF1.out]; exact hf
      have eL := HL1.out eC
      have HRB := hid (rbytes d wq (HD.out.step BQ.out) (chk_fit HD.out.wfs eC))
      rw [← eL] at HRB
      dsimp only [ProgD.v] at HRB
      clear hf eC eL
      go_wp2_with fail
      refine HRB.out.mono ?_
      rintro e w15 ⟨a15, c15, rfl, hrow, hb15⟩
      have hh := hrow.has XQ.out.byt
      have HSB2 := hid (same_bytes c9 c15 (XQ.out.step hb15) hh)
      have BZ := hid (bl_step BQ.out hb15)
      clear hrow hh hb15 HRB p0 p1 p2
      go_wp2_with fail
      refine HSB2.out.mono ?_
      rintro e w16 ⟨rfl, rfl⟩
      clear HSB2
      go_wp2
      go_ret
      exact ⟨rfl, BZ.out⟩
    · have e0 : (F1 != 0) = true := by simpa using hf
      have hL : L.length = 0 := by rw [HL0.out (by rw [← EF1.out]; exact hf)]; rfl
      rw [hL]
      clear hL hf XQ
      go_wp2
      go_ret
      exact ⟨rfl, BQ.out⟩
  by_cases o17 : op = 17
  · subst o17
    rw [show endsB 17 = true from rfl] at HEN
    refine wp_region_quiet_below (by kernel_rfl) (by kernel_rfl) ?_
    repeat (go_big_quiet_step (first | (go_at_call 13; exact calls_below _ (HCK.out _)) | (go_at_call 14; with_reducible exact calls_below _ (HS1.out _)) | (go_at_call 14; with_reducible exact calls_below _ (HS2.out _)) | (go_at_call 15; exact calls_same _ (HSB.out _)) | (go_at_call 16; exact calls_same _ (HEN.out _))))
    refine wpQuiet_nil ?_
    intro wq hw'
    obtain ⟨⟨_, hwq⟩, hw''⟩ := hw'
    subst hw''
    have f0 := cell_keep (gbox_cell HWBB.out 0) hwq
    have f1 := cell_keep (gbox_cell HWBB.out 1) hwq
    have p0 := cell_keep (gbox_cell HPBB.out 0) hwq
    have p1 := cell_keep (gbox_cell HPBB.out 1) hwq
    have p2 := cell_keep (gbox_cell HPBB.out 2) hwq
    have BQ := hid (bl_step B14.out hwq)
    have XQ := hid (HX14.out.step hwq)
    clear hwq HCK HS1 HS2 HSB HEN jo0 jo1 jo2 jp0 jp1 jp2 jx0 jx1 jx2 jy0 jy1 jy2 je0 je1 jf0 jf1 jg0 jg1 jh0 jh1 inhB
    by_cases hf : F1 = 0
    · have e0 : (F1 != 0) = false := by simpa using hf
      have e1 : (F1 == 0) = true := by simpa using hf
      have eC : (chkW d.slots d.ts d.cs).1 = 0 := by rw [← EF1.out]; exact hf
      have eL := HL1.out eC
      have HRB := hid (rbytes d wq (HD.out.step BQ.out) (chk_fit HD.out.wfs eC))
      rw [← eL] at HRB
      dsimp only [ProgD.v] at HRB
      clear hf eC eL
      go_wp2_with fail
      refine HRB.out.mono ?_
      rintro e w15 ⟨a15, c15, rfl, hrow, hb15⟩
      have hh := hrow.has XQ.out.byt
      have HSB2 := hid (same_bytes c9 c15 (XQ.out.step hb15) hh)
      have BZ := hid (bl_step BQ.out hb15)
      clear hrow hh hb15 HRB p0 p1 p2
      go_wp2_with fail
      refine HSB2.out.mono ?_
      rintro e w16 ⟨rfl, rfl⟩
      clear HSB2
      go_wp2
      go_ret
      exact ⟨rfl, BZ.out⟩
    · have e0 : (F1 != 0) = true := by simpa using hf
      have hL : L.length = 0 := by rw [HL0.out (by rw [← EF1.out]; exact hf)]; rfl
      rw [hL]
      clear hL hf XQ
      go_wp2
      go_ret
      exact ⟨rfl, BQ.out⟩
  have d16 : (op == 16) = false := by simpa using o16
  have d17 : (op == 17) = false := by simpa using o17
  rw [show endsB op = false by simp [endsB, o16, o17]] at HEN
  clear o16 o17
  refine wp_region_quiet_below (by kernel_rfl) (by kernel_rfl) ?_
  repeat (go_big_quiet_step (first | (go_at_call 13; exact calls_below _ (HCK.out _)) | (go_at_call 14; with_reducible exact calls_below _ (HS1.out _)) | (go_at_call 14; with_reducible exact calls_below _ (HS2.out _)) | (go_at_call 15; exact calls_same _ (HSB.out _)) | (go_at_call 16; exact calls_same _ (HEN.out _))))
  refine wpQuiet_nil ?_
  intro wq hw'
  obtain ⟨⟨_, hwq⟩, hw''⟩ := hw'
  subst hw''
  have f0 := cell_keep (gbox_cell HWBB.out 0) hwq
  have f1 := cell_keep (gbox_cell HWBB.out 1) hwq
  have p0 := cell_keep (gbox_cell HPBB.out 0) hwq
  have p1 := cell_keep (gbox_cell HPBB.out 1) hwq
  have p2 := cell_keep (gbox_cell HPBB.out 2) hwq
  have BQ := hid (bl_step B14.out hwq)
  have XQ := hid (HX14.out.step hwq)
  clear hwq HCK HS1 HS2 HSB HEN jo0 jo1 jo2 jp0 jp1 jp2 jx0 jx1 jx2 jy0 jy1 jy2 je0 je1 jf0 jf1 jg0 jg1 jh0 jh1 inhB
  by_cases hf : F1 = 0
  · have e0 : (F1 != 0) = false := by simpa using hf
    have e1 : (F1 == 0) = true := by simpa using hf
    have eC : (chkW d.slots d.ts d.cs).1 = 0 := by rw [← EF1.out]; exact hf
    have eL := HL1.out eC
    have HRB := hid (rbytes d wq (HD.out.step BQ.out) (chk_fit HD.out.wfs eC))
    rw [← eL] at HRB
    dsimp only [ProgD.v] at HRB
    clear hf eC eL
    go_wp2_with fail
    refine HRB.out.mono ?_
    rintro e w15 ⟨a15, c15, rfl, hrow, hb15⟩
    have hh := hrow.has XQ.out.byt
    have HSB2 := hid (same_bytes c9 c15 (XQ.out.step hb15) hh)
    have BZ := hid (bl_step BQ.out hb15)
    clear hrow hh hb15 HRB p0 p1 p2
    go_wp2_with fail
    refine HSB2.out.mono ?_
    rintro e w16 ⟨rfl, rfl⟩
    clear HSB2
    go_wp2
    go_ret
    exact ⟨rfl, BZ.out⟩
  · have e0 : (F1 != 0) = true := by simpa using hf
    have hL : L.length = 0 := by rw [HL0.out (by rw [← EF1.out]; exact hf)]; rfl
    rw [hL]
    clear hL hf XQ
    go_wp2
    go_ret
    exact ⟨rfl, BQ.out⟩
end Go.Proofs.Ytcdpmpcpgijebaa
