/- Texts of one chain, joined: GChk, GBox, HDef. -/
import Derived.Test.YtmohffibkpecpaaVGFits
import Derived.Test.YtmohffibkpecpaaJ2
namespace Go.Proofs.Ytmohffibkpecpaa
open Go.RowKit

/-- it tells a fault, and nothing old has turned -/
def TellF (f : Int × Int) (w : World) (e : Ending) (w' : World) : Prop := e = .returned (.agg #[.int .i64 f.1, .int .i64 f.2]) ∧ Below w.heap.size w w'

theorem shapes_skip (ts : List ShapeD) : ∀ (j : Nat) (i : Int), (∀ k t, k < j → ts[k]? = some t → shapeB t = true) → shapesN ts i = shapesN (ts.drop j) (i + j) := by
  induction ts with
  | nil => intro j i _; simp [shapesN]
  | cons t r ih =>
    intro j i h
    cases j with
    | zero => simp
    | succ j =>
      have h0 := h 0 t (by omega) rfl
      rw [shapesN, if_pos h0, ih j (i + 1) (fun k u hk hu => h (k + 1) u (by omega) (by simpa using hu)), List.drop_succ_cons]
      congr 1
      omega

theorem shapes_bad {ts : List ShapeD} {j : Nat} {t : ShapeD} (h : ∀ k t, k < j → ts[k]? = some t → shapeB t = true) (ht : ts[j]? = some t) (hb : shapeB t = false) : shapesN ts 0 = (1, -2 - (j : Int)) := by
  obtain ⟨hj, e⟩ := List.getElem?_eq_some_iff.1 ht
  rw [shapes_skip ts j 0 h, List.drop_eq_getElem_cons hj, e, shapesN, hb, if_neg (by decide)]
  congr 1
  omega

theorem shapes_good {ts : List ShapeD} (h : ∀ k t, k < ts.length → ts[k]? = some t → shapeB t = true) : shapesN ts 0 = (0, 0) := by
  rw [shapes_skip ts ts.length 0 h, List.drop_length, shapesN]

theorem inss_skip (slots : Int) (ts : List ShapeD) (m : Int) (cs : List InsD) : ∀ (j : Nat) (i : Int), (∀ (k : Nat) t, k < j → cs[k]? = some t → insN slots ts m (i + k) t = 0) → inssN slots ts m cs i = inssN slots ts m (cs.drop j) (i + j) := by
  induction cs with
  | nil => intro j i _; simp [inssN]
  | cons t r ih =>
    intro j i h
    cases j with
    | zero => simp
    | succ j =>
      have h0 : insN slots ts m i t = 0 := by have := h 0 t (by omega) rfl; simpa using this
      rw [inssN, if_pos h0, ih j (i + 1) (fun k u hk hu => by
        have := h (k + 1) u (by omega) (by simpa using hu)
        rw [← this]
        congr 1
        omega), List.drop_succ_cons]
      congr 1
      omega

theorem inss_bad {slots : Int} {ts : List ShapeD} {m : Int} {cs : List InsD} {j : Nat} {t : InsD} (h : ∀ (k : Nat) t, k < j → cs[k]? = some t → insN slots ts m k t = 0) (ht : cs[j]? = some t) (hb : insN slots ts m j t ≠ 0) : inssN slots ts m cs 0 = (insN slots ts m j t, (j : Int)) := by
  obtain ⟨hj, e⟩ := List.getElem?_eq_some_iff.1 ht
  rw [inss_skip slots ts m cs j 0 (fun k t hk ht => by rw [Int.zero_add]; exact h k t hk ht), List.drop_eq_getElem_cons hj, e, inssN, Int.zero_add, if_neg hb]

theorem inss_good {slots : Int} {ts : List ShapeD} {m : Int} {cs : List InsD} (h : ∀ (k : Nat) t, k < cs.length → cs[k]? = some t → insN slots ts m k t = 0) : inssN slots ts m cs 0 = (0, 0) := by
  rw [inss_skip slots ts m cs cs.length 0 (fun k t hk ht => by rw [Int.zero_add]; exact h k t hk ht), List.drop_length, inssN]

theorem inB_iff {n a b : Int} : inB n a b = true ↔ a ≤ n ∧ n ≤ b := by simp [inB]

theorem shapes_all : ∀ {ts : List ShapeD} {i : Int}, (shapesN ts i).1 = 0 → ∀ t ∈ ts, shapeB t = true := by
  intro ts
  induction ts with
  | nil => intro i _ t ht; simp at ht
  | cons x r ih =>
    intro i h t ht
    rw [shapesN] at h
    by_cases hx : shapeB x = true
    · rw [if_pos hx] at h
      rcases List.mem_cons.1 ht with rfl | ht
      · exact hx
      · exact ih h t ht
    · rw [if_neg hx] at h
      simp at h

theorem sizes_ok {d : ProgD} (h1 : d.ts.length = d.tabs.n) (h2 : d.cs.length = d.code.n) (h : (sizesN d.slots d.ts d.cs.length).1 = 0) : OkSz d := by
  unfold sizesN at h
  by_cases a1 : inB d.slots 0 96 = false
  · rw [if_pos a1] at h; exact absurd h (by decide)
  · rw [if_neg a1] at h
    have a1' := inB_iff.1 (by simpa using a1)
    by_cases a2 : (decide (5 < (d.ts.length : Int)) || !inB d.cs.length 1 60000) = true
    · rw [if_pos a2] at h; exact absurd h (by decide)
    · rw [if_neg a2] at h
      simp only [Bool.or_eq_true, decide_eq_true_eq, Bool.not_eq_true', not_or, Bool.not_eq_false] at a2
      have a3 := inB_iff.1 a2.2
      refine ⟨a1'.1, a1'.2, by omega, by omega, by omega, fun t ht => ?_⟩
      have := shapes_all h t ht
      unfold shapeB at this
      simp only [Bool.and_eq_true, inB_iff] at this
      exact ⟨this.1.1.1, this.1.1.2, this.2.1, this.2.2⟩

set_option maxHeartbeats 4000000 in
set_option maxRecDepth 20000 in
theorem gwrongSizes (d : ProgD) (w : World) (hl : d.lie w) (hm : d.small) : Calls Try.prog 18 #[d.v] w (TellF (sizesN d.slots d.ts d.cs.length) w) := by
  have HW := hid (fun n a b w => gwithin n a b w)
  have HS := hid (fun d w => gisShape d w)
  have h1 : d.ts.length = d.tabs.n := hl.t.1
  have h2 : d.cs.length = d.code.n := hl.c.1
  obtain ⟨hm1, hm2⟩ := hm
  have HT : Hid (∀ c a w', (c, a) = sizesN d.slots d.ts d.cs.length → Below w.heap.size w w' → TellF (sizesN d.slots d.ts d.cs.length) w (.returned (.agg #[.int .i64 c, .int .i64 a])) w') := fun c a w' e h => ⟨by rw [← e], h⟩
  have HB : Hid (Below w.heap.size w ((w.alloc (.cells #[.int .i64 d.slots, .slice d.tabs.a d.tabs.n d.tabs.c, .slice d.code.a d.code.n d.code.c] 25)).alloc (.cells #[.int .i64 0, .int .i64 0] 30))) := bl_alloc (bl_alloc (Below.refl _ _))
  by_cases a1 : inB d.slots 0 96 = false
  · have E : Hid ((1, -1) = sizesN d.slots d.ts d.cs.length) := by show _ = _; unfold sizesN; rw [if_pos a1]
    have EA := hid a1
    have HE := hid (fun w' h => HT.out 1 (-1) w' E.out h)
    clear a1 hl h1 h2 HT E HS
    go_enter Try.func18, Try.ntmps18
    go_wp2_with fail
    refine (HW.out _ _ _ _).mono ?_
    rintro e w1 ⟨rfl, rfl⟩
    rw [EA.out]
    go_wp2
    exact bodyPost_ret (v := .agg #[.int .i64 1, .int .i64 (-1)]) (by simp [results, Try.results18, go_sem, *]) rfl (HE.out _ (by first | exact HB.out | exact (bl_alloc (bl_alloc (Below.refl _ _)))))
  have a1t : inB d.slots 0 96 = true := by simpa using a1
  have EA := hid a1t
  by_cases a2 : 5 < d.ts.length
  · have E : Hid ((2, -1) = sizesN d.slots d.ts d.cs.length) := by show _ = _; unfold sizesN; rw [if_neg a1, decide_eq_true (by omega), Bool.true_or, if_pos rfl]
    have h5 : (5 : Int) < (d.tabs.n : Int) := by omega
    have HE := hid (fun w' h => HT.out 2 (-1) w' E.out h)
    clear a1 a1t a2 hl h1 h2 HT E HS
    go_enter Try.func18, Try.ntmps18
    go_wp2_with fail
    refine (HW.out _ _ _ _).mono ?_
    rintro e w1 ⟨rfl, rfl⟩
    rw [EA.out]
    go_wp2
    exact bodyPost_ret (v := .agg #[.int .i64 2, .int .i64 (-1)]) (by simp [results, Try.results18, go_sem, *]) rfl (HE.out _ (bl_alloc (bl_alloc (Below.refl _ _))))
  have h5 : ¬ (5 : Int) < (d.tabs.n : Int) := by omega
  by_cases a3 : inB d.code.n 1 60000 = false
  · have E : Hid ((2, -1) = sizesN d.slots d.ts d.cs.length) := by show _ = _; unfold sizesN; rw [if_neg a1, h2, a3, Bool.not_false, Bool.or_true, if_pos rfl]
    have HE := hid (fun w' h => HT.out 2 (-1) w' E.out h)
    have EB := hid a3
    clear a1 a1t a2 a3 hl h1 h2 HT E HS
    go_enter Try.func18, Try.ntmps18
    go_wp2_with fail
    refine (HW.out _ _ _ _).mono ?_
    rintro e w1 ⟨rfl, rfl⟩
    rw [EA.out]
    go_wp2_with fail
    refine (HW.out _ _ _ _).mono ?_
    rintro e w1 ⟨rfl, rfl⟩
    rw [EB.out]
    go_wp2
    exact bodyPost_ret (v := .agg #[.int .i64 2, .int .i64 (-1)]) (by simp [results, Try.results18, go_sem, *]) rfl (HE.out _ (bl_alloc (bl_alloc (Below.refl _ _))))
  have a3t : inB d.code.n 1 60000 = true := by simpa using a3
  have EB := hid a3t
  have ES : sizesN d.slots d.ts d.cs.length = shapesN d.ts 0 := by
    unfold sizesN
    rw [if_neg a1, h2, a3t, if_neg (by simp; omega)]
  rw [ES] at HT ⊢
  obtain ⟨W2, hW2⟩ : ∃ W2, W2 = ((w.alloc (.cells #[.int .i64 d.slots, .slice d.tabs.a d.tabs.n d.tabs.c, .slice d.code.a d.code.n d.code.c] 25)).alloc (.cells #[.int .i64 0, .int .i64 0] 30)) := ⟨_, rfl⟩
  obtain ⟨fb, hfb⟩ : ∃ b, b = w.heap.size + 1 := ⟨_, rfl⟩
  have FB : Hid (W2.cell? ⟨fb, 0, none⟩ = some (.int .i64 0) ∧ W2.cell? ⟨fb, 1, none⟩ = some (.int .i64 0) ∧ W2.frozen? ⟨fb, 0, none⟩ = false ∧ W2.frozen? ⟨fb, 1, none⟩ = false ∧ w.heap.size ≤ fb) := by
    show _ ∧ _
    rw [hW2, hfb]
    refine ⟨by simp, by simp, by simp, by simp, by omega⟩
  rw [← hW2] at HB
  have EW := hid hW2
  have EF := hid hfb
  have HL := hid hl
  have HN1 := hid h1
  have HM := hid hm1
  clear a1 a1t a2 a3 a3t hl h1 h2 ES hW2 hfb hm2
  go_enter Try.func18, Try.ntmps18
  go_wp2_with fail
  refine (HW.out _ _ _ _).mono ?_
  rintro e w1 ⟨rfl, rfl⟩
  rw [EA.out]
  go_wp2_with fail
  refine (HW.out _ _ _ _).mono ?_
  rintro e w1 ⟨rfl, rfl⟩
  rw [EB.out]
  go_wp2
  rw [← EW.out, ← EF.out]
  clear EW EA EB HW h5
  go_loopw [27, 3, 4] (fun q _ _ wr => ∃ k : Nat, k ≤ d.tabs.n ∧ q = .int .i64 k ∧ Hid (Below W2.heap.size W2 wr) ∧ Hid (∀ j t, j < k → d.ts[j]? = some t → shapeB t = true)) (fun q _ _ _ => d.tabs.n - (intOf q).toNat)
  case atStart => exact ⟨0, Nat.zero_le _, rfl, Below.refl _ _, fun j t hj => absurd hj (Nat.not_lt_zero _)⟩
  case round =>
    obtain ⟨k, hk, rfl, hb, HA⟩ := hrel
    by_cases hlt : k < d.tabs.n
    · have hki : (k : Int) < (d.tabs.n : Int) := by omega
      obtain ⟨g, o, t, ea, ht, ⟨x0, _⟩, ⟨x1, _⟩, ⟨x2, _⟩⟩ := grow_at ((HL.out.step HB.out).t.step ShapeD.keeps hb.out) hlt
      obtain ⟨W3, hW3⟩ : ∃ W3, W3 = wr.alloc (.cells #[.int .i64 t.keys, .int .i64 t.acts, .int .i64 t.args] 64) := ⟨_, rfl⟩
      have b3 : Below W2.heap.size W2 W3 := by rw [hW3]; exact bl_alloc hb.out
      have HB3 := hid b3
      have EW3 := hid hW3
      have HT' := hid ht
      have HSd := hid (HS.out t W3)
      dsimp only [ShapeD.v] at HSd
      rw [ea]
      clear ht b3 hW3
      cases hsb : shapeB t with
      | false =>
        have HE := hid (HT.out 1 (-2 - (k : Int)))
        have EX : Hid ((1, -2 - (k : Int)) = shapesN d.ts 0) := (shapes_bad HA.out HT'.out hsb).symm
        rw [hsb] at HSd
        have hwk := gwrap_i (-2 - (k : Int)) (by omega) (by omega)
        go_wp2_with fail
        rw [← EW3.out]
        refine HSd.out.mono ?_
        rintro e w4 ⟨rfl, b4⟩
        have B4 := hid (bl_step HB3.out b4)
        obtain ⟨f0, f1, f2, f3, f4⟩ := FB.out
        have y0 := cell_keep f0 B4.out
        have y1 := cell_keep f1 B4.out
        have y2 := (B4.out.frozen (p := ⟨fb, 0, none⟩) (World.block_lt_of_cell? _ _ f0)).trans f2
        have y3 := (B4.out.frozen (p := ⟨fb, 1, none⟩) (World.block_lt_of_cell? _ _ f1)).trans f3
        have yl : fb < w4.heap.size := World.block_lt_of_cell? _ _ y0
        have HF : Hid (Below w.heap.size w ((w4.setCell ⟨fb, 0, none⟩ (.int .i64 1)).setCell ⟨fb, 1, none⟩ (.int .i64 (-2 - (k : Int))))) := ((bl_step HB.out B4.out).setCell (p := ⟨fb, 0, none⟩) f4 _).setCell (p := ⟨fb, 1, none⟩) f4 _
        clear HSd b4 B4 f0 f1 f2 f3 f4 HB3 EW3 x0 x1 x2 hb
        go_wp2
        exact bodyPost_ret (v := .agg #[.int .i64 1, .int .i64 (-2 - (k : Int))]) (by simp [results, Try.results18, go_sem, *]) rfl (HE.out _ EX.out HF.out)
      | true =>
        rw [hsb] at HSd
        have HA2 : Hid (∀ j t, j < k + 1 → d.ts[j]? = some t → shapeB t = true) := fun j u hj hu => by
          rcases Nat.lt_or_ge j k with h | h
          · exact HA.out j u h hu
          · obtain rfl : j = k := by omega
            rw [HT'.out] at hu
            cases hu
            exact hsb
        go_wp2_with fail
        rw [← EW3.out]
        refine HSd.out.mono ?_
        rintro e w4 ⟨rfl, b4⟩
        have B4 := hid (bl_step HB3.out b4)
        clear HSd b4 HB3 EW3 x0 x1 x2 hb
        go_wp2
        go_roundw
        case rel => exact ⟨k + 1, by omega, by go_num, B4, HA2⟩
        case measure => simp [intOf]; omega
    · have hki : ¬ (k : Int) < (d.tabs.n : Int) := by omega
      have EX : Hid (((0 : Int), (0 : Int)) = shapesN d.ts 0) := by
        refine (shapes_good fun j t hj ht => HA.out j t ?_ ht).symm
        have := HN1.out
        omega
      obtain ⟨f0, f1, f2, f3, f4⟩ := FB.out
      have y0 := cell_keep f0 hb.out
      have y1 := cell_keep f1 hb.out
      have y2 := (hb.out.frozen (p := ⟨fb, 0, none⟩) (World.block_lt_of_cell? _ _ f0)).trans f2
      have y3 := (hb.out.frozen (p := ⟨fb, 1, none⟩) (World.block_lt_of_cell? _ _ f1)).trans f3
      have yl : fb < wr.heap.size := World.block_lt_of_cell? _ _ y0
      have HF : Hid (Below w.heap.size w ((wr.setCell ⟨fb, 0, none⟩ (.int .i64 0)).setCell ⟨fb, 1, none⟩ (.int .i64 0))) := ((bl_step HB.out hb.out).setCell (p := ⟨fb, 0, none⟩) f4 _).setCell (p := ⟨fb, 1, none⟩) f4 _
      clear f0 f1 f2 f3 f4 hb
      go_wp2
      exact bodyPost_ret (v := .agg #[.int .i64 0, .int .i64 0]) (by simp [results, Try.results18, go_sem, *]) rfl (HT.out 0 0 _ EX.out HF.out)

set_option maxHeartbeats 4000000 in
set_option maxRecDepth 20000 in
theorem gcheck (d : ProgD) (w : World) (hl : d.lie w) (hm : d.small) : Calls Try.prog 10 #[d.v] w (TellF (chkW d.slots d.ts d.cs) w) := by
  have h1 : d.ts.length = d.tabs.n := hl.t.1
  have h2 : d.cs.length = d.code.n := hl.c.1
  have HT : Hid (∀ c a w', (c, a) = chkW d.slots d.ts d.cs → Below w.heap.size w w' → TellF (chkW d.slots d.ts d.cs) w (.returned (.agg #[.int .i64 c, .int .i64 a])) w') := fun c a w' e h => ⟨by rw [← e], h⟩
  obtain ⟨W2, hW2⟩ : ∃ W2, W2 = ((w.alloc (.cells #[.int .i64 d.slots, .slice d.tabs.a d.tabs.n d.tabs.c, .slice d.code.a d.code.n d.code.c] 25)).alloc (.cells #[.int .i64 0, .int .i64 0] 30)) := ⟨_, rfl⟩
  obtain ⟨pb, hpb⟩ : ∃ b, b = w.heap.size := ⟨_, rfl⟩
  obtain ⟨fb, hfb⟩ : ∃ b, b = w.heap.size + 1 := ⟨_, rfl⟩
  have PB : Hid (PBox d W2 pb) := by rw [hW2, hpb]; exact (pbox_new d w).step (bl_alloc (Below.refl _ _))
  have FB : Hid (W2.cell? ⟨fb, 0, none⟩ = some (.int .i64 0) ∧ W2.cell? ⟨fb, 1, none⟩ = some (.int .i64 0) ∧ W2.frozen? ⟨fb, 0, none⟩ = false ∧ W2.frozen? ⟨fb, 1, none⟩ = false ∧ w.heap.size ≤ fb) := by
    show _ ∧ _
    rw [hW2, hfb]
    refine ⟨by simp, by simp, by simp, by simp, by omega⟩
  have HB : Hid (Below w.heap.size w W2) := by rw [hW2]; exact bl_alloc (bl_alloc (Below.refl _ _))
  have HSZ := hid (gwrongSizes d W2 (hl.step HB.out) hm)
  have EW := hid hW2
  have EP := hid hpb
  have EF := hid hfb
  have HL := hid hl
  have HN2 := hid h2
  have HN1 := hid h1
  dsimp only [ProgD.v] at HSZ ⊢
  obtain ⟨c, hc⟩ : ∃ c, c = (sizesN d.slots d.ts d.cs.length).1 := ⟨_, rfl⟩
  obtain ⟨a, ha⟩ : ∃ a, a = (sizesN d.slots d.ts d.cs.length).2 := ⟨_, rfl⟩
  have EC := hid hc
  have EA := hid ha
  clear hW2 hpb hfb hl h1 h2 hc ha
  by_cases hz : c = 0
  · subst hz
    have HOK : Hid (OkSz d) := sizes_ok HN1.out HN2.out EC.out.symm
    go_enter Try.func10, Try.ntmps10
    go_wp2_with fail
    rw [← EW.out, ← EF.out, ← EP.out]
    refine HSZ.out.mono ?_
    rintro e w3 ⟨rfl, b3⟩
    rw [← EC.out, ← EA.out]
    obtain ⟨W4, hW4⟩ : ∃ W4, W4 = w3.alloc (.cells #[.int .i64 0, .int .i64 a] 30) := ⟨_, rfl⟩
    have b4 : Below W2.heap.size W2 W4 := by rw [hW4]; exact bl_alloc b3
    have EW4 := hid hW4
    have HB4 := hid b4
    obtain ⟨p0, p1, p2⟩ := PB.out.step (bl_alloc b3 : Below W2.heap.size W2 (w3.alloc (.cells #[.int .i64 0, .int .i64 a] 30)))
    clear HSZ b3 hW4 EW EF EP b4
    go_wp2
    rw [← EW4.out]
    have HM4 : Hid (d.code.n ≤ 60000) := HOK.out.2.2.2.2.1
    clear EW4 p0 p1 p2
    go_loopw [16, 4, 5] (fun q _ _ wr => ∃ k : Nat, k ≤ d.code.n ∧ q = .int .i64 k ∧ Hid (Below W2.heap.size W2 wr) ∧ Hid (∀ (j : Nat) x, j < k → d.cs[j]? = some x → insN d.slots d.ts d.code.n j x = 0)) (fun q _ _ _ => d.code.n - (intOf q).toNat)
    case atStart => exact ⟨0, Nat.zero_le _, rfl, HB4, fun j t hj => absurd hj (Nat.not_lt_zero _)⟩
    case round =>
      obtain ⟨k, hk, rfl, hb, HA⟩ := hrel
      have hkm : (k : Int) ≤ 60000 := by have := HM4.out; omega
      obtain ⟨p0, p1, p2⟩ := PB.out.step hb.out
      by_cases hlt : k < d.code.n
      · have hki : (k : Int) < (d.code.n : Int) := by omega
        obtain ⟨x, hx⟩ : ∃ x, d.cs[k]? = some x := ⟨_, List.getElem?_eq_getElem (by have := HN2.out; omega)⟩
        have HI := hid (gwrongIns d k wr (HL.out.step (bl_step HB.out hb.out)) HOK.out hlt x hx)
        dsimp only [ProgD.v] at HI
        have HX := hid hx
        clear hx
        obtain ⟨cc, hcc⟩ : ∃ cc, cc = insN d.slots d.ts d.code.n k x := ⟨_, rfl⟩
        rw [← hcc] at HI
        have ECC := hid hcc
        clear hcc
        go_wp2_with fail
        refine HI.out.mono ?_
        rintro e w5 ⟨rfl, b5⟩
        have B5 := hid (bl_step hb.out b5)
        clear b5 HI hb p0 p1 p2
        by_cases hcz : cc = 0
        · have hb0 : (cc != 0) = false := by simpa using hcz
          have HA2 : Hid (∀ (j : Nat) x, j < k + 1 → d.cs[j]? = some x → insN d.slots d.ts d.code.n j x = 0) := fun j u hj hu => by
            rcases Nat.lt_or_ge j k with h | h
            · exact HA.out j u h hu
            · obtain rfl : j = k := by omega
              rw [HX.out] at hu
              cases hu
              rw [← ECC.out]; exact hcz
          clear hcz
          go_wp2
          go_roundw
          case rel => exact ⟨k + 1, by omega, by go_num, B5, HA2⟩
          case measure => simp [intOf]; omega
        · have hb0 : (cc != 0) = true := by simpa using hcz
          have EX : Hid ((cc, (k : Int)) = chkW d.slots d.ts d.cs) := by
            have e1 := inss_bad (m := (d.code.n : Int)) HA.out HX.out (by rw [← ECC.out]; exact hcz)
            show _ = _
            unfold chkW
            rw [if_neg (by rw [← EC.out]; exact fun h => h rfl), HN2.out, e1, ← ECC.out, if_pos hcz]
          obtain ⟨f0, f1, f2, f3, f4⟩ := FB.out
          have y0 := cell_keep f0 B5.out
          have y1 := cell_keep f1 B5.out
          have y2 := (B5.out.frozen (p := ⟨fb, 0, none⟩) (World.block_lt_of_cell? _ _ f0)).trans f2
          have y3 := (B5.out.frozen (p := ⟨fb, 1, none⟩) (World.block_lt_of_cell? _ _ f1)).trans f3
          have yl : fb < w5.heap.size := World.block_lt_of_cell? _ _ y0
          have HF : Hid (Below w.heap.size w ((w5.setCell ⟨fb, 0, none⟩ (.int .i64 cc)).setCell ⟨fb, 1, none⟩ (.int .i64 (k : Int)))) := ((bl_step HB.out B5.out).setCell (p := ⟨fb, 0, none⟩) f4 _).setCell (p := ⟨fb, 1, none⟩) f4 _
          clear f0 f1 f2 f3 f4 B5 hcz
          go_wp2
          exact bodyPost_ret (v := .agg #[.int .i64 cc, .int .i64 (k : Int)]) (by simp [results, Try.results10, go_sem, *]) rfl (HT.out _ _ _ EX.out HF.out)
      · have hki : ¬ (k : Int) < (d.code.n : Int) := by omega
        have h1n : 1 ≤ d.code.n := HOK.out.2.2.2.1
        obtain ⟨g, o, x, ea, hx, ⟨x0, _⟩, _⟩ := grow_at (HL.out.step (bl_step HB.out hb.out)).c (show d.code.n - 1 < d.code.n by omega)
        have EI : Hid (inssN d.slots d.ts d.code.n d.cs 0 = (0, 0)) := inss_good fun j t hj ht => HA.out j t (by have := HN2.out; omega) ht
        have HEN := hid (gends x.op wr)
        obtain ⟨m, hmm⟩ : ∃ m : Nat, d.code.n = m + 1 := ⟨d.code.n - 1, by omega⟩
        have HX : Hid (endsB ((d.cs[d.cs.length - 1]?.map InsD.op).getD 0) = endsB x.op) := by
          show _ = _
          rw [HN2.out, hx]; rfl
        have ECK : Hid (chkW d.slots d.ts d.cs = if endsB x.op = true then (0, 0) else (18, (m : Int))) := by
          show _ = _
          unfold chkW
          rw [if_neg (by rw [← EC.out]; exact fun h => h rfl), HX.out, HN2.out, EI.out, if_neg (by decide), hmm]
          congr 2
          omega
        rw [hmm] at x0 p2
        rw [ea] at p2
        rw [show m + 1 - 1 = m from rfl] at x0
        have hmi : (m : Int) < ((m + 1 : Nat) : Int) := by omega
        have hm0 : (m : Int) ≤ 60000 := by have := HM4.out; omega
        have hwm : IntKind.i64.wrap (((m + 1 : Nat) : Int) - 1) = (m : Int) := by rw [gwrap_i _ (by omega) (by omega)]; omega
        obtain ⟨f0, f1, f2, f3, f4⟩ := FB.out
        have y0 := cell_keep f0 hb.out
        have y1 := cell_keep f1 hb.out
        have y2 := (hb.out.frozen (p := ⟨fb, 0, none⟩) (World.block_lt_of_cell? _ _ f0)).trans f2
        have y3 := (hb.out.frozen (p := ⟨fb, 1, none⟩) (World.block_lt_of_cell? _ _ f1)).trans f3
        have yl : fb < wr.heap.size := World.block_lt_of_cell? _ _ y0
        have HF : Hid (∀ u v, Below w.heap.size w ((wr.setCell ⟨fb, 0, none⟩ u).setCell ⟨fb, 1, none⟩ v)) := fun u v => ((bl_step HB.out hb.out).setCell (p := ⟨fb, 0, none⟩) f4 _).setCell (p := ⟨fb, 1, none⟩) f4 _
        clear f0 f1 f2 f3 f4 hb HA hx ea EI HX hmm h1n hlt hk
        go_wp2_with fail
        refine HEN.out.mono ?_
        rintro e w6 ⟨rfl, rfl⟩
        clear HEN
        cases hE : endsB x.op with
        | true =>
          rw [hE, if_pos rfl] at ECK
          have EX := hid ECK.out.symm
          clear ECK hE
          go_wp2
          exact bodyPost_ret (v := .agg #[.int .i64 0, .int .i64 0]) (by simp [results, Try.results10, go_sem, *]) rfl (HT.out _ _ _ EX.out (HF.out _ _))
        | false =>
          rw [hE, if_neg (by decide)] at ECK
          have EX := hid ECK.out.symm
          clear ECK hE
          go_wp2
          exact bodyPost_ret (v := .agg #[.int .i64 18, .int .i64 (m : Int)]) (by simp [results, Try.results10, go_sem, *]) rfl (HT.out _ _ _ EX.out (HF.out _ _))
  · have hb0 : (c != 0) = true := by simpa using hz
    have EX : Hid ((c, a) = chkW d.slots d.ts d.cs) := by
      show _ = _
      unfold chkW
      rw [if_pos (by rw [← EC.out]; exact hz), EC.out, EA.out]
    go_enter Try.func10, Try.ntmps10
    go_wp2_with fail
    rw [← EW.out, ← EF.out, ← EP.out]
    refine HSZ.out.mono ?_
    rintro e w3 ⟨rfl, b3⟩
    rw [← EC.out, ← EA.out]
    obtain ⟨f0, f1, f2, f3, f4⟩ := FB.out
    have y0 := cell_keep f0 b3
    have y1 := cell_keep f1 b3
    have y2 := (b3.frozen (p := ⟨fb, 0, none⟩) (World.block_lt_of_cell? _ _ f0)).trans f2
    have y3 := (b3.frozen (p := ⟨fb, 1, none⟩) (World.block_lt_of_cell? _ _ f1)).trans f3
    have yl : fb < w3.heap.size := World.block_lt_of_cell? _ _ y0
    have HF : Hid (∀ u v o, Below w.heap.size w (((w3.setCell ⟨fb, 0, none⟩ u).setCell ⟨fb, 1, none⟩ v).alloc o)) := fun u v o => bl_alloc (((bl_step HB.out b3).setCell (p := ⟨fb, 0, none⟩) f4 _).setCell (p := ⟨fb, 1, none⟩) f4 _)
    clear f0 f1 f2 f3 f4 b3 HSZ EW EF EP hz EC EA
    go_wp2
    exact bodyPost_ret (v := .agg #[.int .i64 c, .int .i64 a]) (by simp [results, Try.results10, go_sem, *]) rfl (HT.out _ _ _ EX.out (HF.out _ _ _))
end Go.Proofs.Ytmohffibkpecpaa

namespace Go.Proofs.Ytmohffibkpecpaa
open Go.RowKit

theorem gbox_cell {w : World} {b : Nat} {cs : Array Value} {T : TypeId} {f : Nat × Nat} (h : w.heap[b]? = some (.cells cs T f)) (i : Nat) : w.cell? ⟨b, i, none⟩ = cs[i]? := by simp [World.cell?, h]
theorem galloc_at (w : World) (cs : Array Value) (T : TypeId) : (w.alloc (.cells cs T)).heap[w.heap.size]? = some (.cells cs T (0, 0)) := heap_alloc_new w _
def kShapeE (t : ShapeD) : List Value := [.int .i64 t.keys, .int .i64 t.acts, .int .i64 t.args]
def kInsE (x : InsD) : List Value := [.int .i64 x.op, .int .i64 x.r, .int .i64 x.s, .int .i64 x.k, .int .i64 x.to, .int .u64 x.n]

/-- what is told of a right instruction's numbers -/
structure InsFit (x : InsD) : Prop where
  op : 0 ≤ x.op ∧ x.op < 256
  r : 0 ≤ x.r ∧ x.r < 256
  s : 0 ≤ x.s ∧ x.s < 256
  k : 0 ≤ x.k ∧ x.k < 256
  to : 0 ≤ x.to ∧ x.to < 65536
  n : 0 ≤ x.n ∧ x.n < 18446744073709551616

theorem inB_true {n a b : Int} (h : inB n a b = true) : a ≤ n ∧ n ≤ b := by simpa [inB] using h

theorem ins_fit {slots : Int} {ts : List ShapeD} {m i : Int} {x : InsD} (hs : slots ≤ 96) (ht : ∀ t ∈ ts, 1 ≤ t.keys ∧ t.keys ≤ 3 ∧ 0 ≤ t.args ∧ t.args ≤ 3) (hm : m ≤ 60000) (hi : 0 ≤ i) (hn : 0 ≤ x.n ∧ x.n < 18446744073709551616) (h : insN slots ts m i x = 0) : InsFit x := by
  unfold insN at h
  by_cases h1 : (formB x && fitsB slots ts x) = false
  · rw [if_pos h1] at h; exact absurd h (by decide)
  rw [if_neg h1] at h
  simp only [Bool.and_eq_false_iff, not_or, Bool.not_eq_false] at h1
  obtain ⟨hf, hq⟩ := h1
  by_cases h2 : (hasT x.op && decide (m - 1 - i ≤ x.to)) = true
  · rw [if_pos h2] at h; exact absurd h (by decide)
  clear h
  unfold formB at hf
  simp only [Bool.and_eq_true, decide_eq_true_eq] at hf
  obtain ⟨⟨⟨f1, f2⟩, f3⟩, f4⟩ := hf
  have f1 := inB_true f1
  unfold bareB at f2
  simp only [Bool.and_eq_true, Bool.or_eq_true, decide_eq_true_eq] at f2
  obtain ⟨⟨⟨⟨b1, b2⟩, b3⟩, b4⟩, b5⟩ := f2
  unfold regsB at f3
  simp only [Bool.and_eq_true, Bool.or_eq_true, decide_eq_true_eq] at f3
  obtain ⟨g1, g2⟩ := f3
  have g1 := inB_true g1
  have hto : x.to < 65536 := by
    rcases b4 with b4 | b4
    · simp only [b4, Bool.true_and, decide_eq_true_eq] at h2
      omega
    · omega
  have hcall : x.op = 13 → 0 ≤ x.s ∧ x.s ≤ 96 ∧ 0 ≤ x.k ∧ x.k ≤ 96 := by
    intro e
    unfold fitsB at hq
    rw [if_neg (by omega), if_neg (by omega), if_neg (by omega), if_neg (by omega), if_neg (by omega), if_pos e] at hq
    unfold callB at hq
    cases hg : ts[x.n.toNat]? with
    | none => rw [hg] at hq; simp at hq
    | some t =>
      rw [hg] at hq
      simp only [Bool.and_eq_true] at hq
      have q1 := inB_true hq.1
      have q2 := inB_true hq.2
      have := ht t (List.mem_of_getElem? hg)
      omega
  have hk : 0 ≤ x.k ∧ x.k < 256 := by
    by_cases e3 : x.op = 3
    · unfold fitsB at hq
      rw [if_pos e3] at hq
      have := inB_true hq
      omega
    by_cases e6 : x.op = 6
    · unfold fitsB at hq
      rw [if_neg e3, if_pos e6] at hq
      simp only [Bool.and_eq_true] at hq
      have := inB_true hq.1
      omega
    by_cases e14 : x.op = 14
    · unfold fitsB at hq
      rw [if_neg e3, if_neg e6, if_pos e14] at hq
      have := inB_true hq
      omega
    by_cases e13 : x.op = 13
    · have := hcall e13; omega
    rcases b3 with b3 | b3
    · exfalso
      unfold hasK fieldsN at b3
      repeat' split at b3
      all_goals first
        | omega
        | exact absurd b3 (by decide)
    · omega
  have hs' : 0 ≤ x.s ∧ x.s < 256 := by
    rcases g2 with g2 | g2
    · have := hcall g2; omega
    · have := inB_true g2; omega
  exact ⟨by omega, by omega, hs', hk, by omega, hn⟩

theorem inss_all {slots : Int} {ts : List ShapeD} {m : Int} : ∀ {cs : List InsD} {i : Int}, 0 ≤ i → (inssN slots ts m cs i).1 = 0 → ∀ x ∈ cs, ∃ j, 0 ≤ j ∧ insN slots ts m j x = 0 := by
  intro cs
  induction cs with
  | nil => intro i _ _ x hx; simp at hx
  | cons y r ih =>
    intro i hi h x hx
    rw [inssN] at h
    by_cases h1 : insN slots ts m i y = 0
    · rw [if_pos h1] at h
      rcases List.mem_cons.1 hx with rfl | hx
      · exact ⟨i, hi, h1⟩
      · exact ih (by omega) h x hx
    · rw [if_neg h1] at h
      exact absurd h h1

/-- a right program's numbers -/
structure ProgFit (slots : Int) (ts : List ShapeD) (cs : List InsD) : Prop where
  s : 0 ≤ slots ∧ slots ≤ 96
  nt : ts.length ≤ 5
  nc : 1 ≤ cs.length ∧ cs.length ≤ 60000
  t : ∀ t ∈ ts, (1 ≤ t.keys ∧ t.keys ≤ 3) ∧ (1 ≤ t.acts ∧ t.acts ≤ 8) ∧ (0 ≤ t.args ∧ t.args ≤ 3)
  c : ∀ x ∈ cs, InsFit x

theorem chk_fit {slots : Int} {ts : List ShapeD} {cs : List InsD} (hw : ∀ x ∈ cs, x.wf) (h : (chkW slots ts cs).1 = 0) : ProgFit slots ts cs := by
  unfold chkW at h
  by_cases h1 : (sizesN slots ts cs.length).1 ≠ 0
  · rw [if_pos h1] at h; exact absurd h h1
  rw [if_neg h1] at h
  by_cases h2 : (inssN slots ts cs.length cs 0).1 ≠ 0
  · rw [if_pos h2] at h; exact absurd h h2
  clear h
  have h1 : (sizesN slots ts cs.length).1 = 0 := by simpa using h1
  have h2 : (inssN slots ts cs.length cs 0).1 = 0 := by simpa using h2
  unfold sizesN at h1
  by_cases a1 : inB slots 0 96 = false
  · rw [if_pos a1] at h1; exact absurd h1 (by decide)
  rw [if_neg a1] at h1
  have a1' := inB_true (by simpa using a1 : inB slots 0 96 = true)
  by_cases a2 : (decide (5 < (ts.length : Int)) || !inB cs.length 1 60000) = true
  · rw [if_pos a2] at h1; exact absurd h1 (by decide)
  rw [if_neg a2] at h1
  simp only [Bool.or_eq_true, decide_eq_true_eq, Bool.not_eq_true', not_or, Bool.not_eq_false] at a2
  have a3 := inB_true a2.2
  have ht : ∀ t ∈ ts, (1 ≤ t.keys ∧ t.keys ≤ 3) ∧ (1 ≤ t.acts ∧ t.acts ≤ 8) ∧ (0 ≤ t.args ∧ t.args ≤ 3) := fun t ht => by
    have := shapes_all h1 t ht
    unfold shapeB at this
    simp only [Bool.and_eq_true] at this
    exact ⟨inB_true this.1.1, inB_true this.1.2, inB_true this.2⟩
  refine ⟨a1', by omega, by omega, ht, fun x hx => ?_⟩
  obtain ⟨j, hj, e⟩ := inss_all (by decide) h2 x hx
  have := bounds_u64 (hw x hx).2.2.2.2.2
  exact ins_fit a1'.2 (fun t h => ⟨(ht t h).1.1, (ht t h).1.2, (ht t h).2.2⟩) (by omega) hj (by omega) e

theorem ProgD.lie.wfs {d : ProgD} {w : World} (h : d.lie w) : ∀ x ∈ d.cs, x.wf := by
  intro x hx
  obtain ⟨i, hi, rfl⟩ := List.getElem_of_mem hx
  obtain ⟨g, off, _, hp⟩ := h.c.2 i _ (List.getElem?_eq_getElem hi)
  exact hp.wf
/-- the program's block and the fault's, as Encode lays them -/
structure GEncAt (d : ProgD) (w W2 : World) (s f : Nat) : Prop where
  p : PBox d W2 s
  ff : W2.heap[f]? = some (.cells #[.int .i64 0, .int .i64 0] 30 (0, 0))
  wf : w.heap.size ≤ f
  sl : s < f

theorem genc_at (d : ProgD) (w : World) : GEncAt d w ((w.alloc (.cells #[.int .i64 d.slots, .slice d.tabs.a d.tabs.n d.tabs.c, .slice d.code.a d.code.n d.code.c] 25)).alloc (.cells #[.int .i64 0, .int .i64 0] 30)) w.heap.size (w.heap.size + 1) :=
  ⟨(pbox_new d w).step (bl_alloc (Below.refl _ _)), by
    have := galloc_at (w.alloc (.cells #[.int .i64 d.slots, .slice d.tabs.a d.tabs.n d.tabs.c, .slice d.code.a d.code.n d.code.c] 25)) #[.int .i64 0, .int .i64 0] 30
    simpa using this, by omega, by omega⟩

theorem GEncAt.step {d : ProgD} {w W2 W3 : World} {s f : Nat} (h : GEncAt d w W2 s f) (b : Below W2.heap.size W2 W3) : GEncAt d w W3 s f :=
  ⟨h.p.step b, (b.block f (Array.getElem?_eq_some_iff.1 h.ff).1).trans h.ff, h.wf, h.sl⟩
theorem Try.ginfoShape : (Try.prog.info? 64).map (fun i => (i.zero, i.size, i.bytes)) = some (some (.agg #[.int .i64 0, .int .i64 0, .int .i64 0]), 3, 24) := by kernel_rfl
theorem Try.ginfoIns : (Try.prog.info? 35).map (fun i => (i.zero, i.size, i.bytes)) = some (some (.agg #[.int .i64 0, .int .i64 0, .int .i64 0, .int .i64 0, .int .i64 0, .int .u64 0]), 6, 48) := by kernel_rfl
theorem cell_blk {w w' : World} {g o : Nat} {v : Value} (h : w'.heap[g]? = w.heap[g]?) (hc : w.cell? ⟨g, o, none⟩ = some v) : w'.cell? ⟨g, o, none⟩ = some v := by
  simp only [World.cell?, h] at hc ⊢
  exact hc
theorem CI.blk {w w' : World} {g o : Nat} {n : Int} (h : CI w g o n) (e : w'.heap[g]? = w.heap[g]?) : CI w' g o n := ⟨cell_blk e h.1, h.2⟩
theorem CU.blk {w w' : World} {g o : Nat} {n : Int} (h : CU w g o n) (e : w'.heap[g]? = w.heap[g]?) : CU w' g o n := ⟨cell_blk e h.1, h.2⟩
theorem ProgD.lie.blk {d : ProgD} {w w' : World} (h : d.lie w) (ht : ∀ ad, d.tabs.a = some ad → w'.heap[ad.block]? = w.heap[ad.block]?) (hc : ∀ ad, d.code.a = some ad → w'.heap[ad.block]? = w.heap[ad.block]?) : d.lie w' := by
  refine ⟨h.ws, h.n1, h.n2, ⟨h.t.1, fun i x hx => ?_⟩, ⟨h.c.1, fun i x hx => ?_⟩⟩
  · obtain ⟨g, off, e, hp⟩ := h.t.2 i x hx
    have q : w'.heap[g]? = w.heap[g]? := ht _ e
    exact ⟨g, off, e, hp.1.blk q, hp.2.1.blk q, hp.2.2.blk q⟩
  · obtain ⟨g, off, e, hp⟩ := h.c.2 i x hx
    have q : w'.heap[g]? = w.heap[g]? := hc _ e
    exact ⟨g, off, e, hp.1.blk q, hp.2.1.blk q, hp.2.2.1.blk q, hp.2.2.2.1.blk q, hp.2.2.2.2.1.blk q, hp.2.2.2.2.2.blk q⟩
end Go.Proofs.Ytmohffibkpecpaa

namespace Go.Proofs.Ytmohffibkpecpaa
open Go.RowKit

/-- what is known of a register -/
structure RD where
  set : Bool
  just : Option Nat
  room : Option Nat

/-- what is known ahead of an instruction -/
structure SD where
  reg : Nat → RD
  slot : Nat → Bool

def leastO : Option Nat → Option Nat → Option Nat
  | some a, some b => some (min a b)
  | _, _ => none
def sameO (a b : Option Nat) : Option Nat := if a = b then a else none
def RD.none : RD := ⟨false, Option.none, Option.none⟩
def RD.any : RD := ⟨true, Option.none, Option.none⟩
def RD.join (r t : RD) : RD := ⟨r.set && t.set, sameO r.just t.just, leastO r.room t.room⟩
def RD.has (r : RD) (n : Nat) : Bool := match r.room with
  | Option.none => false
  | some m => decide (n ≤ m)
def RD.more (r : RD) (n : Nat) : RD := if r.has n = true then r else { r with room := some n }
def RD.num (n : Nat) : RD := ⟨true, some n, if n = 0 then some 0 else Option.none⟩
def sumO : Option Nat → Option Nat → Option Nat
  | some a, some b => some ((a + b) % 18446744073709551616)
  | _, _ => none
def lessO : Option Nat → Option Nat → Option Nat
  | some m, some b => if b ≤ m then some (m - b) else none
  | _, _ => none
def RD.bin (r : RD) (k : Int) (s : RD) : RD := if k = 3 then ⟨true, sumO r.just s.just, lessO r.room s.just⟩ else RD.any

def SD.none : SD := ⟨fun _ => RD.none, fun _ => false⟩
def SD.join (s t : SD) : SD := ⟨fun i => (s.reg i).join (t.reg i), fun i => s.slot i && t.slot i⟩
def SD.setR (s : SD) (i : Nat) (r : RD) : SD := { s with reg := fun j => if j = i then r else s.reg j }
def SD.fill (s : SD) (a n : Nat) : SD := { s with slot := fun j => s.slot j || (decide (a ≤ j) && decide (j < a + n)) }
def joinO : Option SD → SD → SD
  | Option.none, t => t
  | some s, t => s.join t

def RD.ok (r : RD) : Prop := (∀ n, r.just = some n → n < 18446744073709551616) ∧ (∀ n, r.room = some n → n ≤ 600) ∧ (r.set = false → r.just = Option.none ∧ r.room = Option.none)
def SD.ok (s : SD) : Prop := ∀ i, (s.reg i).ok

theorem RD.ok_none : RD.none.ok := ⟨fun _ h => (by cases h), fun _ h => (by cases h), fun _ => ⟨rfl, rfl⟩⟩
theorem RD.ok_any : RD.any.ok := ⟨fun _ h => (by cases h), fun _ h => (by cases h), fun _ => ⟨rfl, rfl⟩⟩
theorem SD.ok_none : SD.none.ok := fun _ => RD.ok_none
theorem RD.ok.join {r t : RD} (h : r.ok) (k : t.ok) : (r.join t).ok := by
  obtain ⟨rs, rj, rr⟩ := r
  obtain ⟨ts, tj, tr⟩ := t
  refine ⟨fun n hn => ?_, fun n hn => ?_, fun hs => ?_⟩
  · simp only [RD.join, sameO] at hn
    split at hn
    · exact h.1 n hn
    · cases hn
  · simp only [RD.join] at hn
    cases rr with
    | none => simp [leastO] at hn
    | some a =>
      cases tr with
      | none => simp [leastO] at hn
      | some b =>
        simp only [leastO, Option.some.injEq] at hn
        have := h.2.1 a rfl
        omega
  · simp only [RD.join, Bool.and_eq_false_iff] at hs
    rcases hs with hs | hs
    · obtain ⟨e1, e2⟩ := h.2.2 hs
      dsimp only at e1 e2
      subst e1 e2
      simp only [RD.join, sameO, leastO]
      exact ⟨by split <;> rfl, trivial⟩
    · obtain ⟨e1, e2⟩ := k.2.2 hs
      dsimp only at e1 e2
      subst e1 e2
      simp only [RD.join, sameO]
      refine ⟨by split <;> simp_all, by cases rr <;> rfl⟩
theorem RD.ok.more {r : RD} (h : r.ok) {n : Nat} (hn : n ≤ 600) (hs : r.set = true) : (r.more n).ok := by
  unfold RD.more
  split
  · exact h
  · exact ⟨h.1, fun m hm => by simp only [Option.some.injEq] at hm; omega, fun e => by simp only [hs] at e; cases e⟩
theorem RD.ok_num {n : Nat} (hn : n < 18446744073709551616) : (RD.num n).ok := by
  refine ⟨fun m hm => ?_, fun m hm => ?_, fun e => by cases e⟩
  · simp only [RD.num, Option.some.injEq] at hm
    omega
  · simp only [RD.num] at hm
    split at hm
    · simp only [Option.some.injEq] at hm; omega
    · cases hm
theorem RD.ok.bin {r s : RD} (h : r.ok) (k : Int) : (r.bin k s).ok := by
  unfold RD.bin
  split
  · refine ⟨fun n hn => ?_, fun n hn => ?_, fun e => by cases e⟩
    · dsimp only at hn
      cases hj : r.just with
      | none => simp [hj, sumO] at hn
      | some a =>
        cases hk : s.just with
        | none => simp [hj, hk, sumO] at hn
        | some b =>
          simp only [hj, hk, sumO, Option.some.injEq] at hn
          omega
    · dsimp only at hn
      cases hj : r.room with
      | none => simp [hj, lessO] at hn
      | some a =>
        cases hk : s.just with
        | none => simp [hj, hk, lessO] at hn
        | some b =>
          have := h.2.1 a hj
          simp only [hj, hk, lessO] at hn
          split at hn
          · simp only [Option.some.injEq] at hn; omega
          · cases hn
  · exact RD.ok_any
theorem SD.ok.setR {s : SD} (h : s.ok) {i : Nat} {r : RD} (hr : r.ok) : (s.setR i r).ok := fun j => by
  show (if j = i then r else s.reg j).ok
  split
  · exact hr
  · exact h j
theorem SD.ok.join {s t : SD} (h : s.ok) (k : t.ok) : (s.join t).ok := fun j => (h j).join (k j)
theorem SD.ok.fill {s : SD} (h : s.ok) (a n : Nat) : (s.fill a n).ok := h

def keysOf (ts : List ShapeD) (x : InsD) : Nat := match ts[x.n.toNat]? with
  | some t => t.keys.toNat
  | none => 0
def argsOf (ts : List ShapeD) (x : InsD) : Nat := match ts[x.n.toNat]? with
  | some t => t.args.toNat
  | none => 0

def readyD (s : SD) (x : InsD) : Bool :=
  if x.op = 2 ∨ x.op = 6 then (s.reg x.s.toNat).set else if x.op = 3 ∨ x.op = 5 ∨ x.op = 10 ∨ x.op = 11 then (s.reg x.r.toNat).set && (s.reg x.s.toNat).set else if x.op = 4 ∨ x.op = 8 ∨ x.op = 9 ∨ x.op = 14 ∨ x.op = 15 ∨ x.op = 16 then (s.reg x.r.toNat).set else true
def askedD (ts : List ShapeD) (s : SD) (x : InsD) : Bool :=
  if x.op = 7 then s.slot x.n.toNat else if x.op = 13 then (List.range (keysOf ts x)).all fun i => s.slot (x.s.toNat + i) else true
/-- what may go wrong at an instruction -/
def wrongD (ts : List ShapeD) (s : SD) (x : InsD) : Int :=
  if readyD s x = false then 15 else if x.op = 6 ∧ (s.reg x.s.toNat).has (x.n.toNat + x.k.toNat) = false then 16 else if x.op = 15 ∧ (s.reg x.r.toNat).has 0 = false then 16 else if askedD ts s x = false then 15 else 0
/-- what is known behind it -/
def behindD (ts : List ShapeD) (s : SD) (x : InsD) : SD :=
  if x.op = 1 then s.setR x.r.toNat (RD.num x.n.toNat) else if x.op = 2 then s.setR x.r.toNat (s.reg x.s.toNat) else if x.op = 3 then s.setR x.r.toNat ((s.reg x.r.toNat).bin x.k (s.reg x.s.toNat)) else if x.op = 4 ∨ x.op = 5 ∨ x.op = 18 ∨ x.op = 6 ∨ x.op = 7 then s.setR x.r.toNat RD.any else if x.op = 8 then s.fill x.n.toNat 1 else if x.op = 13 then (s.setR x.r.toNat RD.any).fill x.k.toNat (argsOf ts x) else if x.op = 9 then s.setR x.r.toNat ((s.reg x.r.toNat).more x.n.toNat) else s
def goesD (x : InsD) : Bool := !(decide (x.op = 12) || endsB x.op)

def putA (A : Nat → Option SD) (i : Nat) (s : SD) : Nat → Option SD := fun j => if j = i then some s else A j
/-- one instruction: a code, and what is known ahead of those that it leads to -/
def overA (ts : List ShapeD) (A : Nat → Option SD) (i : Nat) (x : InsD) (s : SD) : Nat → Option SD :=
  let A1 := if hasT x.op = true then putA A (i + 1 + x.to.toNat) (joinO (A (i + 1 + x.to.toNat)) s) else A
  if goesD x = true then putA A1 (i + 1) (joinO (A1 (i + 1)) (behindD ts s x)) else A1
def guardG (ts : List ShapeD) : List InsD → Nat → (Nat → Option SD) → Int × Int
  | [], _, _ => (0, 0)
  | x :: r, i, A => match A i with
    | none => guardG ts r (i + 1) A
    | some s => if wrongD ts s x ≠ 0 then (wrongD ts s x, i) else guardG ts r (i + 1) (overA ts A i x s)
def startA : Nat → Option SD := fun j => if j = 0 then some SD.none else none
/-- guard.Check -/
def guardW (slots : Int) (ts : List ShapeD) (cs : List InsD) : Int × Int := if (chkW slots ts cs).1 ≠ 0 then chkW slots ts cs else guardG ts cs 0 startA

/-- a right program's instruction, at i of m -/
structure GOk (slots : Int) (ts : List ShapeD) (m i : Nat) (x : InsD) : Prop where
  op : 1 ≤ x.op ∧ x.op ≤ 18
  r : 0 ≤ x.r ∧ x.r < 10
  s : x.op ≠ 13 → 0 ≤ x.s ∧ x.s < 10
  jmp : 0 ≤ x.to
  leads : hasT x.op = true → (i : Int) + 1 + x.to < m
  bin : x.op = 3 → 3 ≤ x.k ∧ x.k ≤ 12
  load : x.op = 6 → 1 ≤ x.k ∧ x.k ≤ 8 ∧ x.n ≤ 600
  room : x.op = 9 → x.n ≤ 600
  slot : x.op = 7 ∨ x.op = 8 → x.n < slots
  call : x.op = 13 → ∃ t, ts[x.n.toNat]? = some t ∧ 0 ≤ x.s ∧ x.s + t.keys ≤ slots ∧ 0 ≤ x.k ∧ x.k + t.args ≤ slots ∧ 1 ≤ t.keys ∧ t.keys ≤ 3 ∧ 0 ≤ t.args ∧ t.args ≤ 3
  n : 0 ≤ x.n ∧ x.n < 18446744073709551616
  on : endsB x.op = false → i + 1 < m

theorem hinss_at {slots : Int} {ts : List ShapeD} {m : Int} : ∀ {cs : List InsD} {i : Int}, (inssN slots ts m cs i).1 = 0 → ∀ (j : Nat) x, cs[j]? = some x → insN slots ts m (i + j) x = 0 := by
  intro cs
  induction cs with
  | nil => intro i _ j x hx; simp at hx
  | cons y r ih =>
    intro i h j x hx
    rw [inssN] at h
    by_cases h1 : insN slots ts m i y = 0
    · rw [if_pos h1] at h
      cases j with
      | zero =>
        simp only [List.getElem?_cons_zero, Option.some.injEq] at hx
        subst hx
        simpa using h1
      | succ j =>
        have := ih h j x (by simpa using hx)
        rw [show i + ((j + 1 : Nat) : Int) = i + 1 + (j : Int) by omega]
        exact this
    · rw [if_neg h1] at h
      exact absurd h h1

theorem gok {slots : Int} {ts : List ShapeD} {cs : List InsD} (hw : ∀ x ∈ cs, x.wf) (h : (chkW slots ts cs).1 = 0) {i : Nat} {x : InsD} (hx : cs[i]? = some x) : GOk slots ts cs.length i x := by
  have hp := chk_fit hw h
  have hxw := hw x (List.mem_of_getElem? hx)
  have hn := bounds_u64 hxw.2.2.2.2.2
  have hi : i < cs.length := (List.getElem?_eq_some_iff.1 hx).1
  unfold chkW at h
  by_cases h1 : (sizesN slots ts cs.length).1 ≠ 0
  · rw [if_pos h1] at h; exact absurd h h1
  rw [if_neg h1] at h
  by_cases h2 : (inssN slots ts cs.length cs 0).1 ≠ 0
  · rw [if_pos h2] at h; exact absurd h h2
  rw [if_neg h2] at h
  have h3 := hinss_at (by simpa using h2) i x hx
  unfold insN at h3
  by_cases h4 : (formB x && fitsB slots ts x) = false
  · rw [if_pos h4] at h3; exact absurd h3 (by decide)
  rw [if_neg h4] at h3
  by_cases h5 : (hasT x.op && decide ((cs.length : Int) - 1 - (0 + (i : Int)) ≤ x.to)) = true
  · rw [if_pos h5] at h3; exact absurd h3 (by decide)
  simp only [Bool.not_eq_false, Bool.and_eq_true] at h4
  obtain ⟨h6, h7⟩ := h4
  unfold formB at h6
  simp only [Bool.and_eq_true, decide_eq_true_eq] at h6
  obtain ⟨⟨⟨g1, g2⟩, g3⟩, g4⟩ := h6
  have g1 := inB_true g1
  unfold regsB at g3
  simp only [Bool.and_eq_true, Bool.or_eq_true, decide_eq_true_eq] at g3
  obtain ⟨g5, g6⟩ := g3
  have g5 := inB_true g5
  have hend : endsB x.op = false → i + 1 < cs.length := fun he => by
    rcases Nat.lt_or_ge (i + 1) cs.length with h8 | h8
    · exact h8
    · exfalso
      have e : i = cs.length - 1 := by omega
      rw [← e, hx] at h
      simp only [Option.map_some, Option.getD_some] at h
      rw [if_neg (by rw [he]; decide)] at h
      exact absurd (show (18 : Int) = 0 from h) (by decide)
  unfold fitsB at h7
  refine ⟨g1, by omega, fun h13 => ?_, g4, fun ht => ?_, fun e => ?_, fun e => ?_, fun e => ?_, fun e => ?_, fun e => ?_, by omega, hend⟩
  · rcases g6 with g6 | g6
    · exact absurd g6 h13
    · have := inB_true g6; omega
  · rw [ht, Bool.true_and] at h5
    simp only [decide_eq_true_eq] at h5
    omega
  · rw [if_pos e] at h7; exact inB_true h7
  · rw [if_neg (by omega), if_pos e] at h7
    simp only [Bool.and_eq_true, decide_eq_true_eq] at h7
    have := inB_true h7.1
    exact ⟨this.1, this.2, h7.2⟩
  · rw [if_neg (by omega), if_neg (by omega), if_neg (by omega), if_pos e] at h7
    simpa using h7
  · rw [if_neg (by omega), if_neg (by omega), if_neg (by omega), if_neg (by omega), if_pos e] at h7
    simpa using h7
  · rw [if_neg (by omega), if_neg (by omega), if_neg (by omega), if_neg (by omega), if_neg (by omega), if_pos e] at h7
    unfold callB at h7
    cases ht : ts[x.n.toNat]? with
    | none => rw [ht] at h7; cases h7
    | some t =>
      rw [ht] at h7
      simp only [Bool.and_eq_true] at h7
      have a := inB_true h7.1
      have b := inB_true h7.2
      have := hp.t t (List.mem_of_getElem? ht)
      exact ⟨t, rfl, by omega, by omega, by omega, by omega, by omega, by omega, by omega, by omega⟩
end Go.Proofs.Ytmohffibkpecpaa
