/- word.Check. -/
import Derived.Test.YtkipfppblhkodaaGFits
namespace Go.Proofs.Ytkipfppblhkodaa
open Go.RowKit

/-- it tells a fault, and nothing old has turned -/
def TellF (f : Int × Int) (w : World) (e : Ending) (w' : World) : Prop := e = .returned (.agg #[.int .i64 f.1, .int .i64 f.2]) ∧ Below w.heap.size w w'

theorem shapes_skip (ts : List ShapeD) : ∀ (j : Nat) (i : Int), (∀ k t, k < j → ts[k]? = some t → shapeB t = true) → shapesN ts i = shapesN (ts.drop j) (i + j) := by
  induction ts with
  | nil => intro j i _; simp [shapesN]
  | cons t r ih =>
    intro j i h
    cases j with
    | zero => simp
    | succ j =>
      have h0 := h 0 t (by omega) rfl
      rw [shapesN, if_pos h0, ih j (i + 1) (fun k u hk hu => h (k + 1) u (by omega) (by simpa using hu)), List.drop_succ_cons]
      congr 1
      omega

theorem shapes_bad {ts : List ShapeD} {j : Nat} {t : ShapeD} (h : ∀ k t, k < j → ts[k]? = some t → shapeB t = true) (ht : ts[j]? = some t) (hb : shapeB t = false) : shapesN ts 0 = (1, -2 - (j : Int)) := by
  obtain ⟨hj, e⟩ := List.getElem?_eq_some_iff.1 ht
  rw [shapes_skip ts j 0 h, List.drop_eq_getElem_cons hj, e, shapesN, hb, if_neg (by decide)]
  congr 1
  omega

theorem shapes_good {ts : List ShapeD} (h : ∀ k t, k < ts.length → ts[k]? = some t → shapeB t = true) : shapesN ts 0 = (0, 0) := by
  rw [shapes_skip ts ts.length 0 h, List.drop_length, shapesN]

theorem inss_skip (slots : Int) (ts : List ShapeD) (m : Int) (cs : List InsD) : ∀ (j : Nat) (i : Int), (∀ (k : Nat) t, k < j → cs[k]? = some t → insN slots ts m (i + k) t = 0) → inssN slots ts m cs i = inssN slots ts m (cs.drop j) (i + j) := by
  induction cs with
  | nil => intro j i _; simp [inssN]
  | cons t r ih =>
    intro j i h
    cases j with
    | zero => simp
    | succ j =>
      have h0 : insN slots ts m i t = 0 := by have := h 0 t (by omega) rfl; simpa using this
      rw [inssN, if_pos h0, ih j (i + 1) (fun k u hk hu => by
        have := h (k + 1) u (by omega) (by simpa using hu)
        rw [← this]
        congr 1
        omega), List.drop_succ_cons]
      congr 1
      omega

theorem inss_bad {slots : Int} {ts : List ShapeD} {m : Int} {cs : List InsD} {j : Nat} {t : InsD} (h : ∀ (k : Nat) t, k < j → cs[k]? = some t → insN slots ts m k t = 0) (ht : cs[j]? = some t) (hb : insN slots ts m j t ≠ 0) : inssN slots ts m cs 0 = (insN slots ts m j t, (j : Int)) := by
  obtain ⟨hj, e⟩ := List.getElem?_eq_some_iff.1 ht
  rw [inss_skip slots ts m cs j 0 (fun k t hk ht => by rw [Int.zero_add]; exact h k t hk ht), List.drop_eq_getElem_cons hj, e, inssN, Int.zero_add, if_neg hb]

theorem inss_good {slots : Int} {ts : List ShapeD} {m : Int} {cs : List InsD} (h : ∀ (k : Nat) t, k < cs.length → cs[k]? = some t → insN slots ts m k t = 0) : inssN slots ts m cs 0 = (0, 0) := by
  rw [inss_skip slots ts m cs cs.length 0 (fun k t hk ht => by rw [Int.zero_add]; exact h k t hk ht), List.drop_length, inssN]

theorem inB_iff {n a b : Int} : inB n a b = true ↔ a ≤ n ∧ n ≤ b := by simp [inB]

theorem shapes_all : ∀ {ts : List ShapeD} {i : Int}, (shapesN ts i).1 = 0 → ∀ t ∈ ts, shapeB t = true := by
  intro ts
  induction ts with
  | nil => intro i _ t ht; simp at ht
  | cons x r ih =>
    intro i h t ht
    rw [shapesN] at h
    by_cases hx : shapeB x = true
    · rw [if_pos hx] at h
      rcases List.mem_cons.1 ht with rfl | ht
      · exact hx
      · exact ih h t ht
    · rw [if_neg hx] at h
      simp at h

theorem sizes_ok {d : ProgD} (h1 : d.ts.length = d.tabs.n) (h2 : d.cs.length = d.code.n) (h : (sizesN d.slots d.ts d.cs.length).1 = 0) : OkSz d := by
  unfold sizesN at h
  by_cases a1 : inB d.slots 0 96 = false
  · rw [if_pos a1] at h; exact absurd h (by decide)
  · rw [if_neg a1] at h
    have a1' := inB_iff.1 (by simpa using a1)
    by_cases a2 : (decide (5 < (d.ts.length : Int)) || !inB d.cs.length 1 60000) = true
    · rw [if_pos a2] at h; exact absurd h (by decide)
    · rw [if_neg a2] at h
      simp only [Bool.or_eq_true, decide_eq_true_eq, Bool.not_eq_true', not_or, Bool.not_eq_false] at a2
      have a3 := inB_iff.1 a2.2
      refine ⟨a1'.1, a1'.2, by omega, by omega, by omega, fun t ht => ?_⟩
      have := shapes_all h t ht
      unfold shapeB at this
      simp only [Bool.and_eq_true, inB_iff] at this
      exact ⟨this.1.1.1, this.1.1.2, this.2.1, this.2.2⟩

set_option maxHeartbeats 4000000 in
set_option maxRecDepth 20000 in
theorem gwrongSizes (d : ProgD) (w : World) (hl : d.lie w) (hm : d.small) : Calls Try.prog 25 #[d.v] w (TellF (sizesN d.slots d.ts d.cs.length) w) := by
  have HW := hid (fun n a b w => gwithin n a b w)
  have HS := hid (fun d w => gisShape d w)
  have h1 : d.ts.length = d.tabs.n := hl.t.1
  have h2 : d.cs.length = d.code.n := hl.c.1
  obtain ⟨hm1, hm2⟩ := hm
  have HT : Hid (∀ c a w', (c, a) = sizesN d.slots d.ts d.cs.length → Below w.heap.size w w' → TellF (sizesN d.slots d.ts d.cs.length) w (.returned (.agg #[.int .i64 c, .int .i64 a])) w') := fun c a w' e h => ⟨by rw [← e], h⟩
  have HB : Hid (Below w.heap.size w ((w.alloc (.cells #[.int .i64 d.slots, .slice d.tabs.a d.tabs.n d.tabs.c, .slice d.code.a d.code.n d.code.c] 41)).alloc (.cells #[.int .i64 0, .int .i64 0] 43))) := bl_alloc (bl_alloc (Below.refl _ _))
  by_cases a1 : inB d.slots 0 96 = false
  · have E : Hid ((1, -1) = sizesN d.slots d.ts d.cs.length) := by show _ = _; unfold sizesN; rw [if_pos a1]
    have EA := hid a1
    have HE := hid (fun w' h => HT.out 1 (-1) w' E.out h)
    clear a1 hl h1 h2 HT E HS
    go_enter Try.func25, Try.ntmps25
    go_wp2_with fail
    refine (HW.out _ _ _ _).mono ?_
    rintro e w1 ⟨rfl, rfl⟩
    rw [EA.out]
    go_wp2
    exact bodyPost_ret (v := .agg #[.int .i64 1, .int .i64 (-1)]) (by simp [results, Try.results25, go_sem, *]) rfl (HE.out _ (by first | exact HB.out | exact (bl_alloc (bl_alloc (Below.refl _ _)))))
  have a1t : inB d.slots 0 96 = true := by simpa using a1
  have EA := hid a1t
  by_cases a2 : 5 < d.ts.length
  · have E : Hid ((2, -1) = sizesN d.slots d.ts d.cs.length) := by show _ = _; unfold sizesN; rw [if_neg a1, decide_eq_true (by omega), Bool.true_or, if_pos rfl]
    have h5 : (5 : Int) < (d.tabs.n : Int) := by omega
    have HE := hid (fun w' h => HT.out 2 (-1) w' E.out h)
    clear a1 a1t a2 hl h1 h2 HT E HS
    go_enter Try.func25, Try.ntmps25
    go_wp2_with fail
    refine (HW.out _ _ _ _).mono ?_
    rintro e w1 ⟨rfl, rfl⟩
    rw [EA.out]
    go_wp2
    exact bodyPost_ret (v := .agg #[.int .i64 2, .int .i64 (-1)]) (by simp [results, Try.results25, go_sem, *]) rfl (HE.out _ (bl_alloc (bl_alloc (Below.refl _ _))))
  have h5 : ¬ (5 : Int) < (d.tabs.n : Int) := by omega
  by_cases a3 : inB d.code.n 1 60000 = false
  · have E : Hid ((2, -1) = sizesN d.slots d.ts d.cs.length) := by show _ = _; unfold sizesN; rw [if_neg a1, h2, a3, Bool.not_false, Bool.or_true, if_pos rfl]
    have HE := hid (fun w' h => HT.out 2 (-1) w' E.out h)
    have EB := hid a3
    clear a1 a1t a2 a3 hl h1 h2 HT E HS
    go_enter Try.func25, Try.ntmps25
    go_wp2_with fail
    refine (HW.out _ _ _ _).mono ?_
    rintro e w1 ⟨rfl, rfl⟩
    rw [EA.out]
    go_wp2_with fail
    refine (HW.out _ _ _ _).mono ?_
    rintro e w1 ⟨rfl, rfl⟩
    rw [EB.out]
    go_wp2
    exact bodyPost_ret (v := .agg #[.int .i64 2, .int .i64 (-1)]) (by simp [results, Try.results25, go_sem, *]) rfl (HE.out _ (bl_alloc (bl_alloc (Below.refl _ _))))
  have a3t : inB d.code.n 1 60000 = true := by simpa using a3
  have EB := hid a3t
  have ES : sizesN d.slots d.ts d.cs.length = shapesN d.ts 0 := by
    unfold sizesN
    rw [if_neg a1, h2, a3t, if_neg (by simp; omega)]
  rw [ES] at HT ⊢
  obtain ⟨W2, hW2⟩ : ∃ W2, W2 = ((w.alloc (.cells #[.int .i64 d.slots, .slice d.tabs.a d.tabs.n d.tabs.c, .slice d.code.a d.code.n d.code.c] 41)).alloc (.cells #[.int .i64 0, .int .i64 0] 43)) := ⟨_, rfl⟩
  obtain ⟨fb, hfb⟩ : ∃ b, b = w.heap.size + 1 := ⟨_, rfl⟩
  have FB : Hid (W2.cell? ⟨fb, 0, none⟩ = some (.int .i64 0) ∧ W2.cell? ⟨fb, 1, none⟩ = some (.int .i64 0) ∧ W2.frozen? ⟨fb, 0, none⟩ = false ∧ W2.frozen? ⟨fb, 1, none⟩ = false ∧ w.heap.size ≤ fb) := by
    show _ ∧ _
    rw [hW2, hfb]
    refine ⟨by simp, by simp, by simp, by simp, by omega⟩
  rw [← hW2] at HB
  have EW := hid hW2
  have EF := hid hfb
  have HL := hid hl
  have HN1 := hid h1
  have HM := hid hm1
  clear a1 a1t a2 a3 a3t hl h1 h2 ES hW2 hfb hm2
  go_enter Try.func25, Try.ntmps25
  go_wp2_with fail
  refine (HW.out _ _ _ _).mono ?_
  rintro e w1 ⟨rfl, rfl⟩
  rw [EA.out]
  go_wp2_with fail
  refine (HW.out _ _ _ _).mono ?_
  rintro e w1 ⟨rfl, rfl⟩
  rw [EB.out]
  go_wp2
  rw [← EW.out, ← EF.out]
  clear EW EA EB HW h5
  go_loopw [27, 3, 4] (fun q _ _ wr => ∃ k : Nat, k ≤ d.tabs.n ∧ q = .int .i64 k ∧ Hid (Below W2.heap.size W2 wr) ∧ Hid (∀ j t, j < k → d.ts[j]? = some t → shapeB t = true)) (fun q _ _ _ => d.tabs.n - (intOf q).toNat)
  case atStart => exact ⟨0, Nat.zero_le _, rfl, Below.refl _ _, fun j t hj => absurd hj (Nat.not_lt_zero _)⟩
  case round =>
    obtain ⟨k, hk, rfl, hb, HA⟩ := hrel
    by_cases hlt : k < d.tabs.n
    · have hki : (k : Int) < (d.tabs.n : Int) := by omega
      obtain ⟨g, o, t, ea, ht, ⟨x0, _⟩, ⟨x1, _⟩, ⟨x2, _⟩⟩ := grow_at ((HL.out.step HB.out).t.step ShapeD.keeps hb.out) hlt
      obtain ⟨W3, hW3⟩ : ∃ W3, W3 = wr.alloc (.cells #[.int .i64 t.keys, .int .i64 t.acts, .int .i64 t.args] 52) := ⟨_, rfl⟩
      have b3 : Below W2.heap.size W2 W3 := by rw [hW3]; exact bl_alloc hb.out
      have HB3 := hid b3
      have EW3 := hid hW3
      have HT' := hid ht
      have HSd := hid (HS.out t W3)
      dsimp only [ShapeD.v] at HSd
      rw [ea]
      clear ht b3 hW3
      cases hsb : shapeB t with
      | false =>
        have HE := hid (HT.out 1 (-2 - (k : Int)))
        have EX : Hid ((1, -2 - (k : Int)) = shapesN d.ts 0) := (shapes_bad HA.out HT'.out hsb).symm
        rw [hsb] at HSd
        have hwk := gwrap_i (-2 - (k : Int)) (by omega) (by omega)
        go_wp2_with fail
        rw [← EW3.out]
        refine HSd.out.mono ?_
        rintro e w4 ⟨rfl, b4⟩
        have B4 := hid (bl_step HB3.out b4)
        obtain ⟨f0, f1, f2, f3, f4⟩ := FB.out
        have y0 := cell_keep f0 B4.out
        have y1 := cell_keep f1 B4.out
        have y2 := (B4.out.frozen (p := ⟨fb, 0, none⟩) (World.block_lt_of_cell? _ _ f0)).trans f2
        have y3 := (B4.out.frozen (p := ⟨fb, 1, none⟩) (World.block_lt_of_cell? _ _ f1)).trans f3
        have yl : fb < w4.heap.size := World.block_lt_of_cell? _ _ y0
        have HF : Hid (Below w.heap.size w ((w4.setCell ⟨fb, 0, none⟩ (.int .i64 1)).setCell ⟨fb, 1, none⟩ (.int .i64 (-2 - (k : Int))))) := ((bl_step HB.out B4.out).setCell (p := ⟨fb, 0, none⟩) f4 _).setCell (p := ⟨fb, 1, none⟩) f4 _
        clear HSd b4 B4 f0 f1 f2 f3 f4 HB3 EW3 x0 x1 x2 hb
        go_wp2
        exact bodyPost_ret (v := .agg #[.int .i64 1, .int .i64 (-2 - (k : Int))]) (by simp [results, Try.results25, go_sem, *]) rfl (HE.out _ EX.out HF.out)
      | true =>
        rw [hsb] at HSd
        have HA2 : Hid (∀ j t, j < k + 1 → d.ts[j]? = some t → shapeB t = true) := fun j u hj hu => by
          rcases Nat.lt_or_ge j k with h | h
          · exact HA.out j u h hu
          · obtain rfl : j = k := by omega
            rw [HT'.out] at hu
            cases hu
            exact hsb
        go_wp2_with fail
        rw [← EW3.out]
        refine HSd.out.mono ?_
        rintro e w4 ⟨rfl, b4⟩
        have B4 := hid (bl_step HB3.out b4)
        clear HSd b4 HB3 EW3 x0 x1 x2 hb
        go_wp2
        go_roundw
        case rel => exact ⟨k + 1, by omega, by go_num, B4, HA2⟩
        case measure => simp [intOf]; omega
    · have hki : ¬ (k : Int) < (d.tabs.n : Int) := by omega
      have EX : Hid (((0 : Int), (0 : Int)) = shapesN d.ts 0) := by
        refine (shapes_good fun j t hj ht => HA.out j t ?_ ht).symm
        have := HN1.out
        omega
      obtain ⟨f0, f1, f2, f3, f4⟩ := FB.out
      have y0 := cell_keep f0 hb.out
      have y1 := cell_keep f1 hb.out
      have y2 := (hb.out.frozen (p := ⟨fb, 0, none⟩) (World.block_lt_of_cell? _ _ f0)).trans f2
      have y3 := (hb.out.frozen (p := ⟨fb, 1, none⟩) (World.block_lt_of_cell? _ _ f1)).trans f3
      have yl : fb < wr.heap.size := World.block_lt_of_cell? _ _ y0
      have HF : Hid (Below w.heap.size w ((wr.setCell ⟨fb, 0, none⟩ (.int .i64 0)).setCell ⟨fb, 1, none⟩ (.int .i64 0))) := ((bl_step HB.out hb.out).setCell (p := ⟨fb, 0, none⟩) f4 _).setCell (p := ⟨fb, 1, none⟩) f4 _
      clear f0 f1 f2 f3 f4 hb
      go_wp2
      exact bodyPost_ret (v := .agg #[.int .i64 0, .int .i64 0]) (by simp [results, Try.results25, go_sem, *]) rfl (HT.out 0 0 _ EX.out HF.out)

set_option maxHeartbeats 4000000 in
set_option maxRecDepth 20000 in
theorem gcheck (d : ProgD) (w : World) (hl : d.lie w) (hm : d.small) : Calls Try.prog 20 #[d.v] w (TellF (chkW d.slots d.ts d.cs) w) := by
  have h1 : d.ts.length = d.tabs.n := hl.t.1
  have h2 : d.cs.length = d.code.n := hl.c.1
  have HT : Hid (∀ c a w', (c, a) = chkW d.slots d.ts d.cs → Below w.heap.size w w' → TellF (chkW d.slots d.ts d.cs) w (.returned (.agg #[.int .i64 c, .int .i64 a])) w') := fun c a w' e h => ⟨by rw [← e], h⟩
  obtain ⟨W2, hW2⟩ : ∃ W2, W2 = ((w.alloc (.cells #[.int .i64 d.slots, .slice d.tabs.a d.tabs.n d.tabs.c, .slice d.code.a d.code.n d.code.c] 41)).alloc (.cells #[.int .i64 0, .int .i64 0] 43)) := ⟨_, rfl⟩
  obtain ⟨pb, hpb⟩ : ∃ b, b = w.heap.size := ⟨_, rfl⟩
  obtain ⟨fb, hfb⟩ : ∃ b, b = w.heap.size + 1 := ⟨_, rfl⟩
  have PB : Hid (PBox d W2 pb) := by rw [hW2, hpb]; exact (pbox_new d w).step (bl_alloc (Below.refl _ _))
  have FB : Hid (W2.cell? ⟨fb, 0, none⟩ = some (.int .i64 0) ∧ W2.cell? ⟨fb, 1, none⟩ = some (.int .i64 0) ∧ W2.frozen? ⟨fb, 0, none⟩ = false ∧ W2.frozen? ⟨fb, 1, none⟩ = false ∧ w.heap.size ≤ fb) := by
    show _ ∧ _
    rw [hW2, hfb]
    refine ⟨by simp, by simp, by simp, by simp, by omega⟩
  have HB : Hid (Below w.heap.size w W2) := by rw [hW2]; exact bl_alloc (bl_alloc (Below.refl _ _))
  have HSZ := hid (gwrongSizes d W2 (hl.step HB.out) hm)
  have EW := hid hW2
  have EP := hid hpb
  have EF := hid hfb
  have HL := hid hl
  have HN2 := hid h2
  have HN1 := hid h1
  dsimp only [ProgD.v] at HSZ ⊢
  obtain ⟨c, hc⟩ : ∃ c, c = (sizesN d.slots d.ts d.cs.length).1 := ⟨_, rfl⟩
  obtain ⟨a, ha⟩ : ∃ a, a = (sizesN d.slots d.ts d.cs.length).2 := ⟨_, rfl⟩
  have EC := hid hc
  have EA := hid ha
  clear hW2 hpb hfb hl h1 h2 hc ha
  by_cases hz : c = 0
  · subst hz
    have HOK : Hid (OkSz d) := sizes_ok HN1.out HN2.out EC.out.symm
    go_enter Try.func20, Try.ntmps20
    go_wp2_with fail
    rw [← EW.out, ← EF.out, ← EP.out]
    refine HSZ.out.mono ?_
    rintro e w3 ⟨rfl, b3⟩
    rw [← EC.out, ← EA.out]
    obtain ⟨W4, hW4⟩ : ∃ W4, W4 = w3.alloc (.cells #[.int .i64 0, .int .i64 a] 43) := ⟨_, rfl⟩
    have b4 : Below W2.heap.size W2 W4 := by rw [hW4]; exact bl_alloc b3
    have EW4 := hid hW4
    have HB4 := hid b4
    obtain ⟨p0, p1, p2⟩ := PB.out.step (bl_alloc b3 : Below W2.heap.size W2 (w3.alloc (.cells #[.int .i64 0, .int .i64 a] 43)))
    clear HSZ b3 hW4 EW EF EP b4
    go_wp2
    rw [← EW4.out]
    have HM4 : Hid (d.code.n ≤ 60000) := HOK.out.2.2.2.2.1
    clear EW4 p0 p1 p2
    go_loopw [16, 4, 5] (fun q _ _ wr => ∃ k : Nat, k ≤ d.code.n ∧ q = .int .i64 k ∧ Hid (Below W2.heap.size W2 wr) ∧ Hid (∀ (j : Nat) x, j < k → d.cs[j]? = some x → insN d.slots d.ts d.code.n j x = 0)) (fun q _ _ _ => d.code.n - (intOf q).toNat)
    case atStart => exact ⟨0, Nat.zero_le _, rfl, HB4, fun j t hj => absurd hj (Nat.not_lt_zero _)⟩
    case round =>
      obtain ⟨k, hk, rfl, hb, HA⟩ := hrel
      have hkm : (k : Int) ≤ 60000 := by have := HM4.out; omega
      obtain ⟨p0, p1, p2⟩ := PB.out.step hb.out
      by_cases hlt : k < d.code.n
      · have hki : (k : Int) < (d.code.n : Int) := by omega
        obtain ⟨x, hx⟩ : ∃ x, d.cs[k]? = some x := ⟨_, List.getElem?_eq_getElem (by have := HN2.out; omega)⟩
        have HI := hid (gwrongIns d k wr (HL.out.step (bl_step HB.out hb.out)) HOK.out hlt x hx)
        dsimp only [ProgD.v] at HI
        have HX := hid hx
        clear hx
        obtain ⟨cc, hcc⟩ : ∃ cc, cc = insN d.slots d.ts d.code.n k x := ⟨_, rfl⟩
        rw [← hcc] at HI
        have ECC := hid hcc
        clear hcc
        go_wp2_with fail
        refine HI.out.mono ?_
        rintro e w5 ⟨rfl, b5⟩
        have B5 := hid (bl_step hb.out b5)
        clear b5 HI hb p0 p1 p2
        by_cases hcz : cc = 0
        · have hb0 : (cc != 0) = false := by simpa using hcz
          have HA2 : Hid (∀ (j : Nat) x, j < k + 1 → d.cs[j]? = some x → insN d.slots d.ts d.code.n j x = 0) := fun j u hj hu => by
            rcases Nat.lt_or_ge j k with h | h
            · exact HA.out j u h hu
            · obtain rfl : j = k := by omega
              rw [HX.out] at hu
              cases hu
              rw [← ECC.out]; exact hcz
          clear hcz
          go_wp2
          go_roundw
          case rel => exact ⟨k + 1, by omega, by go_num, B5, HA2⟩
          case measure => simp [intOf]; omega
        · have hb0 : (cc != 0) = true := by simpa using hcz
          have EX : Hid ((cc, (k : Int)) = chkW d.slots d.ts d.cs) := by
            have e1 := inss_bad (m := (d.code.n : Int)) HA.out HX.out (by rw [← ECC.out]; exact hcz)
            show _ = _
            unfold chkW
            rw [if_neg (by rw [← EC.out]; exact fun h => h rfl), HN2.out, e1, ← ECC.out, if_pos hcz]
          obtain ⟨f0, f1, f2, f3, f4⟩ := FB.out
          have y0 := cell_keep f0 B5.out
          have y1 := cell_keep f1 B5.out
          have y2 := (B5.out.frozen (p := ⟨fb, 0, none⟩) (World.block_lt_of_cell? _ _ f0)).trans f2
          have y3 := (B5.out.frozen (p := ⟨fb, 1, none⟩) (World.block_lt_of_cell? _ _ f1)).trans f3
          have yl : fb < w5.heap.size := World.block_lt_of_cell? _ _ y0
          have HF : Hid (Below w.heap.size w ((w5.setCell ⟨fb, 0, none⟩ (.int .i64 cc)).setCell ⟨fb, 1, none⟩ (.int .i64 (k : Int)))) := ((bl_step HB.out B5.out).setCell (p := ⟨fb, 0, none⟩) f4 _).setCell (p := ⟨fb, 1, none⟩) f4 _
          clear f0 f1 f2 f3 f4 B5 hcz
          go_wp2
          exact bodyPost_ret (v := .agg #[.int .i64 cc, .int .i64 (k : Int)]) (by simp [results, Try.results20, go_sem, *]) rfl (HT.out _ _ _ EX.out HF.out)
      · have hki : ¬ (k : Int) < (d.code.n : Int) := by omega
        have h1n : 1 ≤ d.code.n := HOK.out.2.2.2.1
        obtain ⟨g, o, x, ea, hx, ⟨x0, _⟩, _⟩ := grow_at (HL.out.step (bl_step HB.out hb.out)).c (show d.code.n - 1 < d.code.n by omega)
        have EI : Hid (inssN d.slots d.ts d.code.n d.cs 0 = (0, 0)) := inss_good fun j t hj ht => HA.out j t (by have := HN2.out; omega) ht
        have HEN := hid (gends x.op wr)
        obtain ⟨m, hmm⟩ : ∃ m : Nat, d.code.n = m + 1 := ⟨d.code.n - 1, by omega⟩
        have HX : Hid (endsB ((d.cs[d.cs.length - 1]?.map InsD.op).getD 0) = endsB x.op) := by
          show _ = _
          rw [HN2.out, hx]; rfl
        have ECK : Hid (chkW d.slots d.ts d.cs = if endsB x.op = true then (0, 0) else (18, (m : Int))) := by
          show _ = _
          unfold chkW
          rw [if_neg (by rw [← EC.out]; exact fun h => h rfl), HX.out, HN2.out, EI.out, if_neg (by decide), hmm]
          congr 2
          omega
        rw [hmm] at x0 p2
        rw [ea] at p2
        rw [show m + 1 - 1 = m from rfl] at x0
        have hmi : (m : Int) < ((m + 1 : Nat) : Int) := by omega
        have hm0 : (m : Int) ≤ 60000 := by have := HM4.out; omega
        have hwm : IntKind.i64.wrap (((m + 1 : Nat) : Int) - 1) = (m : Int) := by rw [gwrap_i _ (by omega) (by omega)]; omega
        obtain ⟨f0, f1, f2, f3, f4⟩ := FB.out
        have y0 := cell_keep f0 hb.out
        have y1 := cell_keep f1 hb.out
        have y2 := (hb.out.frozen (p := ⟨fb, 0, none⟩) (World.block_lt_of_cell? _ _ f0)).trans f2
        have y3 := (hb.out.frozen (p := ⟨fb, 1, none⟩) (World.block_lt_of_cell? _ _ f1)).trans f3
        have yl : fb < wr.heap.size := World.block_lt_of_cell? _ _ y0
        have HF : Hid (∀ u v, Below w.heap.size w ((wr.setCell ⟨fb, 0, none⟩ u).setCell ⟨fb, 1, none⟩ v)) := fun u v => ((bl_step HB.out hb.out).setCell (p := ⟨fb, 0, none⟩) f4 _).setCell (p := ⟨fb, 1, none⟩) f4 _
        clear f0 f1 f2 f3 f4 hb HA hx ea EI HX hmm h1n hlt hk
        go_wp2_with fail
        refine HEN.out.mono ?_
        rintro e w6 ⟨rfl, rfl⟩
        clear HEN
        cases hE : endsB x.op with
        | true =>
          rw [hE, if_pos rfl] at ECK
          have EX := hid ECK.out.symm
          clear ECK hE
          go_wp2
          exact bodyPost_ret (v := .agg #[.int .i64 0, .int .i64 0]) (by simp [results, Try.results20, go_sem, *]) rfl (HT.out _ _ _ EX.out (HF.out _ _))
        | false =>
          rw [hE, if_neg (by decide)] at ECK
          have EX := hid ECK.out.symm
          clear ECK hE
          go_wp2
          exact bodyPost_ret (v := .agg #[.int .i64 18, .int .i64 (m : Int)]) (by simp [results, Try.results20, go_sem, *]) rfl (HT.out _ _ _ EX.out (HF.out _ _))
  · have hb0 : (c != 0) = true := by simpa using hz
    have EX : Hid ((c, a) = chkW d.slots d.ts d.cs) := by
      show _ = _
      unfold chkW
      rw [if_pos (by rw [← EC.out]; exact hz), EC.out, EA.out]
    go_enter Try.func20, Try.ntmps20
    go_wp2_with fail
    rw [← EW.out, ← EF.out, ← EP.out]
    refine HSZ.out.mono ?_
    rintro e w3 ⟨rfl, b3⟩
    rw [← EC.out, ← EA.out]
    obtain ⟨f0, f1, f2, f3, f4⟩ := FB.out
    have y0 := cell_keep f0 b3
    have y1 := cell_keep f1 b3
    have y2 := (b3.frozen (p := ⟨fb, 0, none⟩) (World.block_lt_of_cell? _ _ f0)).trans f2
    have y3 := (b3.frozen (p := ⟨fb, 1, none⟩) (World.block_lt_of_cell? _ _ f1)).trans f3
    have yl : fb < w3.heap.size := World.block_lt_of_cell? _ _ y0
    have HF : Hid (∀ u v o, Below w.heap.size w (((w3.setCell ⟨fb, 0, none⟩ u).setCell ⟨fb, 1, none⟩ v).alloc o)) := fun u v o => bl_alloc (((bl_step HB.out b3).setCell (p := ⟨fb, 0, none⟩) f4 _).setCell (p := ⟨fb, 1, none⟩) f4 _)
    clear f0 f1 f2 f3 f4 b3 HSZ EW EF EP hz EC EA
    go_wp2
    exact bodyPost_ret (v := .agg #[.int .i64 c, .int .i64 a]) (by simp [results, Try.results20, go_sem, *]) rfl (HT.out _ _ _ EX.out (HF.out _ _ _))
end Go.Proofs.Ytkipfppblhkodaa
