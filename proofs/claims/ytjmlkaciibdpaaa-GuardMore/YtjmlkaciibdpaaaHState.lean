/- guard's states: join. -/
import Derived.Test.YtjmlkaciibdpaaaHLay
namespace Go.Proofs.Ytjmlkaciibdpaaa
open Go.RowKit

theorem load_st (w : World) (b o : Nat) (cs : List Value) (hl : cs.length = 147) (h : w.rangeAt b o cs) : (Instr.loadAt 49 (.pointer (some ⟨b, o, none⟩))).run Try.prog w = .ok (.agg cs.toArray) w :=
  run_loadAt_mid w b o 49 cs _ h Try.underlying49 rfl (by rw [hl]; exact Try.sizeSt)
theorem loadv_st (w : World) (b o : Nat) (cs : List Value) (hl : cs.length = 147) (h : w.rangeAt b o cs) : (loadVar 49 ⟨b, o, none⟩).run Try.prog w = .ok (.agg cs.toArray) w :=
  run_loadVar_mid w b o 49 cs _ h Try.underlying49 rfl (by rw [hl]; exact Try.sizeSt)
theorem store_st (w : World) (b o : Nat) (cs : List Value) (hl : cs.length = 147) (h1 : ∀ v ∈ cs, v.oneCell' = true) (h : w.there b o 147) : (Instr.storeAt 49 (.pointer (some ⟨b, o, none⟩)) (.agg cs.toArray)).run Try.prog w = .ok () (w.setCells b o cs) := by
  have := run_storeAt_mid (P := Try.prog) w b o 49 cs.toArray (by simpa [hl] using h) (by rw [List.size_toArray, hl]; exact Try.sizeSt) (all_oneCell_toArray h1)
  simpa using this
theorem below_setCells {w W : World} {b : Nat} (h : Below w.heap.size w W) (hb : w.heap.size ≤ b) : ∀ (vs : List Value) (o : Nat), Below w.heap.size w (W.setCells b o vs) := by
  intro vs
  induction vs generalizing W with
  | nil => intro o; exact h
  | cons v r ih => intro o; rw [World.setCells]; exact ih (hput1 h hb o v) (o + 1)

/-- what a function tells whose result lies in a box -/
theorem results_cell {P : Program} {fn : Func} {t : Tmp} {T : TypeId} (h : fn.results = #[.cell t T]) (tmps : Array Value) (w : World) {ad : Addr} {v : Value} (ha : tmps.getD t undef = .pointer (some ad)) (hl : (loadVar T ad).run P w = .ok v w) : (results fn tmps).run P w = .ok v w := by
  have ha2 : tmps[t]?.getD undef = .pointer (some ad) := by simpa using ha
  simp [results, h, ha2, asAddr, hl]

set_option maxHeartbeats 2000000 in
set_option maxRecDepth 20000 in
theorem hst_none (t : SD) (w : World) : Calls Try.prog 40 #[.agg (stC false SD.none).toArray, .agg (stC true t).toArray] w (TellV (.agg (stC true t).toArray) w) := by
  obtain ⟨A, hA⟩ : ∃ A, A = stC false SD.none := ⟨_, rfl⟩
  obtain ⟨B, hB⟩ : ∃ A, A = stC true t := ⟨_, rfl⟩
  have hz := fun w => zero_st w
  rw [← hA] at hz ⊢
  rw [← hB]
  have la : A.length = 147 := by rw [hA]; exact stC_len _ _
  have lb : B.length = 147 := by rw [hB]; exact stC_len _ _
  obtain ⟨W3, hW3⟩ : ∃ W, W = ((w.alloc (.cells A.toArray 49)).alloc (.cells B.toArray 49)).alloc (.cells A.toArray 49) := ⟨_, rfl⟩
  obtain ⟨a, ha⟩ : ∃ rb, rb = w.heap.size := ⟨_, rfl⟩
  obtain ⟨b, hb⟩ : ∃ rb, rb = w.heap.size + 1 := ⟨_, rfl⟩
  obtain ⟨r, hr⟩ : ∃ rb, rb = w.heap.size + 1 + 1 := ⟨_, rfl⟩
  have B3 : Hid (Below w.heap.size w W3) := by rw [hW3]; exact bl_alloc (bl_alloc (bl_alloc (Below.refl _ _)))
  have ra : W3.rangeAt a 0 A := by
    rw [hW3, ha]
    exact range_step (range_new _ _ _) (bl_alloc (bl_alloc (Below.refl _ _)))
  have rb : W3.rangeAt b 0 B := by
    rw [hW3, hb]
    have := range_step (range_new (w.alloc (.cells A.toArray 49)) B 49) (bl_alloc (o := .cells A.toArray 49) (Below.refl _ _))
    simpa using this
  have tr : W3.there r 0 147 := by
    rw [hW3, hr]
    have := there_new ((w.alloc (.cells A.toArray 49)).alloc (.cells B.toArray 49)) A 49
    rw [la] at this
    simpa using this
  have c0 : W3.cell? ⟨a, 0, none⟩ = some (.bool false) := by
    rw [hA] at ra
    exact (range_st.1 ra).1
  have hla : a < W3.heap.size := World.block_lt_of_cell? _ _ c0
  have HRB := hid rb
  have HTR := hid tr
  have HL : Hid (B.length = 147) := lb
  have o1 : ∀ v ∈ B, v.oneCell' = true := by rw [hB]; exact stC_one _ _
  have HO := hid o1
  have HLR := hid (loadv_st (W3.setCells r 0 B) r 0 B lb (World.rangeAt_setCells_same _ _ _ _ (by rw [lb]; exact tr)))
  have HB : Hid (Below w.heap.size w (W3.setCells r 0 B)) := below_setCells B3.out (by rw [hr]; omega) _ _
  have EW := hid hW3
  have EA := hid ha
  have EB := hid hb
  have ER := hid hr
  clear hW3 ha hb hr hA hB la lb o1 tr ra rb B3
  go_enter Try.func40, Try.ntmps40
  go_upto_region 1 with fail
  rw [← EW.out, ← ER.out, ← EB.out, ← EA.out]
  clear EW EA EB ER hz
  go_upto_region 2 with fail
  refine wp_region_lit ?_
  refine wpList_load_mid rfl 49 (.tmp 3) rfl b 0 rfl B _ HRB.out Try.underlying49 rfl (by rw [HL.out]; exact Try.sizeSt) ?_
  refine wpList_store_mid rfl 49 (.tmp 4) (.tmp 10) rfl r 0 B.toArray (by simp [Act.eval, Act.put]) (by simp [Act.eval, Act.put]) (by rw [List.size_toArray, HL.out]; exact HTR.out) (by rw [List.size_toArray, HL.out]; exact Try.sizeSt) (all_oneCell_toArray HO.out) ?_
  refine wpList_nil ?_
  go_wp2_with fail
  exact bodyPost_ret (v := .agg B.toArray) (results_cell Try.results40 _ _ rfl HLR.out) rfl ⟨rfl, HB.out⟩

/-- what lies, register by register -/
theorem range_congr {w : World} {b o : Nat} {t : Bool} {s s' : SD} (h : w.rangeAt b o (stC t s)) (hr : ∀ i, i < 10 → s.reg i = s'.reg i) (hs : ∀ i, i < 96 → s.slot i = s'.slot i) : w.rangeAt b o (stC t s') := by
  rw [range_st] at h ⊢
  exact ⟨h.1, fun i hi => by rw [← hr i hi]; exact h.2.1 i hi, fun i hi => by rw [← hs i hi]; exact h.2.2 i hi⟩

theorem st_putR {w : World} {b o : Nat} {t : Bool} {s : SD} (h : w.rangeAt b o (stC t s)) (ht : w.there b o 147) {i : Nat} (hi : i < 10) (r : RD) : (w.setCells b (o + 1 + i * 5) (regC r)).rangeAt b o (stC t (s.setR i r)) := by
  rw [range_st] at h ⊢
  refine ⟨?_, fun j hj => ?_, fun j hj => ?_⟩
  · have h0 : w.rangeAt b o [.bool t] := fun j v hv => by
      cases j with
      | zero => simp only [List.getElem?_cons_zero, Option.some.injEq] at hv; subst hv; exact h.1
      | succ j => simp at hv
    exact World.rangeAt_setCells_apart h0 b _ (regC r) (.inr (.inl (by simp only [List.length_cons, List.length_nil]; omega))) 0 _ rfl
  · by_cases e : j = i
    · subst e
      have e : ((s.setR j r).reg j) = r := by simp [SD.setR]
      rw [e]
      exact World.rangeAt_setCells_same _ _ _ _ (fun q hq => by
        have : q < 5 := hq
        have := ht (1 + j * 5 + q) (by omega)
        rw [show o + 1 + j * 5 + q = o + (1 + j * 5 + q) by omega]
        exact this)
    · have e2 : ((s.setR i r).reg j) = s.reg j := by simp [SD.setR, e]
      rw [e2]
      exact World.rangeAt_setCells_apart (h.2.1 j hj) b _ (regC r) (.inr (by
        have h1 : (regC r).length = 5 := rfl
        have h2 : (regC (s.reg j)).length = 5 := rfl
        omega))
  · have h0 : w.rangeAt b (o + 51 + j) [.bool (s.slot j)] := fun q v hv => by
      cases q with
      | zero => simp only [List.getElem?_cons_zero, Option.some.injEq] at hv; subst hv; exact h.2.2 j hj
      | succ q => simp at hv
    exact World.rangeAt_setCells_apart h0 b _ (regC r) (.inr (.inr (by
      have h1 : (regC r).length = 5 := rfl
      omega))) 0 _ rfl

theorem st_putS {w : World} {b o : Nat} {t : Bool} {s s' : SD} (h : w.rangeAt b o (stC t s)) {i : Nat} (hi : i < 96) {x : Bool} (hr : ∀ j, s'.reg j = s.reg j) (hx : s'.slot i = x) (hs : ∀ j, j ≠ i → s'.slot j = s.slot j) : (w.setCell ⟨b, o + 51 + i, none⟩ (.bool x)).rangeAt b o (stC t s') := by
  rw [range_st] at h ⊢
  have far : ∀ p v, p ≠ o + 51 + i → w.cell? ⟨b, p, none⟩ = some v → (w.setCell ⟨b, o + 51 + i, none⟩ (.bool x)).cell? ⟨b, p, none⟩ = some v := fun p v hp hv =>
    (World.cell?_setCell_other _ _ _ _ (by intro e; simp only [Addr.mk.injEq] at e; omega)).trans hv
  refine ⟨far _ _ (by omega) h.1, fun j hj q v hv => ?_, fun j hj => ?_⟩
  · rw [hr j] at hv
    have : q < 5 := (List.getElem?_eq_some_iff.1 hv).1
    exact far _ _ (by omega) (h.2.1 j hj q v hv)
  · by_cases e : j = i
    · subst e
      rw [hx]
      exact World.cell?_setCell_same _ _ _ (h.2.2 j hj)
    · rw [hs j e]
      exact far _ _ (by omega) (h.2.2 j hj)

theorem there_set {w : World} {b o n : Nat} (h : w.there b o n) (c p : Nat) (v : Value) : (w.setCell ⟨c, p, none⟩ v).there b o n := World.there_setCells h c p [v]

def mixR (k : Nat) (s t : SD) : SD := ⟨fun i => if i < k then (s.reg i).join (t.reg i) else s.reg i, s.slot⟩
def mixS (k : Nat) (s t : SD) : SD := ⟨fun i => (s.reg i).join (t.reg i), fun i => if i < k then s.slot i && t.slot i else s.slot i⟩

/-- the three boxes of join -/
structure JBox (w : World) (a b r : Nat) (s t : SD) (W : World) : Prop where
  ra : W.rangeAt a 0 (stC true s)
  ta : W.there a 0 147
  rb : W.rangeAt b 0 (stC true t)
  tr : W.there r 0 147
  bel : Below w.heap.size w W
theorem JBox.step {w : World} {a b r : Nat} {s t : SD} {W W' : World} (h : JBox w a b r s t W) (hb : Below W.heap.size W W') : JBox w a b r s t W' := ⟨range_step h.ra hb, there_step h.ta hb, range_step h.rb hb, there_step h.tr hb, bl_step h.bel hb⟩
theorem JBox.putR {w : World} {a b r : Nat} {s t : SD} {W : World} (h : JBox w a b r s t W) (hab : ¬ a = b) (hw : w.heap.size ≤ a) {i : Nat} (hi : i < 10) (x : RD) : JBox w a b r (s.setR i x) t (W.setCells a (0 + 1 + i * 5) (regC x)) :=
  ⟨st_putR h.ra h.ta hi x, World.there_setCells h.ta _ _ _, World.rangeAt_setCells_apart h.rb _ _ _ (.inl fun e => hab e.symm), World.there_setCells h.tr _ _ _, below_setCells h.bel hw _ _⟩

set_option maxHeartbeats 4000000 in
set_option maxRecDepth 20000 in
theorem hst_some (s t : SD) (w : World) : Calls Try.prog 40 #[.agg (stC true s).toArray, .agg (stC true t).toArray] w (TellV (.agg (stC true (s.join t)).toArray) w) := by
  obtain ⟨Z, hZ⟩ : ∃ A, A = stC false SD.none := ⟨_, rfl⟩
  obtain ⟨A, hA⟩ : ∃ A, A = stC true s := ⟨_, rfl⟩
  obtain ⟨B, hB⟩ : ∃ A, A = stC true t := ⟨_, rfl⟩
  have hz := fun w => zero_st w
  rw [← hZ] at hz
  rw [← hA, ← hB]
  have lz : Z.length = 147 := by rw [hZ]; exact stC_len _ _
  have la : A.length = 147 := by rw [hA]; exact stC_len _ _
  obtain ⟨W3, hW3⟩ : ∃ W, W = ((w.alloc (.cells A.toArray 49)).alloc (.cells B.toArray 49)).alloc (.cells Z.toArray 49) := ⟨_, rfl⟩
  obtain ⟨a, ha⟩ : ∃ rb, rb = w.heap.size := ⟨_, rfl⟩
  obtain ⟨b, hb⟩ : ∃ rb, rb = w.heap.size + 1 := ⟨_, rfl⟩
  obtain ⟨r, hr⟩ : ∃ rb, rb = w.heap.size + 1 + 1 := ⟨_, rfl⟩
  have HJ : Hid (JBox w a b r s t W3) := by
    refine ⟨?_, ?_, ?_, ?_, ?_⟩
    · rw [hW3, ha, ← hA]
      exact range_step (range_new _ _ _) (bl_alloc (bl_alloc (Below.refl _ _)))
    · rw [hW3, ha]
      have := there_step (there_new w A 49) (bl_alloc (o := .cells Z.toArray 49) (bl_alloc (o := .cells B.toArray 49) (Below.refl _ _)))
      rw [la] at this
      exact this
    · rw [hW3, hb, ← hB]
      have := range_step (range_new (w.alloc (.cells A.toArray 49)) B 49) (bl_alloc (o := .cells Z.toArray 49) (Below.refl _ _))
      simpa using this
    · rw [hW3, hr]
      have := there_new ((w.alloc (.cells A.toArray 49)).alloc (.cells B.toArray 49)) Z 49
      rw [lz] at this
      simpa using this
    · rw [hW3]; exact bl_alloc (bl_alloc (bl_alloc (Below.refl _ _)))
  have HNE : Hid (¬ a = b ∧ w.heap.size ≤ a ∧ w.heap.size ≤ r) := ⟨by omega, by omega, by omega⟩
  have c0 : W3.cell? ⟨a, 0, none⟩ = some (.bool true) := (range_st.1 HJ.out.ra).1
  have hla : a < W3.heap.size := World.block_lt_of_cell? _ _ c0
  have HJN := hid (fun x y w => hjoin x y w)
  have EW := hid hW3
  have EA := hid ha
  have EB := hid hb
  have ER := hid hr
  clear hW3 ha hb hr hA hB hZ la lz
  go_enter Try.func40, Try.ntmps40
  go_upto_region 1 with fail
  rw [← EW.out, ← ER.out, ← EB.out, ← EA.out]
  clear EW EA EB ER hz
  go_wp2
  clear c0 hla
  haveI inhB : ∀ w : World, Inhabited (BelowBy w) := fun w => ⟨⟨w, Below.refl _ _⟩⟩
  go_loopw [11, 5] (fun q _ wr => ∃ k : Nat, k ≤ 10 ∧ q = .int .i64 k ∧ Hid (JBox w a b r (mixR k s t) t wr)) (fun q _ _ => 10 - (intOf q).toNat)
  case atStart => exact ⟨0, by omega, rfl, HJ⟩
  case round =>
    obtain ⟨k, hk, rfl, J⟩ := hrel
    by_cases hlt : k < 10
    · have hki : (k : Int) < 10 := by omega
      have h1 := (range_st.1 J.out.ra).2.1 k hlt
      have h2 := (range_st.1 J.out.rb).2.1 k hlt
      rw [show (mixR k s t).reg k = s.reg k by simp [mixR]] at h1
      rw [range_reg] at h1 h2
      obtain ⟨a0, a1, a2, a3, a4⟩ := h1
      obtain ⟨b0, b1, b2, b3, b4⟩ := h2
      simp only [Nat.zero_add] at a0 a1 a2 a3 a4 b0 b1 b2 b3 b4
      have HC : Hid (∀ q : BelowBy wr, Calls Try.prog 49 #[regV (s.reg k), regV (t.reg k)] q.to fun e w' => e = .returned (regV ((s.reg k).join (t.reg k))) ∧ Below q.to.heap.size q.to w') := fun q => HJN.out _ _ q.to
      have HN : Hid (∀ wq, Below wr.heap.size wr wq → JBox w a b r (mixR (k + 1) s t) t (wq.setCells a (0 + 1 + k * 5) (regC ((s.reg k).join (t.reg k))))) := fun wq hq => by
        have := (J.out.step hq).putR HNE.out.1 HNE.out.2.1 hlt ((s.reg k).join (t.reg k))
        refine ⟨range_congr this.ra (fun i _ => ?_) (fun _ _ => rfl), this.ta, this.rb, this.tr, this.bel⟩
        show (if i = k then (s.reg k).join (t.reg k) else if i < k then (s.reg i).join (t.reg i) else s.reg i) = if i < k + 1 then (s.reg i).join (t.reg i) else s.reg i
        by_cases e : i = k
        · subst e; rw [if_pos rfl, if_pos (by omega)]
        · rw [if_neg e]
          by_cases e2 : i < k
          · rw [if_pos e2, if_pos (by omega)]
          · rw [if_neg e2, if_neg (by omega)]
      have HT : Hid (∀ wq, Below wr.heap.size wr wq → wq.there a 0 147) := fun wq hq => there_step J.out.ta hq
      unfold regC at HN
      generalize (s.reg k).join (t.reg k) = X at *
      generalize s.reg k = x at *
      generalize t.reg k = y at *
      have a0' := cell_by a0
      have a1' := cell_by a1
      have a2' := cell_by a2
      have a3' := cell_by a3
      have a4' := cell_by a4
      have b0' := cell_by b0
      have b1' := cell_by b1
      have b2' := cell_by b2
      have b3' := cell_by b3
      have b4' := cell_by b4
      have hla : a < wr.heap.size := World.block_lt_of_cell? _ _ a0
      have hlb : b < wr.heap.size := World.block_lt_of_cell? _ _ b0
      go_wp2_with fail
      refine wp_region_cutQ 12 (by kernel_rfl) (by kernel_rfl) ?_
      simp only [List.take_succ_cons, List.take_zero]
      repeat (go_big_quiet_step (first | (go_at_call 49; exact calls_below _ (HC.out _))))
      refine wpQuiet_nil ?_
      intro wq hw'
      obtain ⟨⟨_, hwq⟩, hw''⟩ := hw'
      subst hw''
      simp only [List.drop_succ_cons, List.drop_zero]
      have c0 := cell_keep a0 hwq
      have c1 := cell_keep a1 hwq
      have c2 := cell_keep a2 hwq
      have c3 := cell_keep a3 hwq
      have c4 := cell_keep a4 hwq
      have hT := HT.out wq hwq
      have f0 : wq.frozen? ⟨a, 1 + k * 5, none⟩ = false := by have := (hT (1 + k * 5) (by omega)).2; simpa using this
      have f1 : wq.frozen? ⟨a, 1 + k * 5 + 1, none⟩ = false := by have := (hT (1 + k * 5 + 1) (by omega)).2; simpa using this
      have f2 : wq.frozen? ⟨a, 1 + k * 5 + 2, none⟩ = false := by have := (hT (1 + k * 5 + 2) (by omega)).2; simpa using this
      have f3 : wq.frozen? ⟨a, 1 + k * 5 + 3, none⟩ = false := by have := (hT (1 + k * 5 + 3) (by omega)).2; simpa using this
      have f4 : wq.frozen? ⟨a, 1 + k * 5 + 4, none⟩ = false := by have := (hT (1 + k * 5 + 4) (by omega)).2; simpa using this
      have hlq : a < wq.heap.size := World.block_lt_of_cell? _ _ c0
      have HNQ := hid (HN.out wq hwq)
      clear hT a0 a1 a2 a3 a4 b0 b1 b2 b3 b4 a0' a1' a2' a3' a4' b0' b1' b2' b3' b4' hla hlb HC HN HT J hwq HJ HJN inhB
      go_wp2
      go_roundw
      case rel => exact ⟨k + 1, by omega, by go_num, HNQ⟩
      case measure => simp [intOf]; omega
    · obtain rfl : k = 10 := by omega
      have J0 : Hid (JBox w a b r (mixS 0 s t) t wr) := ⟨range_congr J.out.ra (fun i hi => by simp [mixR, mixS, hi]) (fun i hi => by simp [mixR, mixS]), J.out.ta, J.out.rb, J.out.tr, J.out.bel⟩
      clear J hlt hk HJN HJ inhB
      go_wp2
      go_loopw [27, 6] (fun q _ wr => ∃ k : Nat, k ≤ 96 ∧ q = .int .i64 k ∧ Hid (JBox w a b r (mixS k s t) t wr)) (fun q _ _ => 96 - (intOf q).toNat)
      case atStart => exact ⟨0, by omega, rfl, J0⟩
      case round =>
        obtain ⟨k, hk, rfl, J⟩ := hrel
        clear J0
        by_cases hlt : k < 96
        · have hki : (k : Int) < 96 := by omega
          have h1 := (range_st.1 J.out.ra).2.2 k hlt
          have h2 := (range_st.1 J.out.rb).2.2 k hlt
          rw [show (mixS k s t).slot k = s.slot k by simp [mixS]] at h1
          simp only [Nat.zero_add] at h1 h2
          have f1 : wr.frozen? ⟨a, 51 + k, none⟩ = false := by have := (J.out.ta (51 + k) (by omega)).2; simpa using this
          have hla : a < wr.heap.size := World.block_lt_of_cell? _ _ h1
          have hlb : b < wr.heap.size := World.block_lt_of_cell? _ _ h2
          have HN : Hid (JBox w a b r (mixS (k + 1) s t) t (wr.setCell ⟨a, 0 + 51 + k, none⟩ (.bool (s.slot k && t.slot k)))) := by
            refine ⟨st_putS J.out.ra hlt (fun _ => rfl) (by simp [mixS]) (fun j hj => ?_), there_set J.out.ta _ _ _, World.rangeAt_setCells_apart J.out.rb a _ [_] (.inl fun e => HNE.out.1 e.symm), there_set J.out.tr _ _ _, hput1 J.out.bel HNE.out.2.1 _ _⟩
            show (if j < k + 1 then s.slot j && t.slot j else s.slot j) = if j < k then s.slot j && t.slot j else s.slot j
            by_cases e : j < k
            · rw [if_pos e, if_pos (by omega)]
            · rw [if_neg e, if_neg (by omega)]
          rw [Nat.zero_add] at HN
          clear J
          generalize s.slot k = x at *
          generalize t.slot k = y at *
          cases x
          all_goals
            go_wp2
            go_roundw
            case rel => exact ⟨k + 1, by omega, by go_num, HN⟩
            case measure => simp [intOf]; omega
        · obtain rfl : k = 96 := by omega
          obtain ⟨C, hC⟩ : ∃ C, C = stC true (s.join t) := ⟨_, rfl⟩
          have HL : Hid (C.length = 147) := by rw [hC]; exact stC_len _ _
          have HRB : Hid (wr.rangeAt a 0 C) := by rw [hC]; exact range_congr J.out.ra (fun i hi => rfl) (fun i hi => by simp [mixS, SD.join, hi])
          have HTR := hid J.out.tr
          have HO : Hid (∀ v ∈ C, v.oneCell' = true) := by rw [hC]; exact stC_one _ _
          have HLR := hid (loadv_st (wr.setCells r 0 C) r 0 C HL.out (World.rangeAt_setCells_same _ _ _ _ (by rw [HL.out]; exact HTR.out)))
          have HB : Hid (Below w.heap.size w (wr.setCells r 0 C)) := below_setCells J.out.bel HNE.out.2.2 _ _
          have HCC := hid hC
          clear J hlt hk hC
          go_upto_region 13 with fail
          refine wp_region_lit ?_
          refine wpList_load_mid rfl 49 (.tmp 2) rfl a 0 rfl C _ HRB.out Try.underlying49 rfl (by rw [HL.out]; exact Try.sizeSt) ?_
          refine wpList_store_mid rfl 49 (.tmp 4) (.tmp 44) rfl r 0 C.toArray (by simp [Act.eval, Act.put]) (by simp [Act.eval, Act.put]) (by rw [List.size_toArray, HL.out]; exact HTR.out) (by rw [List.size_toArray, HL.out]; exact Try.sizeSt) (all_oneCell_toArray HO.out) ?_
          refine wpList_nil ?_
          go_wp2_with fail
          exact bodyPost_ret (v := .agg C.toArray) (results_cell Try.results40 _ _ rfl HLR.out) rfl ⟨by rw [HCC.out], HB.out⟩

theorem hst (o : Option SD) (t : SD) (w : World) : Calls Try.prog 40 #[.agg (stO o).toArray, .agg (stO (some t)).toArray] w (TellV (.agg (stO (some (joinO o t))).toArray) w) := by
  cases o with
  | none => exact hst_none t w
  | some s => exact hst_some s t w
end Go.Proofs.Ytjmlkaciibdpaaa
