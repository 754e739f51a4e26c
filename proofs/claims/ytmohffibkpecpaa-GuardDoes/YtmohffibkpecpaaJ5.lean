/- Texts of one chain, joined: HLay, HState, HVis, HVis2, HVis3, HWrong. -/
import Derived.Test.YtmohffibkpecpaaJ4
import Derived.Test.YtmohffibkpecpaaVGOwn
import Derived.Deep.MidRow
namespace Go.Proofs.Ytmohffibkpecpaa
open Go.RowKit

def regC (r : RD) : List Value := [.bool r.set, .bool r.just.isSome, .int .u64 ((r.just.getD 0 : Nat) : Int), .bool r.room.isSome, .int .u64 ((r.room.getD 0 : Nat) : Int)]
def stC (t : Bool) (s : SD) : List Value := .bool t :: ((List.range 10).flatMap fun i => regC (s.reg i)) ++ (List.range 96).map fun i => .bool (s.slot i)
def stO : Option SD → List Value
  | none => stC false SD.none
  | some s => stC true s

theorem regs_len (s : SD) : ((List.range 10).flatMap fun i => regC (s.reg i)).length = 50 := by
  rw [gflat_n (k := 5) (fun _ => rfl)]
  rfl
theorem stC_len (t : Bool) (s : SD) : (stC t s).length = 147 := by
  simp only [stC, List.cons_append, List.length_cons, List.length_append, regs_len, List.length_map, List.length_range]
theorem stO_len (o : Option SD) : (stO o).length = 147 := by cases o <;> exact stC_len _ _

/-- five cells -/
theorem range_reg {w : World} {b o : Nat} {r : RD} : w.rangeAt b o (regC r) ↔ w.cell? ⟨b, o, none⟩ = some (.bool r.set) ∧ w.cell? ⟨b, o + 1, none⟩ = some (.bool r.just.isSome) ∧ w.cell? ⟨b, o + 2, none⟩ = some (.int .u64 ((r.just.getD 0 : Nat) : Int)) ∧ w.cell? ⟨b, o + 3, none⟩ = some (.bool r.room.isSome) ∧ w.cell? ⟨b, o + 4, none⟩ = some (.int .u64 ((r.room.getD 0 : Nat) : Int)) := by
  constructor
  · intro h
    exact ⟨h 0 _ rfl, h 1 _ rfl, h 2 _ rfl, h 3 _ rfl, h 4 _ rfl⟩
  · rintro ⟨h0, h1, h2, h3, h4⟩ j v hv
    match j with
    | 0 => simp only [regC, List.getElem?_cons_zero, Option.some.injEq] at hv; subst hv; exact h0
    | 1 => simp only [regC, List.getElem?_cons_succ, List.getElem?_cons_zero, Option.some.injEq] at hv; subst hv; exact h1
    | 2 => simp only [regC, List.getElem?_cons_succ, List.getElem?_cons_zero, Option.some.injEq] at hv; subst hv; exact h2
    | 3 => simp only [regC, List.getElem?_cons_succ, List.getElem?_cons_zero, Option.some.injEq] at hv; subst hv; exact h3
    | 4 => simp only [regC, List.getElem?_cons_succ, List.getElem?_cons_zero, Option.some.injEq] at hv; subst hv; exact h4
    | j + 5 => simp [regC] at hv

theorem range_st {w : World} {b o : Nat} {t : Bool} {s : SD} : w.rangeAt b o (stC t s) ↔ w.cell? ⟨b, o, none⟩ = some (.bool t) ∧ (∀ i, i < 10 → w.rangeAt b (o + 1 + i * 5) (regC (s.reg i))) ∧ ∀ i, i < 96 → w.cell? ⟨b, o + 51 + i, none⟩ = some (.bool (s.slot i)) := by
  have hl := regs_len s
  constructor
  · intro h
    refine ⟨h 0 _ rfl, fun i hi j v hv => ?_, fun i hi => ?_⟩
    · have hj : j < 5 := (List.getElem?_eq_some_iff.1 hv).1
      have hf : ((List.range 10).flatMap fun i => regC (s.reg i))[i * 5 + j]? = some v := gflat_to (k := 5) (fun _ => rfl) (s := i) (by rw [List.getElem?_range hi]) hv
      have := h (1 + (i * 5 + j)) v (by
        unfold stC
        rw [List.cons_append, Nat.add_comm 1, List.getElem?_cons_succ, List.getElem?_append_left (by rw [hl]; omega)]
        exact hf)
      rw [show o + 1 + i * 5 + j = o + (1 + (i * 5 + j)) by omega]
      exact this
    · have := h (51 + i) (.bool (s.slot i)) (by
        unfold stC
        rw [List.cons_append, show 51 + i = (50 + i) + 1 by omega, List.getElem?_cons_succ, List.getElem?_append_right (by rw [hl]; omega), hl, show 50 + i - 50 = i by omega, List.getElem?_map, List.getElem?_range hi]
        rfl)
      rw [show o + 51 + i = o + (51 + i) by omega]
      exact this
  · rintro ⟨h0, hr, hs⟩ j v hv
    unfold stC at hv
    rw [List.cons_append] at hv
    cases j with
    | zero =>
      simp only [List.getElem?_cons_zero, Option.some.injEq] at hv
      subst hv
      exact h0
    | succ j =>
      rw [List.getElem?_cons_succ] at hv
      rcases Nat.lt_or_ge j 50 with h | h
      · rw [List.getElem?_append_left (by rw [hl]; omega)] at hv
        obtain ⟨i, r, x, hx, hu, rfl⟩ := gflat_at (k := 5) (fun _ => rfl) hv
        have hi : i < 10 := by
          have := (List.getElem?_eq_some_iff.1 hx).1
          simpa using this
        rw [List.getElem?_range hi] at hx
        cases hx
        have := hr i hi r v hu
        rw [show o + (i * 5 + r + 1) = o + 1 + i * 5 + r by omega]
        exact this
      · rw [List.getElem?_append_right (by rw [hl]; omega), hl, List.getElem?_map] at hv
        have hj : j - 50 < 96 := by
          rcases Nat.lt_or_ge (j - 50) 96 with h2 | h2
          · exact h2
          · rw [List.getElem?_eq_none (by simpa using h2)] at hv; cases hv
        rw [List.getElem?_range hj] at hv
        simp only [Option.map_some, Option.some.injEq] at hv
        subst hv
        have := hs (j - 50) hj
        rw [show o + 51 + (j - 50) = o + (j + 1) by omega] at this
        exact this

theorem regC_one (r : RD) : ∀ v ∈ regC r, v.oneCell' = true := by
  intro v hv
  simp only [regC, List.mem_cons, List.not_mem_nil, or_false] at hv
  rcases hv with rfl | rfl | rfl | rfl | rfl <;> rfl
theorem stC_one (t : Bool) (s : SD) : ∀ v ∈ stC t s, v.oneCell' = true := by
  intro v hv
  unfold stC at hv
  rw [List.cons_append] at hv
  rcases List.mem_cons.1 hv with rfl | hv
  · rfl
  rcases List.mem_append.1 hv with hv | hv
  · obtain ⟨i, _, hi⟩ := List.mem_flatMap.1 hv
    exact regC_one _ v hi
  · obtain ⟨i, _, rfl⟩ := List.mem_map.1 hv
    rfl
theorem stO_one (o : Option SD) : ∀ v ∈ stO o, v.oneCell' = true := by cases o <;> exact stC_one _ _

theorem range_step {w w' : World} {b o : Nat} {cs : List Value} (h : w.rangeAt b o cs) (hb : Below w.heap.size w w') : w'.rangeAt b o cs := fun j v hv => cell_keep (h j v hv) hb
theorem there_step {w w' : World} {b o n : Nat} (h : w.there b o n) (hb : Below w.heap.size w w') : w'.there b o n := fun j hj => by
  obtain ⟨h1, h2⟩ := h j hj
  obtain ⟨u, hu⟩ := Option.isSome_iff_exists.1 h1
  have hbl := World.block_lt_of_cell? w _ hu
  exact ⟨by rw [cell_keep hu hb]; rfl, by
    have := hb.block b hbl
    unfold World.frozen? at h2 ⊢
    rw [this]
    exact h2⟩
/-- a new block -/
theorem range_new (w : World) (cs : List Value) (T : TypeId) : (w.alloc (.cells cs.toArray T)).rangeAt w.heap.size 0 cs := fun j v hv => by
  have := (boxc_new (w := w) cs.toArray T _ rfl).cell (0 + j)
  rw [this]
  simpa using hv
theorem there_new (w : World) (cs : List Value) (T : TypeId) : (w.alloc (.cells cs.toArray T)).there w.heap.size 0 cs.length := fun j hj => by
  have h := boxc_new (w := w) cs.toArray T _ rfl
  exact ⟨by rw [h.cell (0 + j)]; simp [hj], h.fz _⟩

set_option maxRecDepth 20000 in
theorem Try.zeroSt : (Try.prog.info? 47).map (fun i => i.zero) = some (some (.agg (stC false SD.none).toArray)) := by kernel_rfl
set_option maxRecDepth 20000 in
theorem Try.sizeSt : (Try.prog.info? 47).map (fun i => i.size) = some 147 := by kernel_rfl
theorem zero_st (w : World) : (zeroValue 47).run Try.prog w = .ok (.agg (stC false SD.none).toArray) w := by
  have h := Try.zeroSt
  cases hi : Try.prog.info? 47 with
  | none => rw [hi] at h; cases h
  | some i =>
    rw [hi] at h
    simp only [Option.map_some, Option.some.injEq] at h
    unfold zeroValue typeInfo
    simp [hi, h]
end Go.Proofs.Ytmohffibkpecpaa

namespace Go.Proofs.Ytmohffibkpecpaa
open Go.RowKit

theorem load_st (w : World) (b o : Nat) (cs : List Value) (hl : cs.length = 147) (h : w.rangeAt b o cs) : (Instr.loadAt 47 (.pointer (some ⟨b, o, none⟩))).run Try.prog w = .ok (.agg cs.toArray) w :=
  run_loadAt_mid w b o 47 cs _ h Try.underlying47 rfl (by rw [hl]; exact Try.sizeSt)
theorem loadv_st (w : World) (b o : Nat) (cs : List Value) (hl : cs.length = 147) (h : w.rangeAt b o cs) : (loadVar 47 ⟨b, o, none⟩).run Try.prog w = .ok (.agg cs.toArray) w :=
  run_loadVar_mid w b o 47 cs _ h Try.underlying47 rfl (by rw [hl]; exact Try.sizeSt)
theorem store_st (w : World) (b o : Nat) (cs : List Value) (hl : cs.length = 147) (h1 : ∀ v ∈ cs, v.oneCell' = true) (h : w.there b o 147) : (Instr.storeAt 47 (.pointer (some ⟨b, o, none⟩)) (.agg cs.toArray)).run Try.prog w = .ok () (w.setCells b o cs) := by
  have := run_storeAt_mid (P := Try.prog) w b o 47 cs.toArray (by simpa [hl] using h) (by rw [List.size_toArray, hl]; exact Try.sizeSt) (all_oneCell_toArray h1)
  simpa using this
theorem below_setCells {w W : World} {b : Nat} (h : Below w.heap.size w W) (hb : w.heap.size ≤ b) : ∀ (vs : List Value) (o : Nat), Below w.heap.size w (W.setCells b o vs) := by
  intro vs
  induction vs generalizing W with
  | nil => intro o; exact h
  | cons v r ih => intro o; rw [World.setCells]; exact ih (hput1 h hb o v) (o + 1)

/-- what a function tells whose result lies in a box -/
theorem results_cell {P : Program} {fn : Func} {t : Tmp} {T : TypeId} (h : fn.results = #[.cell t T]) (tmps : Array Value) (w : World) {ad : Addr} {v : Value} (ha : tmps.getD t undef = .pointer (some ad)) (hl : (loadVar T ad).run P w = .ok v w) : (results fn tmps).run P w = .ok v w := by
  have ha2 : tmps[t]?.getD undef = .pointer (some ad) := by simpa using ha
  simp [results, h, ha2, asAddr, hl]

set_option maxHeartbeats 2000000 in
set_option maxRecDepth 20000 in
theorem hst_none (t : SD) (w : World) : Calls Try.prog 39 #[.agg (stC false SD.none).toArray, .agg (stC true t).toArray] w (TellV (.agg (stC true t).toArray) w) := by
  obtain ⟨A, hA⟩ : ∃ A, A = stC false SD.none := ⟨_, rfl⟩
  obtain ⟨B, hB⟩ : ∃ A, A = stC true t := ⟨_, rfl⟩
  have hz := fun w => zero_st w
  rw [← hA] at hz ⊢
  rw [← hB]
  have la : A.length = 147 := by rw [hA]; exact stC_len _ _
  have lb : B.length = 147 := by rw [hB]; exact stC_len _ _
  obtain ⟨W3, hW3⟩ : ∃ W, W = ((w.alloc (.cells A.toArray 47)).alloc (.cells B.toArray 47)).alloc (.cells A.toArray 47) := ⟨_, rfl⟩
  obtain ⟨a, ha⟩ : ∃ rb, rb = w.heap.size := ⟨_, rfl⟩
  obtain ⟨b, hb⟩ : ∃ rb, rb = w.heap.size + 1 := ⟨_, rfl⟩
  obtain ⟨r, hr⟩ : ∃ rb, rb = w.heap.size + 1 + 1 := ⟨_, rfl⟩
  have B3 : Hid (Below w.heap.size w W3) := by rw [hW3]; exact bl_alloc (bl_alloc (bl_alloc (Below.refl _ _)))
  have ra : W3.rangeAt a 0 A := by
    rw [hW3, ha]
    exact range_step (range_new _ _ _) (bl_alloc (bl_alloc (Below.refl _ _)))
  have rb : W3.rangeAt b 0 B := by
    rw [hW3, hb]
    have := range_step (range_new (w.alloc (.cells A.toArray 47)) B 47) (bl_alloc (o := .cells A.toArray 47) (Below.refl _ _))
    simpa using this
  have tr : W3.there r 0 147 := by
    rw [hW3, hr]
    have := there_new ((w.alloc (.cells A.toArray 47)).alloc (.cells B.toArray 47)) A 47
    rw [la] at this
    simpa using this
  have c0 : W3.cell? ⟨a, 0, none⟩ = some (.bool false) := by
    rw [hA] at ra
    exact (range_st.1 ra).1
  have hla : a < W3.heap.size := World.block_lt_of_cell? _ _ c0
  have HRB := hid rb
  have HTR := hid tr
  have HL : Hid (B.length = 147) := lb
  have o1 : ∀ v ∈ B, v.oneCell' = true := by rw [hB]; exact stC_one _ _
  have HO := hid o1
  have HLR := hid (loadv_st (W3.setCells r 0 B) r 0 B lb (World.rangeAt_setCells_same _ _ _ _ (by rw [lb]; exact tr)))
  have HB : Hid (Below w.heap.size w (W3.setCells r 0 B)) := below_setCells B3.out (by rw [hr]; omega) _ _
  have EW := hid hW3
  have EA := hid ha
  have EB := hid hb
  have ER := hid hr
  clear hW3 ha hb hr hA hB la lb o1 tr ra rb B3
  go_enter Try.func39, Try.ntmps39
  go_upto_region 1 with fail
  rw [← EW.out, ← ER.out, ← EB.out, ← EA.out]
  clear EW EA EB ER hz
  go_upto_region 2 with fail
  refine wp_region_lit ?_
  refine wpList_load_mid rfl 47 (.tmp 3) rfl b 0 rfl B _ HRB.out Try.underlying47 rfl (by rw [HL.out]; exact Try.sizeSt) ?_
  refine wpList_store_mid rfl 47 (.tmp 4) (.tmp 10) rfl r 0 B.toArray (by simp [Act.eval, Act.put]) (by simp [Act.eval, Act.put]) (by rw [List.size_toArray, HL.out]; exact HTR.out) (by rw [List.size_toArray, HL.out]; exact Try.sizeSt) (all_oneCell_toArray HO.out) ?_
  refine wpList_nil ?_
  go_wp2_with fail
  exact bodyPost_ret (v := .agg B.toArray) (results_cell Try.results39 _ _ rfl HLR.out) rfl ⟨rfl, HB.out⟩

/-- what lies, register by register -/
theorem range_congr {w : World} {b o : Nat} {t : Bool} {s s' : SD} (h : w.rangeAt b o (stC t s)) (hr : ∀ i, i < 10 → s.reg i = s'.reg i) (hs : ∀ i, i < 96 → s.slot i = s'.slot i) : w.rangeAt b o (stC t s') := by
  rw [range_st] at h ⊢
  exact ⟨h.1, fun i hi => by rw [← hr i hi]; exact h.2.1 i hi, fun i hi => by rw [← hs i hi]; exact h.2.2 i hi⟩

theorem st_putR {w : World} {b o : Nat} {t : Bool} {s : SD} (h : w.rangeAt b o (stC t s)) (ht : w.there b o 147) {i : Nat} (hi : i < 10) (r : RD) : (w.setCells b (o + 1 + i * 5) (regC r)).rangeAt b o (stC t (s.setR i r)) := by
  rw [range_st] at h ⊢
  refine ⟨?_, fun j hj => ?_, fun j hj => ?_⟩
  · have h0 : w.rangeAt b o [.bool t] := fun j v hv => by
      cases j with
      | zero => simp only [List.getElem?_cons_zero, Option.some.injEq] at hv; subst hv; exact h.1
      | succ j => simp at hv
    exact World.rangeAt_setCells_apart h0 b _ (regC r) (.inr (.inl (by simp only [List.length_cons, List.length_nil]; omega))) 0 _ rfl
  · by_cases e : j = i
    · subst e
      have e : ((s.setR j r).reg j) = r := by simp [SD.setR]
      rw [e]
      exact World.rangeAt_setCells_same _ _ _ _ (fun q hq => by
        have : q < 5 := hq
        have := ht (1 + j * 5 + q) (by omega)
        rw [show o + 1 + j * 5 + q = o + (1 + j * 5 + q) by omega]
        exact this)
    · have e2 : ((s.setR i r).reg j) = s.reg j := by simp [SD.setR, e]
      rw [e2]
      exact World.rangeAt_setCells_apart (h.2.1 j hj) b _ (regC r) (.inr (by
        have h1 : (regC r).length = 5 := rfl
        have h2 : (regC (s.reg j)).length = 5 := rfl
        omega))
  · have h0 : w.rangeAt b (o + 51 + j) [.bool (s.slot j)] := fun q v hv => by
      cases q with
      | zero => simp only [List.getElem?_cons_zero, Option.some.injEq] at hv; subst hv; exact h.2.2 j hj
      | succ q => simp at hv
    exact World.rangeAt_setCells_apart h0 b _ (regC r) (.inr (.inr (by
      have h1 : (regC r).length = 5 := rfl
      omega))) 0 _ rfl

theorem st_putS {w : World} {b o : Nat} {t : Bool} {s s' : SD} (h : w.rangeAt b o (stC t s)) {i : Nat} (hi : i < 96) {x : Bool} (hr : ∀ j, s'.reg j = s.reg j) (hx : s'.slot i = x) (hs : ∀ j, j ≠ i → s'.slot j = s.slot j) : (w.setCell ⟨b, o + 51 + i, none⟩ (.bool x)).rangeAt b o (stC t s') := by
  rw [range_st] at h ⊢
  have far : ∀ p v, p ≠ o + 51 + i → w.cell? ⟨b, p, none⟩ = some v → (w.setCell ⟨b, o + 51 + i, none⟩ (.bool x)).cell? ⟨b, p, none⟩ = some v := fun p v hp hv =>
    (World.cell?_setCell_other _ _ _ _ (by intro e; simp only [Addr.mk.injEq] at e; omega)).trans hv
  refine ⟨far _ _ (by omega) h.1, fun j hj q v hv => ?_, fun j hj => ?_⟩
  · rw [hr j] at hv
    have : q < 5 := (List.getElem?_eq_some_iff.1 hv).1
    exact far _ _ (by omega) (h.2.1 j hj q v hv)
  · by_cases e : j = i
    · subst e
      rw [hx]
      exact World.cell?_setCell_same _ _ _ (h.2.2 j hj)
    · rw [hs j e]
      exact far _ _ (by omega) (h.2.2 j hj)

theorem there_set {w : World} {b o n : Nat} (h : w.there b o n) (c p : Nat) (v : Value) : (w.setCell ⟨c, p, none⟩ v).there b o n := World.there_setCells h c p [v]

def mixR (k : Nat) (s t : SD) : SD := ⟨fun i => if i < k then (s.reg i).join (t.reg i) else s.reg i, s.slot⟩
def mixS (k : Nat) (s t : SD) : SD := ⟨fun i => (s.reg i).join (t.reg i), fun i => if i < k then s.slot i && t.slot i else s.slot i⟩

/-- the three boxes of join -/
structure JBox (w : World) (a b r : Nat) (s t : SD) (W : World) : Prop where
  ra : W.rangeAt a 0 (stC true s)
  ta : W.there a 0 147
  rb : W.rangeAt b 0 (stC true t)
  tr : W.there r 0 147
  bel : Below w.heap.size w W
theorem JBox.step {w : World} {a b r : Nat} {s t : SD} {W W' : World} (h : JBox w a b r s t W) (hb : Below W.heap.size W W') : JBox w a b r s t W' := ⟨range_step h.ra hb, there_step h.ta hb, range_step h.rb hb, there_step h.tr hb, bl_step h.bel hb⟩
theorem JBox.putR {w : World} {a b r : Nat} {s t : SD} {W : World} (h : JBox w a b r s t W) (hab : ¬ a = b) (hw : w.heap.size ≤ a) {i : Nat} (hi : i < 10) (x : RD) : JBox w a b r (s.setR i x) t (W.setCells a (0 + 1 + i * 5) (regC x)) :=
  ⟨st_putR h.ra h.ta hi x, World.there_setCells h.ta _ _ _, World.rangeAt_setCells_apart h.rb _ _ _ (.inl fun e => hab e.symm), World.there_setCells h.tr _ _ _, below_setCells h.bel hw _ _⟩

set_option maxHeartbeats 4000000 in
set_option maxRecDepth 20000 in
theorem hst_some (s t : SD) (w : World) : Calls Try.prog 39 #[.agg (stC true s).toArray, .agg (stC true t).toArray] w (TellV (.agg (stC true (s.join t)).toArray) w) := by
  obtain ⟨Z, hZ⟩ : ∃ A, A = stC false SD.none := ⟨_, rfl⟩
  obtain ⟨A, hA⟩ : ∃ A, A = stC true s := ⟨_, rfl⟩
  obtain ⟨B, hB⟩ : ∃ A, A = stC true t := ⟨_, rfl⟩
  have hz := fun w => zero_st w
  rw [← hZ] at hz
  rw [← hA, ← hB]
  have lz : Z.length = 147 := by rw [hZ]; exact stC_len _ _
  have la : A.length = 147 := by rw [hA]; exact stC_len _ _
  obtain ⟨W3, hW3⟩ : ∃ W, W = ((w.alloc (.cells A.toArray 47)).alloc (.cells B.toArray 47)).alloc (.cells Z.toArray 47) := ⟨_, rfl⟩
  obtain ⟨a, ha⟩ : ∃ rb, rb = w.heap.size := ⟨_, rfl⟩
  obtain ⟨b, hb⟩ : ∃ rb, rb = w.heap.size + 1 := ⟨_, rfl⟩
  obtain ⟨r, hr⟩ : ∃ rb, rb = w.heap.size + 1 + 1 := ⟨_, rfl⟩
  have HJ : Hid (JBox w a b r s t W3) := by
    refine ⟨?_, ?_, ?_, ?_, ?_⟩
    · rw [hW3, ha, ← hA]
      exact range_step (range_new _ _ _) (bl_alloc (bl_alloc (Below.refl _ _)))
    · rw [hW3, ha]
      have := there_step (there_new w A 47) (bl_alloc (o := .cells Z.toArray 47) (bl_alloc (o := .cells B.toArray 47) (Below.refl _ _)))
      rw [la] at this
      exact this
    · rw [hW3, hb, ← hB]
      have := range_step (range_new (w.alloc (.cells A.toArray 47)) B 47) (bl_alloc (o := .cells Z.toArray 47) (Below.refl _ _))
      simpa using this
    · rw [hW3, hr]
      have := there_new ((w.alloc (.cells A.toArray 47)).alloc (.cells B.toArray 47)) Z 47
      rw [lz] at this
      simpa using this
    · rw [hW3]; exact bl_alloc (bl_alloc (bl_alloc (Below.refl _ _)))
  have HNE : Hid (¬ a = b ∧ w.heap.size ≤ a ∧ w.heap.size ≤ r) := ⟨by omega, by omega, by omega⟩
  have c0 : W3.cell? ⟨a, 0, none⟩ = some (.bool true) := (range_st.1 HJ.out.ra).1
  have hla : a < W3.heap.size := World.block_lt_of_cell? _ _ c0
  have HJN := hid (fun x y w => hjoin x y w)
  have EW := hid hW3
  have EA := hid ha
  have EB := hid hb
  have ER := hid hr
  clear hW3 ha hb hr hA hB hZ la lz
  go_enter Try.func39, Try.ntmps39
  go_upto_region 1 with fail
  rw [← EW.out, ← ER.out, ← EB.out, ← EA.out]
  clear EW EA EB ER hz
  go_wp2
  clear c0 hla
  haveI inhB : ∀ w : World, Inhabited (BelowBy w) := fun w => ⟨⟨w, Below.refl _ _⟩⟩
  go_loopw [11, 5] (fun q _ wr => ∃ k : Nat, k ≤ 10 ∧ q = .int .i64 k ∧ Hid (JBox w a b r (mixR k s t) t wr)) (fun q _ _ => 10 - (intOf q).toNat)
  case atStart => exact ⟨0, by omega, rfl, HJ⟩
  case round =>
    obtain ⟨k, hk, rfl, J⟩ := hrel
    by_cases hlt : k < 10
    · have hki : (k : Int) < 10 := by omega
      have h1 := (range_st.1 J.out.ra).2.1 k hlt
      have h2 := (range_st.1 J.out.rb).2.1 k hlt
      rw [show (mixR k s t).reg k = s.reg k by simp [mixR]] at h1
      rw [range_reg] at h1 h2
      obtain ⟨a0, a1, a2, a3, a4⟩ := h1
      obtain ⟨b0, b1, b2, b3, b4⟩ := h2
      simp only [Nat.zero_add] at a0 a1 a2 a3 a4 b0 b1 b2 b3 b4
      have HC : Hid (∀ q : BelowBy wr, Calls Try.prog 48 #[regV (s.reg k), regV (t.reg k)] q.to fun e w' => e = .returned (regV ((s.reg k).join (t.reg k))) ∧ Below q.to.heap.size q.to w') := fun q => HJN.out _ _ q.to
      have HN : Hid (∀ wq, Below wr.heap.size wr wq → JBox w a b r (mixR (k + 1) s t) t (wq.setCells a (0 + 1 + k * 5) (regC ((s.reg k).join (t.reg k))))) := fun wq hq => by
        have := (J.out.step hq).putR HNE.out.1 HNE.out.2.1 hlt ((s.reg k).join (t.reg k))
        refine ⟨range_congr this.ra (fun i _ => ?_) (fun _ _ => rfl), this.ta, this.rb, this.tr, this.bel⟩
        show (if i = k then (s.reg k).join (t.reg k) else if i < k then (s.reg i).join (t.reg i) else s.reg i) = if i < k + 1 then (s.reg i).join (t.reg i) else s.reg i
        by_cases e : i = k
        · subst e; rw [if_pos rfl, if_pos (by omega)]
        · rw [if_neg e]
          by_cases e2 : i < k
          · rw [if_pos e2, if_pos (by omega)]
          · rw [if_neg e2, if_neg (by omega)]
      have HT : Hid (∀ wq, Below wr.heap.size wr wq → wq.there a 0 147) := fun wq hq => there_step J.out.ta hq
      unfold regC at HN
      generalize (s.reg k).join (t.reg k) = X at *
      generalize s.reg k = x at *
      generalize t.reg k = y at *
      have a0' := cell_by a0
      have a1' := cell_by a1
      have a2' := cell_by a2
      have a3' := cell_by a3
      have a4' := cell_by a4
      have b0' := cell_by b0
      have b1' := cell_by b1
      have b2' := cell_by b2
      have b3' := cell_by b3
      have b4' := cell_by b4
      have hla : a < wr.heap.size := World.block_lt_of_cell? _ _ a0
      have hlb : b < wr.heap.size := World.block_lt_of_cell? _ _ b0
      go_wp2_with fail
      refine wp_region_cutQ 12 (by kernel_rfl) (by kernel_rfl) ?_
      simp only [List.take_succ_cons, List.take_zero]
      repeat (go_big_quiet_step (first | (go_at_call 48; exact calls_below _ (HC.out _))))
      refine wpQuiet_nil ?_
      intro wq hw'
      obtain ⟨⟨_, hwq⟩, hw''⟩ := hw'
      subst hw''
      simp only [List.drop_succ_cons, List.drop_zero]
      have c0 := cell_keep a0 hwq
      have c1 := cell_keep a1 hwq
      have c2 := cell_keep a2 hwq
      have c3 := cell_keep a3 hwq
      have c4 := cell_keep a4 hwq
      have hT := HT.out wq hwq
      have f0 : wq.frozen? ⟨a, 1 + k * 5, none⟩ = false := by have := (hT (1 + k * 5) (by omega)).2; simpa using this
      have f1 : wq.frozen? ⟨a, 1 + k * 5 + 1, none⟩ = false := by have := (hT (1 + k * 5 + 1) (by omega)).2; simpa using this
      have f2 : wq.frozen? ⟨a, 1 + k * 5 + 2, none⟩ = false := by have := (hT (1 + k * 5 + 2) (by omega)).2; simpa using this
      have f3 : wq.frozen? ⟨a, 1 + k * 5 + 3, none⟩ = false := by have := (hT (1 + k * 5 + 3) (by omega)).2; simpa using this
      have f4 : wq.frozen? ⟨a, 1 + k * 5 + 4, none⟩ = false := by have := (hT (1 + k * 5 + 4) (by omega)).2; simpa using this
      have hlq : a < wq.heap.size := World.block_lt_of_cell? _ _ c0
      have HNQ := hid (HN.out wq hwq)
      clear hT a0 a1 a2 a3 a4 b0 b1 b2 b3 b4 a0' a1' a2' a3' a4' b0' b1' b2' b3' b4' hla hlb HC HN HT J hwq HJ HJN inhB
      go_wp2
      go_roundw
      case rel => exact ⟨k + 1, by omega, by go_num, HNQ⟩
      case measure => simp [intOf]; omega
    · obtain rfl : k = 10 := by omega
      have J0 : Hid (JBox w a b r (mixS 0 s t) t wr) := ⟨range_congr J.out.ra (fun i hi => by simp [mixR, mixS, hi]) (fun i hi => by simp [mixR, mixS]), J.out.ta, J.out.rb, J.out.tr, J.out.bel⟩
      clear J hlt hk HJN HJ inhB
      go_wp2
      go_loopw [27, 6] (fun q _ wr => ∃ k : Nat, k ≤ 96 ∧ q = .int .i64 k ∧ Hid (JBox w a b r (mixS k s t) t wr)) (fun q _ _ => 96 - (intOf q).toNat)
      case atStart => exact ⟨0, by omega, rfl, J0⟩
      case round =>
        obtain ⟨k, hk, rfl, J⟩ := hrel
        clear J0
        by_cases hlt : k < 96
        · have hki : (k : Int) < 96 := by omega
          have h1 := (range_st.1 J.out.ra).2.2 k hlt
          have h2 := (range_st.1 J.out.rb).2.2 k hlt
          rw [show (mixS k s t).slot k = s.slot k by simp [mixS]] at h1
          simp only [Nat.zero_add] at h1 h2
          have f1 : wr.frozen? ⟨a, 51 + k, none⟩ = false := by have := (J.out.ta (51 + k) (by omega)).2; simpa using this
          have hla : a < wr.heap.size := World.block_lt_of_cell? _ _ h1
          have hlb : b < wr.heap.size := World.block_lt_of_cell? _ _ h2
          have HN : Hid (JBox w a b r (mixS (k + 1) s t) t (wr.setCell ⟨a, 0 + 51 + k, none⟩ (.bool (s.slot k && t.slot k)))) := by
            refine ⟨st_putS J.out.ra hlt (fun _ => rfl) (by simp [mixS]) (fun j hj => ?_), there_set J.out.ta _ _ _, World.rangeAt_setCells_apart J.out.rb a _ [_] (.inl fun e => HNE.out.1 e.symm), there_set J.out.tr _ _ _, hput1 J.out.bel HNE.out.2.1 _ _⟩
            show (if j < k + 1 then s.slot j && t.slot j else s.slot j) = if j < k then s.slot j && t.slot j else s.slot j
            by_cases e : j < k
            · rw [if_pos e, if_pos (by omega)]
            · rw [if_neg e, if_neg (by omega)]
          rw [Nat.zero_add] at HN
          clear J
          generalize s.slot k = x at *
          generalize t.slot k = y at *
          cases x
          all_goals
            go_wp2
            go_roundw
            case rel => exact ⟨k + 1, by omega, by go_num, HN⟩
            case measure => simp [intOf]; omega
        · obtain rfl : k = 96 := by omega
          obtain ⟨C, hC⟩ : ∃ C, C = stC true (s.join t) := ⟨_, rfl⟩
          have HL : Hid (C.length = 147) := by rw [hC]; exact stC_len _ _
          have HRB : Hid (wr.rangeAt a 0 C) := by rw [hC]; exact range_congr J.out.ra (fun i hi => rfl) (fun i hi => by simp [mixS, SD.join, hi])
          have HTR := hid J.out.tr
          have HO : Hid (∀ v ∈ C, v.oneCell' = true) := by rw [hC]; exact stC_one _ _
          have HLR := hid (loadv_st (wr.setCells r 0 C) r 0 C HL.out (World.rangeAt_setCells_same _ _ _ _ (by rw [HL.out]; exact HTR.out)))
          have HB : Hid (Below w.heap.size w (wr.setCells r 0 C)) := below_setCells J.out.bel HNE.out.2.2 _ _
          have HCC := hid hC
          clear J hlt hk hC
          go_upto_region 13 with fail
          refine wp_region_lit ?_
          refine wpList_load_mid rfl 47 (.tmp 2) rfl a 0 rfl C _ HRB.out Try.underlying47 rfl (by rw [HL.out]; exact Try.sizeSt) ?_
          refine wpList_store_mid rfl 47 (.tmp 4) (.tmp 44) rfl r 0 C.toArray (by simp [Act.eval, Act.put]) (by simp [Act.eval, Act.put]) (by rw [List.size_toArray, HL.out]; exact HTR.out) (by rw [List.size_toArray, HL.out]; exact Try.sizeSt) (all_oneCell_toArray HO.out) ?_
          refine wpList_nil ?_
          go_wp2_with fail
          exact bodyPost_ret (v := .agg C.toArray) (results_cell Try.results39 _ _ rfl HLR.out) rfl ⟨by rw [HCC.out], HB.out⟩

theorem hst (o : Option SD) (t : SD) (w : World) : Calls Try.prog 39 #[.agg (stO o).toArray, .agg (stO (some t)).toArray] w (TellV (.agg (stO (some (joinO o t))).toArray) w) := by
  cases o with
  | none => exact hst_none t w
  | some s => exact hst_some s t w
end Go.Proofs.Ytmohffibkpecpaa

namespace Go.Proofs.Ytmohffibkpecpaa
open Go.RowKit

structure VisAt (w : World) (vb wk : Nat) (d : ProgD) (x : InsD) (s : SD) : Prop where
  c0 : w.cell? ⟨vb, 0, none⟩ = some (.pointer (some ⟨wk, 0, none⟩))
  i0 : w.cell? ⟨vb, 1, none⟩ = some (.int .i64 x.op)
  i1 : w.cell? ⟨vb, 2, none⟩ = some (.int .i64 x.r)
  i2 : w.cell? ⟨vb, 3, none⟩ = some (.int .i64 x.s)
  i3 : w.cell? ⟨vb, 4, none⟩ = some (.int .i64 x.k)
  i4 : w.cell? ⟨vb, 5, none⟩ = some (.int .i64 x.to)
  i5 : w.cell? ⟨vb, 6, none⟩ = some (.int .u64 x.n)
  st : w.rangeAt vb 7 (stC true s)
  th : w.there vb 7 147
  p1 : w.cell? ⟨wk, 1, none⟩ = some (.slice d.tabs.a d.tabs.n d.tabs.c)
  lie : d.lie w
theorem VisAt.step {w w' : World} {vb wk : Nat} {d : ProgD} {x : InsD} {s : SD} (h : VisAt w vb wk d x s) (b : Below w.heap.size w w') : VisAt w' vb wk d x s :=
  ⟨cell_keep h.c0 b, cell_keep h.i0 b, cell_keep h.i1 b, cell_keep h.i2 b, cell_keep h.i3 b, cell_keep h.i4 b, cell_keep h.i5 b, range_step h.st b, there_step h.th b, cell_keep h.p1 b, h.lie.step b⟩
theorem VisAt.lt {w : World} {vb wk : Nat} {d : ProgD} {x : InsD} {s : SD} (h : VisAt w vb wk d x s) : vb < w.heap.size := World.block_lt_of_cell? _ _ h.c0

/-- a register of it -/
structure Reg5 (w : World) (vb i : Nat) (r : RD) : Prop where
  c0 : w.cell? ⟨vb, 8 + i * 5, none⟩ = some (.bool r.set)
  c1 : w.cell? ⟨vb, 8 + i * 5 + 1, none⟩ = some (.bool r.just.isSome)
  c2 : w.cell? ⟨vb, 8 + i * 5 + 2, none⟩ = some (.int .u64 ((r.just.getD 0 : Nat) : Int))
  c3 : w.cell? ⟨vb, 8 + i * 5 + 3, none⟩ = some (.bool r.room.isSome)
  c4 : w.cell? ⟨vb, 8 + i * 5 + 4, none⟩ = some (.int .u64 ((r.room.getD 0 : Nat) : Int))
theorem VisAt.reg {w : World} {vb wk : Nat} {d : ProgD} {x : InsD} {s : SD} (h : VisAt w vb wk d x s) {i : Nat} (hi : i < 10) : Reg5 w vb i (s.reg i) := by
  obtain ⟨h0, h1, h2, h3, h4⟩ := range_reg.1 ((range_st.1 h.st).2.1 i hi)
  exact ⟨h0, h1, h2, h3, h4⟩
theorem VisAt.slot {w : World} {vb wk : Nat} {d : ProgD} {x : InsD} {s : SD} (h : VisAt w vb wk d x s) {i : Nat} (hi : i < 96) : w.cell? ⟨vb, 58 + i, none⟩ = some (.bool (s.slot i)) := (range_st.1 h.st).2.2 i hi

@[reducible] def vptr (b : Nat) : Value := .pointer (some ⟨b, 0, none⟩)

theorem op18 {n : Int} (h : 1 ≤ n ∧ n ≤ 18) : n = 1 ∨ n = 2 ∨ n = 3 ∨ n = 4 ∨ n = 5 ∨ n = 6 ∨ n = 7 ∨ n = 8 ∨ n = 9 ∨ n = 10 ∨ n = 11 ∨ n = 12 ∨ n = 13 ∨ n = 14 ∨ n = 15 ∨ n = 16 ∨ n = 17 ∨ n = 18 := by omega

set_option maxHeartbeats 2000000 in
set_option maxRecDepth 20000 in
theorem hleads {w : World} {vb wk : Nat} {d : ProgD} {x : InsD} {s : SD} (h : VisAt w vb wk d x s) (hop : 1 ≤ x.op ∧ x.op ≤ 18) : Calls Try.prog 22 #[vptr vb] w (TellB (hasT x.op) w) := by
  have i0 := h.i0
  have hl := h.lt
  have HR : Hid (Below w.heap.size w w) := Below.refl _ _
  clear h
  obtain ⟨op, r, s', k, tt, n⟩ := x
  dsimp only at i0 hop ⊢
  rcases op18 hop with rfl | rfl | rfl | rfl | rfl | rfl | rfl | rfl | rfl | rfl | rfl | rfl | rfl | rfl | rfl | rfl | rfl | rfl
  all_goals
    clear hop
    go_enter Try.func22, Try.ntmps22
    go_wp2
    go_ret
    exact ⟨rfl, HR.out⟩

set_option maxHeartbeats 2000000 in
set_option maxRecDepth 20000 in
theorem hgoes {w : World} {vb wk : Nat} {d : ProgD} {x : InsD} {s : SD} (h : VisAt w vb wk d x s) : Calls Try.prog 24 #[vptr vb] w (TellB (goesD x) w) := by
  have i0 := h.i0
  have hl := h.lt
  have HR : Hid (Below w.heap.size w w) := Below.refl _ _
  have HE := hid (fun n w => gends n w)
  clear h
  obtain ⟨op, r, s', k, tt, n⟩ := x
  dsimp only at i0 ⊢
  unfold goesD
  dsimp only
  by_cases h12 : op = 12
  · subst h12
    go_enter Try.func24, Try.ntmps24
    go_wp2
    go_ret
    exact ⟨rfl, HR.out⟩
  · rw [decide_eq_false h12, Bool.false_or]
    have hb12 : (op != 12) = true := by simpa using h12
    generalize hq : endsB op = q
    have HQ := hid hq
    clear hq
    go_enter Try.func24, Try.ntmps24
    go_wp2_with fail
    refine (HE.out _ _).mono ?_
    rintro e w2 ⟨rfl, rfl⟩
    rw [HQ.out]
    go_wp2
    go_ret
    exact ⟨rfl, HR.out⟩
end Go.Proofs.Ytmohffibkpecpaa

namespace Go.Proofs.Ytmohffibkpecpaa
open Go.RowKit

set_option maxHeartbeats 4000000 in
set_option maxRecDepth 20000 in
theorem hready {w : World} {vb wk : Nat} {d : ProgD} {x : InsD} {s : SD} (h : VisAt w vb wk d x s) (hop : 1 ≤ x.op ∧ x.op ≤ 18) (hr : 0 ≤ x.r ∧ x.r < 10) (hs : x.op ≠ 13 → 0 ≤ x.s ∧ x.s < 10) : Calls Try.prog 35 #[vptr vb] w (TellB (readyD s x) w) := by
  obtain ⟨op, r, ss, kk, tt, n⟩ := x
  dsimp only at hr hs hop
  obtain ⟨r, rfl⟩ : ∃ i : Nat, r = i := ⟨r.toNat, by omega⟩
  have i0 := h.i0
  have i1 := h.i1
  have i2 := h.i2
  dsimp only at i0 i1 i2
  have hl := h.lt
  have hri : (r : Int) < 10 := by omega
  have r0 := (h.reg (i := r) (by omega)).c0
  have HT : Hid (∀ q w', q = readyD s ⟨op, r, ss, kk, tt, n⟩ → Below w.heap.size w w' → TellB (readyD s ⟨op, r, ss, kk, tt, n⟩) w (.returned (.bool q)) w') := fun q w' e h => ⟨by rw [e], h⟩
  have HR : Hid (Below w.heap.size w w) := Below.refl _ _
  haveI inhB : ∀ w : World, Inhabited (BelowBy w) := fun w => ⟨⟨w, Below.refl _ _⟩⟩
  by_cases q2 : op = 2 ∨ op = 6
  · obtain ⟨ss, rfl⟩ : ∃ i : Nat, ss = i := ⟨ss.toNat, by have := hs (by omega); omega⟩
    have hsi : (ss : Int) < 10 := (hs (by omega)).2
    have s0 := (h.reg (i := ss) (by omega)).c0
    have E : Hid ((s.reg ss).set = readyD s ⟨op, r, ss, kk, tt, n⟩) := by
      show _ = _
      unfold readyD
      dsimp only
      rw [if_pos q2, Int.toNat_natCast]
    generalize (s.reg ss).set = X at *
    have i1' := cell_by i1
    have i2' := cell_by i2
    have s0' := cell_by s0
    clear hs hr h r0 hop
    rcases q2 with rfl | rfl
    all_goals
      go_enter Try.func35, Try.ntmps35
      go_wp2_with fail
      refine wp_region_quiet_below (by kernel_rfl) (by kernel_rfl) ?_
      repeat (go_big_quiet_step (fail))
      refine wpQuiet_nil ?_
      intro wq hw'
      obtain ⟨⟨_, hwq⟩, hw''⟩ := hw'
      subst hw''
      clear i0 i1 i2 s0 i1' i2' s0' HR
      go_wp2
      go_ret
      exact HT.out _ _ E.out hwq
  by_cases q3 : op = 3 ∨ op = 5 ∨ op = 10 ∨ op = 11
  · obtain ⟨ss, rfl⟩ : ∃ i : Nat, ss = i := ⟨ss.toNat, by have := hs (by omega); omega⟩
    have hsi : (ss : Int) < 10 := (hs (by omega)).2
    have s0 := (h.reg (i := ss) (by omega)).c0
    have E : Hid (((s.reg r).set && (s.reg ss).set) = readyD s ⟨op, r, ss, kk, tt, n⟩) := by
      show _ = _
      unfold readyD
      dsimp only
      rw [if_neg q2, if_pos q3, Int.toNat_natCast, Int.toNat_natCast]
    generalize (s.reg ss).set = X at *
    generalize (s.reg r).set = Y at *
    have i1' := cell_by i1
    have i2' := cell_by i2
    have s0' := cell_by s0
    have r0' := cell_by r0
    clear hs hr h hop q2
    rcases q3 with rfl | rfl | rfl | rfl
    all_goals
      cases Y
      all_goals
        go_enter Try.func35, Try.ntmps35
        go_wp2_with fail
        refine wp_region_quiet_below (by kernel_rfl) (by kernel_rfl) ?_
        repeat (go_big_quiet_step (fail))
        refine wpQuiet_nil ?_
        intro wq hw'
        obtain ⟨⟨_, hwq⟩, hw''⟩ := hw'
        subst hw''
        clear i0 i1 i2 s0 r0 i1' i2' s0' r0' HR
        go_wp2
        go_ret
        exact HT.out _ _ E.out hwq
  by_cases q4 : op = 4 ∨ op = 8 ∨ op = 9 ∨ op = 14 ∨ op = 15 ∨ op = 16
  · have E : Hid ((s.reg r).set = readyD s ⟨op, r, ss, kk, tt, n⟩) := by
      show _ = _
      unfold readyD
      dsimp only
      rw [if_neg q2, if_neg q3, if_pos q4, Int.toNat_natCast]
    generalize (s.reg r).set = Y at *
    have i1' := cell_by i1
    have i2' := cell_by i2
    have r0' := cell_by r0
    clear hs hr h hop q2 q3
    rcases q4 with rfl | rfl | rfl | rfl | rfl | rfl
    all_goals
      go_enter Try.func35, Try.ntmps35
      go_wp2_with fail
      refine wp_region_quiet_below (by kernel_rfl) (by kernel_rfl) ?_
      repeat (go_big_quiet_step (fail))
      refine wpQuiet_nil ?_
      intro wq hw'
      obtain ⟨⟨_, hwq⟩, hw''⟩ := hw'
      subst hw''
      clear i0 i1 i2 r0 i1' i2' r0' HR
      go_wp2
      go_ret
      exact HT.out _ _ E.out hwq
  have E : Hid (true = readyD s ⟨op, r, ss, kk, tt, n⟩) := by
    show _ = _
    unfold readyD
    dsimp only
    rw [if_neg q2, if_neg q3, if_neg q4]
  have q : op = 1 ∨ op = 7 ∨ op = 12 ∨ op = 13 ∨ op = 17 ∨ op = 18 := by omega
  clear hs hr h hop q2 q3 q4 r0 i1 i2
  rcases q with rfl | rfl | rfl | rfl | rfl | rfl
  all_goals
    go_enter Try.func35, Try.ntmps35
    go_wp2
    go_ret
    exact HT.out _ _ E.out HR.out
end Go.Proofs.Ytmohffibkpecpaa

namespace Go.Proofs.Ytmohffibkpecpaa
open Go.RowKit

/-- truth values as they lie -/
def HasBo (w : World) (a : Option Addr) (bs : List Bool) : Prop := ∀ i x, bs[i]? = some x → ∃ g off, a = some ⟨g, off, none⟩ ∧ w.cell? ⟨g, off + i, none⟩ = some (.bool x)
theorem HasBo.step {w w' : World} {a : Option Addr} {bs : List Bool} (h : HasBo w a bs) (hb : Below w.heap.size w w') : HasBo w' a bs := fun i x hx => by
  obtain ⟨g, off, e, h1⟩ := h i x hx
  exact ⟨g, off, e, cell_keep h1 hb⟩
theorem HasBo.nil (w : World) (a : Option Addr) : HasBo w a [] := fun i x hx => by simp at hx

set_option maxHeartbeats 2000000 in
set_option maxRecDepth 20000 in
theorem hindex {w : World} {a : Option Addr} {bs : List Bool} (c : Nat) (h : HasBo w a bs) (hn : bs.length ≤ 100) : Calls Try.prog 47 #[.slice a bs.length c, .bool false] w fun e w' => ∃ z : Int, e = .returned (.int .i64 z) ∧ decide (0 ≤ z) = !(bs.all id) ∧ Below w.heap.size w w' := by
  obtain ⟨n, hnn⟩ : ∃ n, n = bs.length := ⟨_, rfl⟩
  rw [← hnn] at hn ⊢
  have HN := hid hnn
  have HH := hid h
  clear h hnn
  go_enter Try.func47, Try.ntmps47
  go_wp2
  go_loopw [8, 5] (fun q _ wr => ∃ i : Nat, i ≤ n ∧ q = .int .i64 i ∧ Hid (Below w.heap.size w wr) ∧ Hid (∀ j x, j < i → bs[j]? = some x → x = true)) (fun q _ _ => n - (intOf q).toNat)
  case atStart => exact ⟨0, Nat.zero_le _, rfl, Below.refl _ _, fun j t hj => absurd hj (Nat.not_lt_zero _)⟩
  case round =>
    obtain ⟨i, hi, rfl, hb, HA⟩ := hrel
    by_cases hlt : i < n
    · have hki : (i : Int) < (n : Int) := by omega
      have hbi : bs[i]? = some bs[i] := List.getElem?_eq_getElem _
      obtain ⟨g, off, rfl, c0⟩ := HH.out.step hb.out i _ hbi
      have HBI := hid hbi
      generalize bs[i]'(by have := HN.out; omega) = x at *
      clear hbi
      have hgl : g < wr.heap.size := World.block_lt_of_cell? _ _ c0
      cases x with
      | true =>
        have HA2 : Hid (∀ j x, j < i + 1 → bs[j]? = some x → x = true) := fun j u hj hu => by
          rcases Nat.lt_or_ge j i with h | h
          · exact HA.out j u h hu
          · obtain rfl : j = i := by omega
            rw [HBI.out] at hu
            exact (Option.some.inj hu).symm
        go_wp2
        go_roundw
        case rel => exact ⟨i + 1, by omega, by go_num, hb, HA2⟩
        case measure => simp [intOf]; omega
      | false =>
        have HX : Hid (bs.all id = false) := by
          show _ = _
          rw [List.all_eq_false]
          exact ⟨false, List.mem_of_getElem? HBI.out, by simp⟩
        go_wp2
        go_ret
        exact ⟨i, rfl, by rw [HX.out]; simp, hb.out⟩
    · have hki : ¬ (i : Int) < (n : Int) := by omega
      have HX : Hid (bs.all id = true) := by
        show _ = _
        rw [List.all_eq_true]
        intro x hx
        obtain ⟨j, hj, rfl⟩ := List.getElem_of_mem hx
        exact HA.out j _ (by have := HN.out; omega) (List.getElem?_eq_getElem hj)
      go_wp2
      go_ret
      exact ⟨-1, rfl, by rw [HX.out]; rfl, hb.out⟩

set_option maxHeartbeats 1000000 in
set_option maxRecDepth 20000 in
theorem hcontains {w : World} {a : Option Addr} {bs : List Bool} (c : Nat) (h : HasBo w a bs) (hn : bs.length ≤ 100) : Calls Try.prog 37 #[.slice a bs.length c, .bool false] w (TellB (!(bs.all id)) w) := by
  have HI := hid (hindex c h hn)
  clear h hn
  go_enter Try.func37, Try.ntmps37
  go_wp2_with fail
  refine HI.out.mono ?_
  rintro e w2 ⟨z, rfl, hz, hb⟩
  clear HI
  have HZ := hid hz
  have HB := hid hb
  clear hz hb
  go_wp2
  go_ret
  exact ⟨by rw [← HZ.out]; rfl, HB.out⟩

/-- what asked tells -/
def AskIs (q : Bool) (w : World) (e : Ending) (w' : World) : Prop := ∃ a c bs, e = .returned (.slice a (bs : List Bool).length c) ∧ HasBo w' a bs ∧ bs.all id = q ∧ bs.length ≤ 100 ∧ Below w.heap.size w w'

set_option maxHeartbeats 4000000 in
set_option maxRecDepth 20000 in
theorem hasked {w : World} {vb wk : Nat} {d : ProgD} {x : InsD} {s : SD} {m i : Nat} (h : VisAt w vb wk d x s) (hx : GOk d.slots d.ts m i x) (hsl : d.slots ≤ 96) : Calls Try.prog 38 #[vptr vb] w (AskIs (askedD d.ts s x) w) := by
  have HV := hid h
  have i0 := h.i0
  have i2 := h.i2
  have i5 := h.i5
  have c0 := h.c0
  have p1 := h.p1
  have hl := h.lt
  have hpl : wk < w.heap.size := World.block_lt_of_cell? _ _ p1
  have HR : Hid (Below w.heap.size w w) := Below.refl _ _
  haveI inhB : ∀ w : World, Inhabited (BelowBy w) := fun w => ⟨⟨w, Below.refl _ _⟩⟩
  by_cases q7 : x.op = 7
  · have hn := hx.slot (.inl q7)
    have hn0 := hx.n.1
    have EQ : Hid (askedD d.ts s x = s.slot x.n.toNat) := by
      show _ = _
      unfold askedD
      rw [if_pos q7]
    obtain ⟨op, r, ss, kk, tt, n⟩ := x
    dsimp only at *
    subst q7
    obtain ⟨n, rfl⟩ : ∃ k : Nat, n = k := ⟨n.toNat, by omega⟩
    have hni : (n : Int) < 96 := by omega
    have hw1 : IntKind.u64.wrap ((n : Int) + 1) = ((n + 1 : Nat) : Int) := by rw [gwrap_u _ (by omega) (by omega)]; omega
    obtain ⟨n1, hn1⟩ : ∃ n1, n1 = n + 1 := ⟨_, rfl⟩
    rw [← hn1] at hw1
    have h1 : (n : Int) ≤ (n1 : Int) := by omega
    have h2 : (n1 : Int) ≤ 96 := by omega
    have HN1 := hid hn1
    have c7 := h.slot (i := n) (by omega)
    have i5' := cell_by i5
    have HC := hid c7
    clear h hx hsl hn hn0 hn1 p1 c7 c0 hpl i2
    go_enter Try.func38, Try.ntmps38
    go_wp2_with fail
    refine wp_region_quiet_below (by kernel_rfl) (by kernel_rfl) ?_
    repeat (go_big_quiet_step (fail))
    refine wpQuiet_nil ?_
    intro wq hw'
    obtain ⟨⟨_, hwq⟩, hw''⟩ := hw'
    subst hw''
    have HE : Hid (AskIs (askedD d.ts s ⟨7, r, ss, kk, tt, (n : Int)⟩) w (.returned (.slice (some ⟨vb, 58 + n, none⟩) (n1 - n) (96 - n))) wq) := by
      refine ⟨_, _, [s.slot n], by rw [show n1 - n = 1 by have := HN1.out; omega]; rfl, fun j y hy => ?_, by rw [EQ.out]; simp, by simp, hwq⟩
      cases j with
      | zero =>
        simp only [List.getElem?_cons_zero, Option.some.injEq] at hy
        subst hy
        exact ⟨vb, 58 + n, rfl, cell_keep HC.out hwq⟩
      | succ j => simp at hy
    clear i0 i5 i5' HV EQ HC HN1 HR hwq
    go_wp2
    go_ret
    exact HE.out
  by_cases q13 : x.op = 13
  · obtain ⟨t, ht, a0, a1, a2, a3, k0, k1, _, _⟩ := hx.call q13
    have hn0 := hx.n.1
    have hnl : x.n.toNat < d.tabs.n := by rw [← h.lie.t.1]; exact (List.getElem?_eq_some_iff.1 ht).1
    obtain ⟨g, off, t', ea, ht', hp⟩ := grow_at h.lie.t hnl
    obtain rfl : t' = t := Option.some.inj (ht'.symm.trans ht)
    obtain ⟨k0c, k1c, k2c⟩ := hp
    have kc := k0c.1
    have EQ : Hid (askedD d.ts s x = (List.range t'.keys.toNat).all fun i => s.slot (x.s.toNat + i)) := by
      show _ = _
      unfold askedD keysOf
      rw [if_neg q7, if_pos q13, ht]
    have hslot : ∀ j, j < 96 → w.cell? ⟨vb, 58 + j, none⟩ = some (.bool (s.slot j)) := fun j hj => h.slot hj
    rw [ea] at p1
    have HS := hid hslot
    obtain ⟨op, r, ss, kk, tt, n⟩ := x
    dsimp only at *
    subst q13
    obtain ⟨n, rfl⟩ : ∃ k : Nat, n = k := ⟨n.toNat, by omega⟩
    obtain ⟨ss, rfl⟩ : ∃ k : Nat, ss = k := ⟨ss.toNat, by omega⟩
    rw [Int.toNat_natCast] at hnl kc
    obtain ⟨K, hK⟩ : ∃ k : Nat, t'.keys = k := ⟨t'.keys.toNat, by omega⟩
    rw [hK] at kc a1 k0 k1
    have hni : (n : Int) < (d.tabs.n : Int) := by omega
    have hw1 : IntKind.i64.wrap ((ss : Int) + (K : Int)) = ((ss + K : Nat) : Int) := by rw [gwrap_i _ (by omega) (by omega)]; omega
    obtain ⟨e1, he1⟩ : ∃ n1, n1 = ss + K := ⟨_, rfl⟩
    rw [← he1] at hw1
    have h1 : (ss : Int) ≤ (e1 : Int) := by omega
    have h2 : (e1 : Int) ≤ 96 := by omega
    have h96 : ¬ 96 = ss := by omega
    have HE1 : Hid (e1 = ss + K ∧ ss + K ≤ 96 ∧ t'.keys = K ∧ K ≤ 3) := ⟨he1, by omega, hK, by omega⟩
    have i5' := cell_by i5
    have i2' := cell_by i2
    have c0' := cell_by c0
    have p1' := cell_by p1
    have kc' := cell_by kc
    have hgl : g < w.heap.size := World.block_lt_of_cell? _ _ kc
    clear h hx hsl hn0 he1 hK a0 a1 a2 a3 k0 k1 ht ht' k0c k1c k2c q7 ea hslot
    generalize d.tabs = tb at *
    obtain ⟨ta, tn, tc⟩ := tb
    dsimp only at *
    go_enter Try.func38, Try.ntmps38
    go_wp2_with fail
    refine wp_region_quiet_below (by kernel_rfl) (by kernel_rfl) ?_
    repeat (go_big_quiet_step (fail))
    refine wpQuiet_nil ?_
    intro wq hw'
    obtain ⟨⟨_, hwq⟩, hw''⟩ := hw'
    subst hw''
    have HE : Hid (AskIs (askedD d.ts s ⟨13, r, (ss : Int), kk, tt, (n : Int)⟩) w (.returned (.slice (some ⟨vb, 58 + ss, none⟩) (e1 - ss) (96 - ss))) wq) := by
      obtain ⟨x1, x2, x3, x4⟩ := HE1.out
      refine ⟨_, _, (List.range K).map fun i => s.slot (ss + i), by rw [List.length_map, List.length_range, show e1 - ss = K by omega], fun j y hy => ?_, ?_, by rw [List.length_map, List.length_range]; omega, hwq⟩
      · have hj : j < K := by
          have := (List.getElem?_eq_some_iff.1 hy).1
          simpa using this
        rw [List.getElem?_map, List.getElem?_range hj] at hy
        simp only [Option.map_some, Option.some.injEq] at hy
        subst hy
        have := cell_keep (HS.out (ss + j) (by omega)) hwq
        rw [← Nat.add_assoc] at this
        exact ⟨vb, 58 + ss, rfl, this⟩
      · rw [EQ.out, x3]
        simp only [Int.toNat_natCast, List.all_map]
        rfl
    clear i0 i5 i5' i2 i2' c0 c0' p1 p1' kc kc' HV EQ HS HE1 HR hwq
    go_wp2
    go_ret
    exact HE.out
  have EQ : Hid (askedD d.ts s x = true) := by
    show _ = _
    unfold askedD
    rw [if_neg q7, if_neg q13]
  obtain ⟨op, r, ss, kk, tt, n⟩ := x
  dsimp only at *
  have HE : Hid (AskIs (askedD d.ts s ⟨op, r, ss, kk, tt, n⟩) w (.returned (.slice none 0 0)) w) := ⟨none, 0, [], rfl, HasBo.nil _ _, by rw [EQ.out]; rfl, by simp, HR.out⟩
  clear h hx hsl p1 c0 hpl i2 i5 HR HV EQ
  go_enter Try.func38, Try.ntmps38
  go_wp2
  go_ret
  exact HE.out
end Go.Proofs.Ytmohffibkpecpaa

namespace Go.Proofs.Ytmohffibkpecpaa
open Go.RowKit

/-- it tells a number, and nothing old has turned -/
def TellI (n : Int) (w : World) (e : Ending) (w' : World) : Prop := e = .returned (.int .i64 n) ∧ Below w.heap.size w w'

set_option maxHeartbeats 4000000 in
set_option maxRecDepth 20000 in
theorem hwrong {w : World} {vb wk : Nat} {d : ProgD} {x : InsD} {s : SD} {m i : Nat} (h : VisAt w vb wk d x s) (hx : GOk d.slots d.ts m i x) (hsl : d.slots ≤ 96) : Calls Try.prog 21 #[vptr vb] w (TellI (wrongD d.ts s x) w) := by
  obtain ⟨R, hR⟩ : ∃ R, R = wrongD d.ts s x := ⟨_, rfl⟩
  rw [← hR]
  have HRD := hid (hready h hx.op hx.r hx.s)
  have HAS : Hid (∀ w', Below w.heap.size w w' → Calls Try.prog 38 #[vptr vb] w' (AskIs (askedD d.ts s x) w')) := fun w' hb => hasked (h.step hb) hx hsl
  have HX := hid hx
  have HV := hid h
  have HER := hid hR
  have hop := hx.op
  clear hR
  haveI inhB : ∀ w : World, Inhabited (BelowBy w) := fun w => ⟨⟨w, Below.refl _ _⟩⟩
  by_cases hrd : readyD s x = false
  · have E : Hid (R = 15) := by
      show _ = _
      rw [HER.out]
      unfold wrongD
      rw [if_pos hrd]
    rw [hrd] at HRD
    clear HAS HX HV HER h hx hop hrd
    go_enter Try.func21, Try.ntmps21
    go_wp2_with fail
    refine HRD.out.mono ?_
    rintro e w2 ⟨rfl, hb⟩
    have HB := hid hb
    clear hb HRD
    go_wp2
    go_ret
    exact ⟨by rw [E.out]; rfl, HB.out⟩
  have hrd' : readyD s x = true := by simpa using hrd
  rw [hrd'] at HRD
  have HRF := hid hrd
  clear hrd hrd'
  have HREST : Hid (¬ (x.op = 6 ∧ (s.reg x.s.toNat).has (x.n.toNat + x.k.toNat) = false) → ¬ (x.op = 15 ∧ (s.reg x.r.toNat).has 0 = false) → R = if askedD d.ts s x = false then 15 else 0) := fun h1 h2 => by
    rw [HER.out]
    unfold wrongD
    rw [if_neg HRF.out, if_neg h1, if_neg h2]
  by_cases q6 : x.op = 6
  · have hs := hx.s (by omega)
    obtain ⟨k1, k2, k3⟩ := hx.load q6
    have hn0 := hx.n.1
    have HH := hid (fun w => hhas (s.reg x.s.toNat) (x.n.toNat + x.k.toNat) w)
    have E1 : Hid ((s.reg x.s.toNat).has (x.n.toNat + x.k.toNat) = false → R = 16) := fun e => by
      rw [HER.out]
      unfold wrongD
      rw [if_neg HRF.out, if_pos ⟨q6, e⟩]
    have E2 : Hid ((s.reg x.s.toNat).has (x.n.toNat + x.k.toNat) = true → R = 0) := fun e => by
      have ha : askedD d.ts s x = true := by
        unfold askedD
        rw [if_neg (by omega), if_neg (by omega)]
      rw [HREST.out (fun h => by rw [e] at h; cases h.2) (fun h => by omega), ha]
      rfl
    obtain ⟨AS, hAS⟩ : ∃ A, A = askedD d.ts s x := ⟨_, rfl⟩
    have EAS : Hid (AS = true) := by
      show _ = _
      rw [hAS]
      unfold askedD
      rw [if_neg (by omega), if_neg (by omega)]
    rw [← hAS] at HAS
    clear hAS HREST HER HX h hx hop HRF
    obtain ⟨op, r, ss, kk, tt, n⟩ := x
    dsimp only at *
    subst q6
    obtain ⟨n, rfl⟩ : ∃ k : Nat, n = k := ⟨n.toNat, by omega⟩
    obtain ⟨ss, rfl⟩ : ∃ k : Nat, ss = k := ⟨ss.toNat, by omega⟩
    obtain ⟨kk, rfl⟩ : ∃ k : Nat, kk = k := ⟨kk.toNat, by omega⟩
    simp only [Int.toNat_natCast] at HH E1 E2
    have hsi : (ss : Int) < 10 := by omega
    have hku : IntKind.u64.wrap (kk : Int) = (kk : Int) := gwrap_u _ (by omega) (by omega)
    have hw1 : IntKind.u64.wrap ((n : Int) + (kk : Int)) = ((n + kk : Nat) : Int) := by rw [gwrap_u _ (by omega) (by omega)]; omega
    obtain ⟨nk, hnk⟩ : ∃ n1, n1 = n + kk := ⟨_, rfl⟩
    rw [← hnk] at hw1 HH E1 E2
    have hsn : ss < 10 := by omega
    clear hnk k1 k2 k3 hn0 hs
    go_enter Try.func21, Try.ntmps21
    go_wp2_with fail
    refine HRD.out.mono ?_
    rintro e w2 ⟨rfl, hb⟩
    have h2 := HV.out.step hb
    obtain ⟨g0, g1, g2, g3, g4⟩ := h2.reg hsn
    have i0 := h2.i0
    have i2 := h2.i2
    have i3 := h2.i3
    have i5 := h2.i5
    have hl := h2.lt
    have B2 := hid hb
    clear h2 HV hb HRD hsn
    dsimp only at i0 i2 i3 i5
    generalize (s.reg ss) = X at *
    have i0' := cell_by i0
    have i2' := cell_by i2
    have i3' := cell_by i3
    have i5' := cell_by i5
    have g0' := cell_by g0
    have g1' := cell_by g1
    have g2' := cell_by g2
    have g3' := cell_by g3
    have g4' := cell_by g4
    go_wp2_with fail
    have HH2 : Hid (∀ q : BelowBy w2, Calls Try.prog 36 #[regV X, .int .u64 (nk : Int)] q.to fun e w' => e = .returned (.bool (X.has nk)) ∧ Below q.to.heap.size q.to w') := fun q => HH.out q.to
    refine wp_region_quiet_below (by kernel_rfl) (by kernel_rfl) ?_
    repeat (go_big_quiet_step (first | (go_at_call 36; exact calls_below _ (HH2.out _))))
    refine wpQuiet_nil ?_
    intro wq hw'
    obtain ⟨⟨_, hwq⟩, hw''⟩ := hw'
    subst hw''
    have B3 := hid (bl_step B2.out hwq)
    have i0q := cell_keep i0 hwq
    have hlq : vb < wq.heap.size := World.block_lt_of_cell? _ _ i0q
    clear hwq i0 i2 i3 i5 g0 g1 g2 g3 g4 i0' i2' i3' i5' g0' g1' g2' g3' g4' HH HH2 B2 hl
    cases hX : X.has nk with
    | false =>
      have E := hid (E1.out hX)
      clear hX E1 E2 EAS HAS
      go_wp2
      go_ret
      exact ⟨by rw [E.out]; rfl, B3.out⟩
    | true =>
      have E := hid (E2.out hX)
      have i0q' := cell_by i0q
      clear hX E1 E2
      go_wp2_with fail
      refine wp_region_quiet_below (by kernel_rfl) (by kernel_rfl) ?_
      repeat (go_big_quiet_step (fail))
      refine wpQuiet_nil ?_
      intro wr hw'
      obtain ⟨⟨_, hwq⟩, hw''⟩ := hw'
      subst hw''
      have B4 := hid (bl_step B3.out hwq)
      have HA := hid (HAS.out wr B4.out)
      clear hwq i0q i0q' B3 HAS hlq
      go_wp2_with fail
      refine HA.out.mono ?_
      rintro e w5 ⟨a5, c5, bs, rfl, hbs, hq, hlen, hb5⟩
      have HCT := hid (hcontains c5 hbs hlen)
      have B5 := hid (bl_step B4.out hb5)
      rw [hq, EAS.out] at HCT
      clear hbs hq hlen hb5 HA B4 EAS
      go_wp2_with fail
      refine HCT.out.mono ?_
      rintro e w6 ⟨rfl, hb6⟩
      have B6 := hid (bl_step B5.out hb6)
      clear hb6 HCT B5
      go_wp2
      go_ret
      exact ⟨by rw [E.out]; rfl, B6.out⟩
  by_cases q15 : x.op = 15
  · have hr := hx.r
    have HH := hid (fun w => hhas (s.reg x.r.toNat) 0 w)
    have E1 : Hid ((s.reg x.r.toNat).has 0 = false → R = 16) := fun e => by
      rw [HER.out]
      unfold wrongD
      rw [if_neg HRF.out, if_neg (fun h => q6 h.1), if_pos ⟨q15, e⟩]
    have E2 : Hid ((s.reg x.r.toNat).has 0 = true → R = 0) := fun e => by
      have ha : askedD d.ts s x = true := by
        unfold askedD
        rw [if_neg (by omega), if_neg (by omega)]
      rw [HREST.out (fun h => q6 h.1) (fun h => by rw [e] at h; cases h.2), ha]
      rfl
    obtain ⟨AS, hAS⟩ : ∃ A, A = askedD d.ts s x := ⟨_, rfl⟩
    have EAS : Hid (AS = true) := by
      show _ = _
      rw [hAS]
      unfold askedD
      rw [if_neg (by omega), if_neg (by omega)]
    rw [← hAS] at HAS
    clear hAS HREST HER HX h hx hop HRF q6
    obtain ⟨op, r, ss, kk, tt, n⟩ := x
    dsimp only at *
    subst q15
    obtain ⟨r, rfl⟩ : ∃ k : Nat, r = k := ⟨r.toNat, by omega⟩
    simp only [Int.toNat_natCast] at HH E1 E2
    have hsi : (r : Int) < 10 := by omega
    have hsn : r < 10 := by omega
    clear hr
    go_enter Try.func21, Try.ntmps21
    go_wp2_with fail
    refine HRD.out.mono ?_
    rintro e w2 ⟨rfl, hb⟩
    have h2 := HV.out.step hb
    obtain ⟨g0, g1, g2, g3, g4⟩ := h2.reg hsn
    have i0 := h2.i0
    have i1 := h2.i1
    have hl := h2.lt
    have B2 := hid hb
    clear h2 HV hb HRD hsn
    dsimp only at i0 i1
    generalize (s.reg r) = X at *
    have i0' := cell_by i0
    go_wp2_with fail
    refine wp_region_quiet_below (by kernel_rfl) (by kernel_rfl) ?_
    repeat (go_big_quiet_step (fail))
    refine wpQuiet_nil ?_
    intro wq hw'
    obtain ⟨⟨_, hwq⟩, hw''⟩ := hw'
    subst hw''
    have B3 := hid (bl_step B2.out hwq)
    replace i0 := cell_keep i0 hwq
    replace i1 := cell_keep i1 hwq
    replace g0 := cell_keep g0 hwq
    replace g1 := cell_keep g1 hwq
    replace g2 := cell_keep g2 hwq
    replace g3 := cell_keep g3 hwq
    replace g4 := cell_keep g4 hwq
    replace hl : vb < wq.heap.size := World.block_lt_of_cell? _ _ i0
    clear hwq i0' B2
    have i0' := cell_by i0
    have i1' := cell_by i1
    have g0' := cell_by g0
    have g1' := cell_by g1
    have g2' := cell_by g2
    have g3' := cell_by g3
    have g4' := cell_by g4
    have HH2 : Hid (∀ q : BelowBy wq, Calls Try.prog 36 #[regV X, .int .u64 0] q.to fun e w' => e = .returned (.bool (X.has 0)) ∧ Below q.to.heap.size q.to w') := fun q => HH.out q.to
    go_wp2_with fail
    refine wp_region_quiet_below (by kernel_rfl) (by kernel_rfl) ?_
    repeat (go_big_quiet_step (first | (go_at_call 36; exact calls_below _ (HH2.out _))))
    refine wpQuiet_nil ?_
    intro wr hw'
    obtain ⟨⟨_, hwq⟩, hw''⟩ := hw'
    subst hw''
    have B4 := hid (bl_step B3.out hwq)
    clear hwq i0 i1 g0 g1 g2 g3 g4 i0' i1' g0' g1' g2' g3' g4' HH HH2 B3 hl
    cases hX : X.has 0 with
    | false =>
      have E := hid (E1.out hX)
      clear hX E1 E2 EAS HAS
      go_wp2
      go_ret
      exact ⟨by rw [E.out]; rfl, B4.out⟩
    | true =>
      have E := hid (E2.out hX)
      have HA := hid (HAS.out wr B4.out)
      clear hX E1 E2 HAS
      go_wp2_with fail
      refine HA.out.mono ?_
      rintro e w5 ⟨a5, c5, bs, rfl, hbs, hq, hlen, hb5⟩
      have HCT := hid (hcontains c5 hbs hlen)
      have B5 := hid (bl_step B4.out hb5)
      rw [hq, EAS.out] at HCT
      clear hbs hq hlen hb5 HA B4 EAS
      go_wp2_with fail
      refine HCT.out.mono ?_
      rintro e w6 ⟨rfl, hb6⟩
      have B6 := hid (bl_step B5.out hb6)
      clear hb6 HCT B5
      go_wp2
      go_ret
      exact ⟨by rw [E.out]; rfl, B6.out⟩
  have ER := hid (HREST.out (fun h => q6 h.1) (fun h => q15 h.1))
  generalize askedD d.ts s x = AS at *
  clear HREST HER HX h hx hop HRF
  obtain ⟨op, r, ss, kk, tt, n⟩ := x
  dsimp only at *
  go_enter Try.func21, Try.ntmps21
  go_wp2_with fail
  refine HRD.out.mono ?_
  rintro e w2 ⟨rfl, hb⟩
  have h2 := HV.out.step hb
  have i0 := h2.i0
  have hl := h2.lt
  have B2 := hid hb
  clear h2 HV hb HRD
  dsimp only at i0
  have i0' := cell_by i0
  have d6 : (op == 6) = false := by simpa using q6
  have d15 : (op == 15) = false := by simpa using q15
  go_wp2_with fail
  refine wp_region_quiet_below (by kernel_rfl) (by kernel_rfl) ?_
  repeat (go_big_quiet_step (fail))
  refine wpQuiet_nil ?_
  intro wq hw'
  obtain ⟨⟨_, hwq⟩, hw''⟩ := hw'
  subst hw''
  have B3 := hid (bl_step B2.out hwq)
  replace i0 := cell_keep i0 hwq
  replace hl : vb < wq.heap.size := World.block_lt_of_cell? _ _ i0
  clear hwq i0' B2
  have i0' := cell_by i0
  go_wp2_with fail
  refine wp_region_quiet_below (by kernel_rfl) (by kernel_rfl) ?_
  repeat (go_big_quiet_step (fail))
  refine wpQuiet_nil ?_
  intro wr hw'
  obtain ⟨⟨_, hwq⟩, hw''⟩ := hw'
  subst hw''
  have B4 := hid (bl_step B3.out hwq)
  have HA := hid (HAS.out wr B4.out)
  clear hwq i0 i0' B3 HAS hl d6 d15 q6 q15
  go_wp2_with fail
  refine HA.out.mono ?_
  rintro e w5 ⟨a5, c5, bs, rfl, hbs, hq, hlen, hb5⟩
  have HCT := hid (hcontains c5 hbs hlen)
  have B5 := hid (bl_step B4.out hb5)
  rw [hq] at HCT
  clear hbs hq hlen hb5 HA B4
  go_wp2_with fail
  refine HCT.out.mono ?_
  rintro e w6 ⟨rfl, hb6⟩
  have B6 := hid (bl_step B5.out hb6)
  clear hb6 HCT B5
  cases AS
  · have E : Hid (R = 15) := ER.out
    clear ER
    go_wp2
    go_ret
    exact ⟨by rw [E.out]; rfl, B6.out⟩
  · have E : Hid (R = 0) := ER.out
    clear ER
    go_wp2
    go_ret
    exact ⟨by rw [E.out]; rfl, B6.out⟩
end Go.Proofs.Ytmohffibkpecpaa
