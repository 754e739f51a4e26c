/- The end of a region that waits for all that stands ahead of it may be cut off: all orders of the first part, then the end. -/
import Derived.OrdersHeld
import Derived.StillTail
import Derived.Deep.RegionHeld3
namespace Go.Proofs.Ytjmlkaciibdpaaa
open Go

/-- the exits of the first part: at its end it goes on -/
def cutPost (K : Act → World → Prop) (Q : Exit → Act → World → Prop) : Exit → Act → World → Prop
  | .normal, a, w => K a w
  | .exit i, a, w => Q (.exit i) a w
  | .goto l, a, w => Q (.goto l) a w
  | .ret, a, w => Q .ret a w
  | .panic c, a, w => Q (.panic c) a w
  | .outgrown, a, w => Q .outgrown a w

theorem upon_cut {P : Program} {o : Oper} {a : Act} {K K1 K2 : Act → World → Prop} {Q : Exit → Act → World → Prop} {r : Result Next} (hk : ∀ a w, K1 a w → K2 a w) (h : o.upon P a K1 (cutPost K Q) r) : o.upon P a K2 Q r := by
  cases r with
  | ok n w' =>
    cases n <;> simp only [Oper.upon] at h ⊢ <;>
      first
        | exact hk _ _ h
        | exact Calls.mono h (fun e w'' he => by cases e <;> first | exact hk _ _ he | exact he)
        | exact Rows.mono h (fun _ _ he => hk _ _ he)
  | halt x w' => cases x <;> simp only [Oper.upon] at h ⊢ <;> exact h

theorem wpOp_cut {P : Program} {ops : Array Oper} {i : Nat} {a : Act} {w : World} {K K1 K2 : Act → World → Prop} {Q : Exit → Act → World → Prop} (hk : ∀ a w, K1 a w → K2 a w) (h : wpOp P ops (cutPost K Q) i K1 a w) : wpOp P ops Q i K2 a w := by
  unfold wpOp at *
  split
  · exact hk _ _ (by simpa [*] using h)
  · rename_i o ho
    simp only [ho] at h
    split
    · rename_i hw
      simp only [hw, if_true] at h
      exact h.imp (fun h => upon_cut hk h) id
    · rename_i hw
      simp only [hw] at h
      exact hk _ _ h

/-- the same listed ahead of n; behind it the one has all, the other none -/
structure CutRel (n m : Nat) (hl listed : Array Bool) : Prop where
  s1 : hl.size = m
  s2 : listed.size = m
  head : ∀ i, i < n → hl[i]? = listed[i]?
  tl : ∀ t, n ≤ t → t < m → hl[t]? = some true ∧ listed[t]? = some false

theorem CutRel.set {n m : Nat} {hl listed : Array Bool} (h : CutRel n m hl listed) {i : Nat} (hi : i < n) : CutRel n m (hl.setIfInBounds i true) (listed.setIfInBounds i true) := by
  refine ⟨by simp [h.s1], by simp [h.s2], fun j hj => ?_, fun t ht hm => ?_⟩
  · by_cases e : i = j
    · subst e
      have := h.head i hi
      rw [Array.getElem?_setIfInBounds_self, Array.getElem?_setIfInBounds_self, h.s1, h.s2]
    · rw [Array.getElem?_setIfInBounds_ne e, Array.getElem?_setIfInBounds_ne e]
      exact h.head j hj
  · rw [Array.getElem?_setIfInBounds_ne (by omega), Array.getElem?_setIfInBounds_ne (by omega)]
    exact h.tl t ht hm

def Region.backB (md : Region.Mode) (ops : Array Oper) (n : Nat) : Bool :=
  (List.range n).all fun i => match ops[i]? with
    | some o => o.after.all fun e => !Region.binds md e || decide (e.on < i)
    | none => false
def Region.waitB (md : Region.Mode) (ops : Array Oper) (n : Nat) : Bool :=
  (List.range ops.size).all fun t => decide (t < n) || (List.range n).all fun i => Region.waitsFor md ops t i

theorem first_not (p : Nat → Bool) : ∀ n, (∃ j, j < n ∧ p j = false) → ∃ j, j < n ∧ p j = false ∧ ∀ i, i < j → p i = true
  | 0, ⟨j, hj, _⟩ => by omega
  | n + 1, ⟨j, hj, hp⟩ => by
    by_cases h : ∃ i, i < n ∧ p i = false
    · obtain ⟨i, h1, h2, h3⟩ := first_not p n h
      exact ⟨i, by omega, h2, h3⟩
    · have hjn : j = n := by
        by_cases e : j < n
        · exact absurd ⟨j, e, hp⟩ h
        · omega
      subst hjn
      refine ⟨j, hj, hp, fun i hi => ?_⟩
      cases hpi : p i with
      | true => rfl
      | false => exact absurd ⟨i, hi, hpi⟩ h

theorem wpAny_cut {P : Program} {md : Region.Mode} {ops : Array Oper} {Q : Exit → Act → World → Prop} {K : Act → World → Prop} {n g : Nat} {E : Array Bool} (hn : n ≤ ops.size) (hback : Region.backB md ops n = true) (hwait : Region.waitB md ops n = true)
    (hE : E.size = ops.size ∧ (∀ i, i < n → E[i]? = some true) ∧ ∀ t, n ≤ t → t < ops.size → E[t]? = some false) (hK : ∀ a w, K a w → wpAny P md ops Q g E a w) :
    ∀ (f : Nat) (hl listed : Array Bool) (a : Act) (w : World), CutRel n ops.size hl listed → hl.toList.count false = f → wpAny P md ops (cutPost K Q) f hl a w → wpAny P md ops Q (f + g) listed a w := by
  intro f
  induction f with
  | zero =>
    intro hl listed a w hr hc h
    have hall : ∀ i, i < ops.size → hl[i]? = some true := fun i hi => by
      have h0 : false ∉ hl.toList := List.count_eq_zero.1 hc
      have hlt : i < hl.size := by rw [hr.s1]; exact hi
      rw [Array.getElem?_eq_getElem hlt]
      cases hx : hl[i] with
      | true => rfl
      | false => exact absurd (by rw [← hx]; exact Array.getElem_mem_toList hlt) h0
    have e : listed = E := by
      refine Array.ext (by rw [hr.s2, hE.1]) fun i h1 h2 => ?_
      have hi : i < ops.size := by rw [← hr.s2]; exact h1
      have : listed[i]? = E[i]? := by
        by_cases hin : i < n
        · rw [← hr.head i hin, hall i hi, hE.2.1 i hin]
        · rw [(hr.tl i (by omega) hi).2, hE.2.2 i (by omega) hi]
      rw [Array.getElem?_eq_getElem h1, Array.getElem?_eq_getElem h2] at this
      exact Option.some.inj this
    subst e
    rw [Nat.zero_add]
    exact hK a w h.2
  | succ f ih =>
    intro hl listed a w hr hc h
    rw [show f + 1 + g = (f + g) + 1 by omega]
    -- one ahead of n is not listed
    have hun : ∃ j, j < n ∧ listed.getD j true = false := by
      have hm : false ∈ hl.toList := List.count_pos_iff.1 (by omega)
      obtain ⟨j, hj, e⟩ := List.getElem_of_mem hm
      have hjs : j < hl.size := by simpa using hj
      have hjm : j < ops.size := by rw [← hr.s1]; exact hjs
      have e' : hl[j]? = some false := by rw [Array.getElem?_eq_getElem hjs]; simpa using e
      by_cases hjn : j < n
      · refine ⟨j, hjn, ?_⟩
        have := hr.head j hjn
        rw [e'] at this
        rw [Array.getD_eq_getD_getElem?, ← this]
        rfl
      · have := (hr.tl j (by omega) hjm).1
        rw [e'] at this
        cases this
    refine ⟨fun h0 => ?_, fun i hi => ?_⟩
    · exfalso
      obtain ⟨j, hj, hju, hjb⟩ := first_not (fun j => listed.getD j true) n hun
      have hjm : j < ops.size := by omega
      have hb := List.all_eq_true.1 hback j (List.mem_range.2 hj)
      rw [Array.getElem?_eq_getElem hjm] at hb
      have : j ∈ Region.ready md ops listed := mem_ready.2 ⟨hju, ops[j], Array.getElem?_eq_getElem hjm, fun e he hbi => by
        have h1 := Array.all_eq_true'.1 hb e he
        rw [hbi] at h1
        have h2 : e.on < j := by simpa using h1
        have h3 := hjb _ h2
        have h4 : e.on < listed.size := by rw [hr.s2]; omega
        rw [Array.getD_eq_getD_getElem?, Array.getElem?_eq_getElem h4] at h3 ⊢
        exact h3⟩
      rw [h0] at this
      cases this
    · obtain ⟨hiu, o, ho, hall⟩ := mem_ready.1 hi
      have him : i < ops.size := (Array.getElem?_eq_some_iff.1 ho).1
      have hin : i < n := by
        by_cases e : i < n
        · exact e
        · exfalso
          have h1 := List.all_eq_true.1 hwait i (List.mem_range.2 him)
          obtain ⟨j, hj, hju⟩ := hun
          simp only [Bool.or_eq_true, decide_eq_true_eq] at h1
          rcases h1 with h1 | h1
          · exact e h1
          · obtain ⟨oj, hoj, ed, hed, hbd, hon⟩ := Region.waitsFor_spec (List.all_eq_true.1 h1 j (List.mem_range.2 hj))
            have : oj = o := Option.some.inj (hoj.symm.trans ho)
            subst this
            have h2 := hall ed hed hbd
            rw [hon, getD_both hju] at h2
            cases h2
      have hmem : i ∈ Region.ready md ops hl := mem_ready.2 ⟨by
          have := hr.head i hin
          rw [Array.getD_eq_getD_getElem?] at hiu ⊢
          rw [this]; exact hiu, o, ho, fun e he hb => by
          have h1 := hall e he hb
          have h2 : e.on < n := by
            by_cases h3 : e.on < n
            · exact h3
            · exfalso
              by_cases h4 : e.on < ops.size
              · have := (hr.tl e.on (by omega) h4).2
                rw [Array.getD_eq_getD_getElem?, this] at h1
                cases h1
              · rw [Array.getD_eq_getD_getElem?, Array.getElem?_eq_none (by rw [hr.s2]; omega)] at h1
                cases h1
          have := hr.head e.on h2
          rw [Array.getD_eq_getD_getElem?] at h1 ⊢
          rw [this]; exact h1⟩
      refine wpOp_cut (fun a' w' h' => ih (hl.setIfInBounds i true) (listed.setIfInBounds i true) a' w' (hr.set hin) ?_ h') (h.2 i hmem)
      have his : i < hl.toList.length := by rw [Array.length_toList, hr.s1]; exact him
      have hif : hl.toList[i] = false := by
        have := hr.head i hin
        have h4 : i < listed.size := by rw [hr.s2]; exact him
        rw [Array.getD_eq_getD_getElem?, Array.getElem?_eq_getElem h4] at hiu
        rw [Array.getElem?_eq_getElem h4] at this
        have h5 : i < hl.size := by rw [hr.s1]; exact him
        rw [Array.getElem?_eq_getElem h5] at this
        simp only [Option.some.injEq, Option.getD_some] at this hiu
        rw [Array.getElem_toList, this]
        exact hiu
      rw [Array.toList_setIfInBounds, List.count_set his, hif, hc]
      simp

theorem drop_at {l rest : List Oper} {i : Nat} {o : Oper} (h : l.drop i = o :: rest) : l.toArray[i]? = some o := by
  have : (l.drop i)[0]? = some o := by rw [h]; rfl
  rw [List.getElem?_drop, Nat.add_zero] at this
  rw [List.getElem?_toArray, this]

theorem rep_left {x y : Bool} {n m i : Nat} (h : i < n) : (List.replicate n x ++ List.replicate m y).toArray[i]? = some x := by
  rw [List.getElem?_toArray, List.getElem?_append_left (by simpa using h), List.getElem?_replicate, if_pos h]
theorem rep_right {x y : Bool} {n m t : Nat} (h : n ≤ t) (h2 : t < n + m) : (List.replicate n x ++ List.replicate m y).toArray[t]? = some y := by
  rw [List.getElem?_toArray, List.getElem?_append_right (by simpa using h), List.length_replicate, List.getElem?_replicate, if_pos (by omega)]
theorem rep_all {m i : Nat} (h : i < m) : (Array.replicate m false)[i]? = some false := by
  rw [Array.getElem?_replicate, if_pos h]

def Region.cutB (l : List Oper) (n : Nat) : Bool :=
  decide (n ≤ l.toArray.size) && Region.backB .any l.toArray n && Region.waitB .any l.toArray n && Region.seqB .any l.toArray (l.drop n).length n (List.replicate n true ++ List.replicate (l.length - n) false).toArray

/-- a region that draws: all orders of what stands ahead of n, then the end -/
theorem wp_region_cut {P : Program} {id : Nat} {Q : Exit → Act → World → Prop} {a : Act} {w : World} {l : List Oper} (n : Nat) (hm : P.follows .mixedOrders = true) (hB : Region.cutB l n = true)
    (h : wpAny P .any l.toArray (cutPost (fun a w => wpList P l.toArray Q (l.drop n) a w) Q) n (List.replicate n false ++ List.replicate (l.length - n) true).toArray a w.drew) : (Code.region id l.toArray true).wp P Q a w := by
  simp only [Region.cutB, Bool.and_eq_true, decide_eq_true_eq] at hB
  obtain ⟨⟨⟨h1, h2⟩, h3⟩, h4⟩ := hB
  have hnl : n ≤ l.length := by simpa using h1
  refine wp_region_any hm ?_
  have hs : l.toArray.size = n + (l.length - n) := by simp; omega
  have key := wpAny_cut (P := P) (md := .any) (ops := l.toArray) (Q := Q) (K := fun a w => wpList P l.toArray Q (l.drop n) a w) (n := n) (g := (l.drop n).length) (E := (List.replicate n true ++ List.replicate (l.length - n) false).toArray) h1 h2 h3
    ⟨by simp; omega, fun i hi => rep_left hi, fun t ht hm => rep_right ht (by omega)⟩
    (fun a w hk => wpAny_of_seq (l.drop n) n _ a w (fun j => by simp) h4 hk)
    n (List.replicate n false ++ List.replicate (l.length - n) true).toArray (Array.replicate l.toArray.size false) a w.drew
    ⟨by simp; omega, by simp, fun i hi => by rw [rep_left hi, rep_all (by omega)], fun t ht hm => ⟨rep_right ht (by omega), rep_all hm⟩⟩
    (by simp [List.count_append, List.count_replicate]) h
  rw [hs]
  rw [hs] at key
  have e : (l.drop n).length = l.length - n := by simp
  rw [e] at key
  exact key

/-- the same, by what all orders of the first part come to -/
theorem wp_region_cutK {P : Program} {id : Nat} {Q : Exit → Act → World → Prop} {a : Act} {w : World} {l : List Oper} (K : Act → World → Prop) (n : Nat) (hm : P.follows .mixedOrders = true) (hB : Region.cutB l n = true)
    (h : wpAny P .any l.toArray (cutPost K Q) n (List.replicate n false ++ List.replicate (l.length - n) true).toArray a w.drew) (hK : ∀ a w, K a w → wpList P l.toArray Q (l.drop n) a w) : (Code.region id l.toArray true).wp P Q a w := by
  simp only [Region.cutB, Bool.and_eq_true, decide_eq_true_eq] at hB
  obtain ⟨⟨⟨h1, h2⟩, h3⟩, h4⟩ := hB
  have hnl : n ≤ l.length := by simpa using h1
  refine wp_region_any hm ?_
  have hs : l.toArray.size = n + (l.length - n) := by simp; omega
  have key := wpAny_cut (P := P) (md := .any) (ops := l.toArray) (Q := Q) (K := K) (n := n) (g := (l.drop n).length) (E := (List.replicate n true ++ List.replicate (l.length - n) false).toArray) h1 h2 h3
    ⟨by simp; omega, fun i hi => rep_left hi, fun t ht hm => rep_right ht (by omega)⟩
    (fun a w hk => wpAny_of_seq (l.drop n) n _ a w (fun j => by simp) h4 (hK a w hk))
    n (List.replicate n false ++ List.replicate (l.length - n) true).toArray (Array.replicate l.toArray.size false) a w.drew
    ⟨by simp; omega, by simp, fun i hi => by rw [rep_left hi, rep_all (by omega)], fun t ht hm => ⟨rep_right ht (by omega), rep_all hm⟩⟩
    (by simp [List.count_append, List.count_replicate]) h
  rw [hs]
  rw [hs] at key
  have e : (l.drop n).length = l.length - n := by simp
  rw [e] at key
  exact key

end Go.Proofs.Ytjmlkaciibdpaaa
