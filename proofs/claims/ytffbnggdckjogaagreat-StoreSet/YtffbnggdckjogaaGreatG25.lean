/- Texts of one chain, joined: YCutQ. -/
import Derived.Test.YtffbnggdckjogaaGreatG0
import Derived.Test.YtffbnggdckjogaaGreatG23
namespace Go.Proofs.YtffbnggdckjogaaGreat
open Go Go.RowKit
def Closed (md : Region.Mode) (ops : Array Oper) (listed : Array Bool) : Prop := ∀ (i : Nat) (o : Oper), listed[i]? = some true → ops[i]? = some o → ∀ e ∈ o.after, Region.binds md e = true → listed[e.on]? = some true
theorem closed_none (md : Region.Mode) (ops : Array Oper) (m : Nat) : Closed md ops (Array.replicate m false) := fun i o h => by
  rw [Array.getElem?_replicate] at h
  split at h <;> cases h
theorem Closed.set {md : Region.Mode} {ops : Array Oper} {listed : Array Bool} (h : Closed md ops listed) {i : Nat} {o : Oper} (ho : ops[i]? = some o) (hw : ∀ e ∈ o.after, Region.binds md e = true → listed[e.on]? = some true) : Closed md ops (listed.setIfInBounds i true) := by
  have up : ∀ k, listed[k]? = some true → (listed.setIfInBounds i true)[k]? = some true := fun k hk => by
    by_cases e : i = k
    · subst e
      rw [Array.getElem?_setIfInBounds_self, if_pos (Array.getElem?_eq_some_iff.1 hk).1]
    · rw [Array.getElem?_setIfInBounds_ne e]; exact hk
  intro j oj hj hoj e he hb
  by_cases hij : i = j
  · subst hij
    obtain rfl : oj = o := Option.some.inj (hoj.symm.trans ho)
    exact up _ (hw e he hb)
  · rw [Array.getElem?_setIfInBounds_ne hij] at hj
    exact up _ (h j oj hj hoj e he hb)
def Region.reach (md : Region.Mode) (ops : Array Oper) : Nat → Nat → Nat → Bool
  | 0, _, _ => false
  | f + 1, t, i => Region.waitsFor md ops t i || (List.range ops.size).any fun k => Region.waitsFor md ops t k && Region.reach md ops f k i
def Region.reachB (md : Region.Mode) (ops : Array Oper) (n : Nat) : Bool :=
  (List.range ops.size).all fun t => decide (t < n) || (List.range n).all fun i => Region.reach md ops ops.size t i
theorem reach_listed {md : Region.Mode} {ops : Array Oper} {listed : Array Bool} (hcl : Closed md ops listed) : ∀ (f t i : Nat), (∀ o, ops[t]? = some o → ∀ e ∈ o.after, Region.binds md e = true → listed[e.on]? = some true) → Region.reach md ops f t i = true → listed[i]? = some true := by
  intro f
  induction f with
  | zero => intro t i _ h; exact absurd h (by simp [Region.reach])
  | succ f ih =>
    intro t i ht h
    rw [Region.reach, Bool.or_eq_true] at h
    rcases h with h | h
    · obtain ⟨o, ho, e, he, hb, hon⟩ := Region.waitsFor_spec h
      rw [← hon]
      exact ht o ho e he hb
    · obtain ⟨k, _, hk⟩ := List.any_eq_true.1 h
      rw [Bool.and_eq_true] at hk
      obtain ⟨o, ho, e, he, hb, hon⟩ := Region.waitsFor_spec hk.1
      have hkl := ht o ho e he hb
      rw [hon] at hkl
      exact ih k i (fun ok hok e' he' hb' => hcl k ok hkl hok e' he' hb') hk.2
theorem wpAny_cutT {P : Program} {md : Region.Mode} {ops : Array Oper} {Q : Exit → Act → World → Prop} {K : Act → World → Prop} {n g : Nat} {E : Array Bool} (hn : n ≤ ops.size) (hback : Region.backB md ops n = true) (hwait : Region.reachB md ops n = true)
    (hE : E.size = ops.size ∧ (∀ i, i < n → E[i]? = some true) ∧ ∀ t, n ≤ t → t < ops.size → E[t]? = some false) (hK : ∀ a w, K a w → wpAny P md ops Q g E a w) :
    ∀ (f : Nat) (hl listed : Array Bool) (a : Act) (w : World), CutRel n ops.size hl listed → Closed md ops listed → hl.toList.count false = f → wpAny P md ops (cutPost K Q) f hl a w → wpAny P md ops Q (f + g) listed a w := by
  intro f
  induction f with
  | zero =>
    intro hl listed a w hr hcl hc h
    have hall : ∀ i, i < ops.size → hl[i]? = some true := fun i hi => by
      have h0 : false ∉ hl.toList := List.count_eq_zero.1 hc
      have hlt : i < hl.size := by rw [hr.s1]; exact hi
      rw [Array.getElem?_eq_getElem hlt]
      cases hx : hl[i] with
      | true => rfl
      | false => exact absurd (by rw [← hx]; exact Array.getElem_mem_toList hlt) h0
    have e : listed = E := by
      refine Array.ext (by rw [hr.s2, hE.1]) fun i h1 h2 => ?_
      have hi : i < ops.size := by rw [← hr.s2]; exact h1
      have : listed[i]? = E[i]? := by
        by_cases hin : i < n
        · rw [← hr.head i hin, hall i hi, hE.2.1 i hin]
        · rw [(hr.tl i (by omega) hi).2, hE.2.2 i (by omega) hi]
      rw [Array.getElem?_eq_getElem h1, Array.getElem?_eq_getElem h2] at this
      exact Option.some.inj this
    subst e
    rw [Nat.zero_add]
    exact hK a w h.2
  | succ f ih =>
    intro hl listed a w hr hcl hc h
    rw [show f + 1 + g = (f + g) + 1 by omega]
    -- one ahead of n is not listed
    have hun : ∃ j, j < n ∧ listed.getD j true = false := by
      have hm : false ∈ hl.toList := List.count_pos_iff.1 (by omega)
      obtain ⟨j, hj, e⟩ := List.getElem_of_mem hm
      have hjs : j < hl.size := by simpa using hj
      have hjm : j < ops.size := by rw [← hr.s1]; exact hjs
      have e' : hl[j]? = some false := by rw [Array.getElem?_eq_getElem hjs]; simpa using e
      by_cases hjn : j < n
      · refine ⟨j, hjn, ?_⟩
        have := hr.head j hjn
        rw [e'] at this
        rw [Array.getD_eq_getD_getElem?, ← this]
        rfl
      · have := (hr.tl j (by omega) hjm).1
        rw [e'] at this
        cases this
    refine ⟨fun h0 => ?_, fun i hi => ?_⟩
    · exfalso
      obtain ⟨j, hj, hju, hjb⟩ := first_not (fun j => listed.getD j true) n hun
      have hjm : j < ops.size := by omega
      have hb := List.all_eq_true.1 hback j (List.mem_range.2 hj)
      rw [Array.getElem?_eq_getElem hjm] at hb
      have : j ∈ Region.ready md ops listed := mem_ready.2 ⟨hju, ops[j], Array.getElem?_eq_getElem hjm, fun e he hbi => by
        have h1 := Array.all_eq_true'.1 hb e he
        rw [hbi] at h1
        have h2 : e.on < j := by simpa using h1
        have h3 := hjb _ h2
        have h4 : e.on < listed.size := by rw [hr.s2]; omega
        rw [Array.getD_eq_getD_getElem?, Array.getElem?_eq_getElem h4] at h3 ⊢
        exact h3⟩
      rw [h0] at this
      cases this
    · obtain ⟨hiu, o, ho, hall⟩ := mem_ready.1 hi
      have him : i < ops.size := (Array.getElem?_eq_some_iff.1 ho).1
      have hin : i < n := by
        by_cases e : i < n
        · exact e
        · exfalso
          have h1 := List.all_eq_true.1 hwait i (List.mem_range.2 him)
          obtain ⟨j, hj, hju⟩ := hun
          simp only [Bool.or_eq_true, decide_eq_true_eq] at h1
          rcases h1 with h1 | h1
          · exact e h1
          · have h2 := reach_listed hcl ops.size i j (fun oi hoi ed hed hbd => by
              have : oi = o := Option.some.inj (hoi.symm.trans ho)
              subst this
              have h3 := hall ed hed hbd
              rw [Array.getD_eq_getD_getElem?] at h3
              cases hx : listed[ed.on]? with
              | none => rw [hx] at h3; exact absurd h3 (by decide)
              | some x => rw [hx] at h3; exact congrArg some h3) (List.all_eq_true.1 h1 j (List.mem_range.2 hj))
            rw [Array.getD_eq_getD_getElem?, h2] at hju
            cases hju
      have hmem : i ∈ Region.ready md ops hl := mem_ready.2 ⟨by
          have := hr.head i hin
          rw [Array.getD_eq_getD_getElem?] at hiu ⊢
          rw [this]; exact hiu, o, ho, fun e he hb => by
          have h1 := hall e he hb
          have h2 : e.on < n := by
            by_cases h3 : e.on < n
            · exact h3
            · exfalso
              by_cases h4 : e.on < ops.size
              · have := (hr.tl e.on (by omega) h4).2
                rw [Array.getD_eq_getD_getElem?, this] at h1
                cases h1
              · rw [Array.getD_eq_getD_getElem?, Array.getElem?_eq_none (by rw [hr.s2]; omega)] at h1
                cases h1
          have := hr.head e.on h2
          rw [Array.getD_eq_getD_getElem?] at h1 ⊢
          rw [this]; exact h1⟩
      refine wpOp_cut (fun a' w' h' => ih (hl.setIfInBounds i true) (listed.setIfInBounds i true) a' w' (hr.set hin) (hcl.set ho (fun ed hed hbd => by
        have h3 := hall ed hed hbd
        rw [Array.getD_eq_getD_getElem?] at h3
        cases hx : listed[ed.on]? with
        | none => rw [hx] at h3; exact absurd h3 (by decide)
        | some x => rw [hx] at h3; exact congrArg some h3)) ?_ h') (h.2 i hmem)
      have his : i < hl.toList.length := by rw [Array.length_toList, hr.s1]; exact him
      have hif : hl.toList[i] = false := by
        have := hr.head i hin
        have h4 : i < listed.size := by rw [hr.s2]; exact him
        rw [Array.getD_eq_getD_getElem?, Array.getElem?_eq_getElem h4] at hiu
        rw [Array.getElem?_eq_getElem h4] at this
        have h5 : i < hl.size := by rw [hr.s1]; exact him
        rw [Array.getElem?_eq_getElem h5] at this
        simp only [Option.some.injEq, Option.getD_some] at this hiu
        rw [Array.getElem_toList, this]
        exact hiu
      rw [Array.toList_setIfInBounds, List.count_set his, hif, hc]
      simp
def Region.cutT (l : List Oper) (n : Nat) : Bool :=
  decide (n ≤ l.toArray.size) && Region.backB .any l.toArray n && Region.reachB .any l.toArray n && Region.seqB .any l.toArray (l.drop n).length n (List.replicate n true ++ List.replicate (l.length - n) false).toArray
theorem wp_region_cutT {P : Program} {id : Nat} {Q : Exit → Act → World → Prop} {a : Act} {w : World} {l : List Oper} (n : Nat) (hm : P.follows .mixedOrders = true) (hB : Region.cutT l n = true)
    (h : wpAny P .any l.toArray (cutPost (fun a w => wpList P l.toArray Q (l.drop n) a w) Q) n (List.replicate n false ++ List.replicate (l.length - n) true).toArray a w.drew) : (Code.region id l.toArray true).wp P Q a w := by
  simp only [Region.cutT, Bool.and_eq_true, decide_eq_true_eq] at hB
  obtain ⟨⟨⟨h1, h2⟩, h3⟩, h4⟩ := hB
  have hnl : n ≤ l.length := by simpa using h1
  refine wp_region_any hm ?_
  have hs : l.toArray.size = n + (l.length - n) := by simp; omega
  have key := wpAny_cutT (P := P) (md := .any) (ops := l.toArray) (Q := Q) (K := fun a w => wpList P l.toArray Q (l.drop n) a w) (n := n) (g := (l.drop n).length) (E := (List.replicate n true ++ List.replicate (l.length - n) false).toArray) h1 h2 h3
    ⟨by simp; omega, fun i hi => rep_left hi, fun t ht hm => rep_right ht (by omega)⟩
    (fun a w hk => wpAny_of_seq (l.drop n) n _ a w (fun j => by simp) h4 hk)
    n (List.replicate n false ++ List.replicate (l.length - n) true).toArray (Array.replicate l.toArray.size false) a w.drew
    ⟨by simp; omega, by simp, fun i hi => by rw [rep_left hi, rep_all (by omega)], fun t ht hm => ⟨rep_right ht (by omega), rep_all hm⟩⟩
    (closed_none _ _ _) (by simp [List.count_append, List.count_replicate]) h
  rw [hs]
  rw [hs] at key
  have e : (l.drop n).length = l.length - n := by simp
  rw [e] at key
  exact key
theorem quiet_head {P : Program} {md : Region.Mode} {ops : Array Oper} {C : World → Prop} {Q : Act → Prop} (hs : Region.noSelect ops = true) : ∀ (l : List Oper) (k : Nat) (listed : Array Bool) (a : Act), (∀ j o, l[j]? = some o → ops[k + j]? = some o) → Region.lexFrom md ops l.length k listed = true → wpQuiet P ops C Q l a → wpAnyQ P md ops C Q l.length listed a := by
  intro l
  induction l with
  | nil =>
    intro k listed a _ hB h
    exact ⟨by simpa [Region.lexFrom] using hB, h⟩
  | cons o l ih =>
    intro k listed a hl hB h
    have h0 : ops[k]? = some o := hl 0 o rfl
    rw [List.length_cons, Region.lexFrom, Bool.and_eq_true, Bool.and_eq_true] at hB
    have hq : qOp P ops C k (wpQuiet P ops C Q l) a := by unfold qOp; rw [h0]; exact h
    obtain ⟨v, hy, hK⟩ := yieldsIn_of_qOp h0 hq
    refine wpAnyQ_first h0 (Region.noSelect_spec hs) l.length listed a (Region.free_spec h0 hB.1.2) (by simpa using hB.1.1) hy ?_
    refine ih (k + 1) _ _ (fun j o' hj => ?_) hB.2 hK
    rw [Nat.add_assoc, Nat.add_comm 1 j]
    exact hl (j + 1) o' (by simpa using hj)
def Region.cutQ (l : List Oper) (n : Nat) : Bool := Region.cutT l n && Region.noSelect l.toArray && Region.lexFrom .any l.toArray (l.take n).length 0 (List.replicate n false ++ List.replicate (l.length - n) true).toArray && decide (n ≤ l.length)
theorem wp_region_cutQ {P : Program} {id : Nat} {Q : Exit → Act → World → Prop} {a : Act} {w : World} {l : List Oper} (n : Nat) (hm : P.follows .mixedOrders = true) (hB : Region.cutQ l n = true)
    (h : wpQuiet P l.toArray (fun w' => ∃ p : BelowBy w, w' = p.to) (fun a' => ∀ w', (∃ p : BelowBy w, w' = p.to) → wpList P l.toArray Q (l.drop n) a' w') (l.take n) a) : (Code.region id l.toArray true).wp P Q a w := by
  simp only [Region.cutQ, Bool.and_eq_true, decide_eq_true_eq] at hB
  obtain ⟨⟨⟨h1, h2⟩, h3⟩, h4⟩ := hB
  refine wp_region_cutT n hm h1 ?_
  refine wpAny_of_quiet (C := fun w' => ∃ p : BelowBy w, w' = p.to) (Q := fun a' => ∀ w', (∃ p : BelowBy w, w' = p.to) → wpList P l.toArray Q (l.drop n) a' w') (fun _ w' hw' h => h w' hw') _ _ _ _ ⟨⟨w.drew, (Below.refl _ _).drew⟩, rfl⟩ ?_
  have := quiet_head (P := P) (md := .any) (C := fun w' => ∃ p : BelowBy w, w' = p.to) (Q := fun a' => ∀ w', (∃ p : BelowBy w, w' = p.to) → wpList P l.toArray Q (l.drop n) a' w') h2 (l.take n) 0 _ a (fun j o hj => by
    rw [Nat.zero_add, List.getElem?_toArray]
    rw [List.getElem?_take] at hj
    split at hj
    · exact hj
    · cases hj) h3 h
  rw [List.length_take, Nat.min_eq_left h4] at this
  exact this
end Go.Proofs.YtffbnggdckjogaaGreat
