/- Texts of one chain, joined: YCut, Base, QLay, QQuiet, YCutQ, HRows, U64, HRowsJ, Math, Small, Read, Write, Calls, Ones, Begun, JMath, Join, Part, RMath, Ref1, Open. -/
import Derived.OrdersHeld
import Derived.StillTail
import Derived.Deep.RegionHeld3
import Derived.Test.YtmohffibkpecpaaRows
import Derived.WalkKit
import Derived.WalkSpells
import Derived.WalkLawsBesides
import Derived.Lib.SliceRun
import Derived.OpenShut
import Derived.Deep.QuietTactic
import Derived.BigQuiet
import Derived.Laws.ShiftsVarLaws
import Derived.Deep.RegionWith
import Derived.Laws.AppendOwnNone
import Derived.Shelf.SlSortCmp.QuietGrown
namespace Go.Proofs.Ytmohffibkpecpaa
open Go

/-- the exits of the first part: at its end it goes on -/
def cutPost (K : Act → World → Prop) (Q : Exit → Act → World → Prop) : Exit → Act → World → Prop
  | .normal, a, w => K a w
  | .exit i, a, w => Q (.exit i) a w
  | .goto l, a, w => Q (.goto l) a w
  | .ret, a, w => Q .ret a w
  | .panic c, a, w => Q (.panic c) a w
  | .outgrown, a, w => Q .outgrown a w

theorem upon_cut {P : Program} {o : Oper} {a : Act} {K K1 K2 : Act → World → Prop} {Q : Exit → Act → World → Prop} {r : Result Next} (hk : ∀ a w, K1 a w → K2 a w) (h : o.upon P a K1 (cutPost K Q) r) : o.upon P a K2 Q r := by
  cases r with
  | ok n w' =>
    cases n <;> simp only [Oper.upon] at h ⊢ <;>
      first
        | exact hk _ _ h
        | exact Calls.mono h (fun e w'' he => by cases e <;> first | exact hk _ _ he | exact he)
        | exact Rows.mono h (fun _ _ he => hk _ _ he)
  | halt x w' => cases x <;> simp only [Oper.upon] at h ⊢ <;> exact h

theorem wpOp_cut {P : Program} {ops : Array Oper} {i : Nat} {a : Act} {w : World} {K K1 K2 : Act → World → Prop} {Q : Exit → Act → World → Prop} (hk : ∀ a w, K1 a w → K2 a w) (h : wpOp P ops (cutPost K Q) i K1 a w) : wpOp P ops Q i K2 a w := by
  unfold wpOp at *
  split
  · exact hk _ _ (by simpa [*] using h)
  · rename_i o ho
    simp only [ho] at h
    split
    · rename_i hw
      simp only [hw, if_true] at h
      exact h.imp (fun h => upon_cut hk h) id
    · rename_i hw
      simp only [hw] at h
      exact hk _ _ h

/-- the same listed ahead of n; behind it the one has all, the other none -/
structure CutRel (n m : Nat) (hl listed : Array Bool) : Prop where
  s1 : hl.size = m
  s2 : listed.size = m
  head : ∀ i, i < n → hl[i]? = listed[i]?
  tl : ∀ t, n ≤ t → t < m → hl[t]? = some true ∧ listed[t]? = some false

theorem CutRel.set {n m : Nat} {hl listed : Array Bool} (h : CutRel n m hl listed) {i : Nat} (hi : i < n) : CutRel n m (hl.setIfInBounds i true) (listed.setIfInBounds i true) := by
  refine ⟨by simp [h.s1], by simp [h.s2], fun j hj => ?_, fun t ht hm => ?_⟩
  · by_cases e : i = j
    · subst e
      have := h.head i hi
      rw [Array.getElem?_setIfInBounds_self, Array.getElem?_setIfInBounds_self, h.s1, h.s2]
    · rw [Array.getElem?_setIfInBounds_ne e, Array.getElem?_setIfInBounds_ne e]
      exact h.head j hj
  · rw [Array.getElem?_setIfInBounds_ne (by omega), Array.getElem?_setIfInBounds_ne (by omega)]
    exact h.tl t ht hm

def Region.backB (md : Region.Mode) (ops : Array Oper) (n : Nat) : Bool :=
  (List.range n).all fun i => match ops[i]? with
    | some o => o.after.all fun e => !Region.binds md e || decide (e.on < i)
    | none => false
def Region.waitB (md : Region.Mode) (ops : Array Oper) (n : Nat) : Bool :=
  (List.range ops.size).all fun t => decide (t < n) || (List.range n).all fun i => Region.waitsFor md ops t i

theorem first_not (p : Nat → Bool) : ∀ n, (∃ j, j < n ∧ p j = false) → ∃ j, j < n ∧ p j = false ∧ ∀ i, i < j → p i = true
  | 0, ⟨j, hj, _⟩ => by omega
  | n + 1, ⟨j, hj, hp⟩ => by
    by_cases h : ∃ i, i < n ∧ p i = false
    · obtain ⟨i, h1, h2, h3⟩ := first_not p n h
      exact ⟨i, by omega, h2, h3⟩
    · have hjn : j = n := by
        by_cases e : j < n
        · exact absurd ⟨j, e, hp⟩ h
        · omega
      subst hjn
      refine ⟨j, hj, hp, fun i hi => ?_⟩
      cases hpi : p i with
      | true => rfl
      | false => exact absurd ⟨i, hi, hpi⟩ h

theorem wpAny_cut {P : Program} {md : Region.Mode} {ops : Array Oper} {Q : Exit → Act → World → Prop} {K : Act → World → Prop} {n g : Nat} {E : Array Bool} (hn : n ≤ ops.size) (hback : Region.backB md ops n = true) (hwait : Region.waitB md ops n = true)
    (hE : E.size = ops.size ∧ (∀ i, i < n → E[i]? = some true) ∧ ∀ t, n ≤ t → t < ops.size → E[t]? = some false) (hK : ∀ a w, K a w → wpAny P md ops Q g E a w) :
    ∀ (f : Nat) (hl listed : Array Bool) (a : Act) (w : World), CutRel n ops.size hl listed → hl.toList.count false = f → wpAny P md ops (cutPost K Q) f hl a w → wpAny P md ops Q (f + g) listed a w := by
  intro f
  induction f with
  | zero =>
    intro hl listed a w hr hc h
    have hall : ∀ i, i < ops.size → hl[i]? = some true := fun i hi => by
      have h0 : false ∉ hl.toList := List.count_eq_zero.1 hc
      have hlt : i < hl.size := by rw [hr.s1]; exact hi
      rw [Array.getElem?_eq_getElem hlt]
      cases hx : hl[i] with
      | true => rfl
      | false => exact absurd (by rw [← hx]; exact Array.getElem_mem_toList hlt) h0
    have e : listed = E := by
      refine Array.ext (by rw [hr.s2, hE.1]) fun i h1 h2 => ?_
      have hi : i < ops.size := by rw [← hr.s2]; exact h1
      have : listed[i]? = E[i]? := by
        by_cases hin : i < n
        · rw [← hr.head i hin, hall i hi, hE.2.1 i hin]
        · rw [(hr.tl i (by omega) hi).2, hE.2.2 i (by omega) hi]
      rw [Array.getElem?_eq_getElem h1, Array.getElem?_eq_getElem h2] at this
      exact Option.some.inj this
    subst e
    rw [Nat.zero_add]
    exact hK a w h.2
  | succ f ih =>
    intro hl listed a w hr hc h
    rw [show f + 1 + g = (f + g) + 1 by omega]
    -- one ahead of n is not listed
    have hun : ∃ j, j < n ∧ listed.getD j true = false := by
      have hm : false ∈ hl.toList := List.count_pos_iff.1 (by omega)
      obtain ⟨j, hj, e⟩ := List.getElem_of_mem hm
      have hjs : j < hl.size := by simpa using hj
      have hjm : j < ops.size := by rw [← hr.s1]; exact hjs
      have e' : hl[j]? = some false := by rw [Array.getElem?_eq_getElem hjs]; simpa using e
      by_cases hjn : j < n
      · refine ⟨j, hjn, ?_⟩
        have := hr.head j hjn
        rw [e'] at this
        rw [Array.getD_eq_getD_getElem?, ← this]
        rfl
      · have := (hr.tl j (by omega) hjm).1
        rw [e'] at this
        cases this
    refine ⟨fun h0 => ?_, fun i hi => ?_⟩
    · exfalso
      obtain ⟨j, hj, hju, hjb⟩ := first_not (fun j => listed.getD j true) n hun
      have hjm : j < ops.size := by omega
      have hb := List.all_eq_true.1 hback j (List.mem_range.2 hj)
      rw [Array.getElem?_eq_getElem hjm] at hb
      have : j ∈ Region.ready md ops listed := mem_ready.2 ⟨hju, ops[j], Array.getElem?_eq_getElem hjm, fun e he hbi => by
        have h1 := Array.all_eq_true'.1 hb e he
        rw [hbi] at h1
        have h2 : e.on < j := by simpa using h1
        have h3 := hjb _ h2
        have h4 : e.on < listed.size := by rw [hr.s2]; omega
        rw [Array.getD_eq_getD_getElem?, Array.getElem?_eq_getElem h4] at h3 ⊢
        exact h3⟩
      rw [h0] at this
      cases this
    · obtain ⟨hiu, o, ho, hall⟩ := mem_ready.1 hi
      have him : i < ops.size := (Array.getElem?_eq_some_iff.1 ho).1
      have hin : i < n := by
        by_cases e : i < n
        · exact e
        · exfalso
          have h1 := List.all_eq_true.1 hwait i (List.mem_range.2 him)
          obtain ⟨j, hj, hju⟩ := hun
          simp only [Bool.or_eq_true, decide_eq_true_eq] at h1
          rcases h1 with h1 | h1
          · exact e h1
          · obtain ⟨oj, hoj, ed, hed, hbd, hon⟩ := Region.waitsFor_spec (List.all_eq_true.1 h1 j (List.mem_range.2 hj))
            have : oj = o := Option.some.inj (hoj.symm.trans ho)
            subst this
            have h2 := hall ed hed hbd
            rw [hon, getD_both hju] at h2
            cases h2
      have hmem : i ∈ Region.ready md ops hl := mem_ready.2 ⟨by
          have := hr.head i hin
          rw [Array.getD_eq_getD_getElem?] at hiu ⊢
          rw [this]; exact hiu, o, ho, fun e he hb => by
          have h1 := hall e he hb
          have h2 : e.on < n := by
            by_cases h3 : e.on < n
            · exact h3
            · exfalso
              by_cases h4 : e.on < ops.size
              · have := (hr.tl e.on (by omega) h4).2
                rw [Array.getD_eq_getD_getElem?, this] at h1
                cases h1
              · rw [Array.getD_eq_getD_getElem?, Array.getElem?_eq_none (by rw [hr.s2]; omega)] at h1
                cases h1
          have := hr.head e.on h2
          rw [Array.getD_eq_getD_getElem?] at h1 ⊢
          rw [this]; exact h1⟩
      refine wpOp_cut (fun a' w' h' => ih (hl.setIfInBounds i true) (listed.setIfInBounds i true) a' w' (hr.set hin) ?_ h') (h.2 i hmem)
      have his : i < hl.toList.length := by rw [Array.length_toList, hr.s1]; exact him
      have hif : hl.toList[i] = false := by
        have := hr.head i hin
        have h4 : i < listed.size := by rw [hr.s2]; exact him
        rw [Array.getD_eq_getD_getElem?, Array.getElem?_eq_getElem h4] at hiu
        rw [Array.getElem?_eq_getElem h4] at this
        have h5 : i < hl.size := by rw [hr.s1]; exact him
        rw [Array.getElem?_eq_getElem h5] at this
        simp only [Option.some.injEq, Option.getD_some] at this hiu
        rw [Array.getElem_toList, this]
        exact hiu
      rw [Array.toList_setIfInBounds, List.count_set his, hif, hc]
      simp

theorem drop_at {l rest : List Oper} {i : Nat} {o : Oper} (h : l.drop i = o :: rest) : l.toArray[i]? = some o := by
  have : (l.drop i)[0]? = some o := by rw [h]; rfl
  rw [List.getElem?_drop, Nat.add_zero] at this
  rw [List.getElem?_toArray, this]

theorem rep_left {x y : Bool} {n m i : Nat} (h : i < n) : (List.replicate n x ++ List.replicate m y).toArray[i]? = some x := by
  rw [List.getElem?_toArray, List.getElem?_append_left (by simpa using h), List.getElem?_replicate, if_pos h]
theorem rep_right {x y : Bool} {n m t : Nat} (h : n ≤ t) (h2 : t < n + m) : (List.replicate n x ++ List.replicate m y).toArray[t]? = some y := by
  rw [List.getElem?_toArray, List.getElem?_append_right (by simpa using h), List.length_replicate, List.getElem?_replicate, if_pos (by omega)]
theorem rep_all {m i : Nat} (h : i < m) : (Array.replicate m false)[i]? = some false := by
  rw [Array.getElem?_replicate, if_pos h]

def Region.cutB (l : List Oper) (n : Nat) : Bool :=
  decide (n ≤ l.toArray.size) && Region.backB .any l.toArray n && Region.waitB .any l.toArray n && Region.seqB .any l.toArray (l.drop n).length n (List.replicate n true ++ List.replicate (l.length - n) false).toArray

/-- a region that draws: all orders of what stands ahead of n, then the end -/
theorem wp_region_cut {P : Program} {id : Nat} {Q : Exit → Act → World → Prop} {a : Act} {w : World} {l : List Oper} (n : Nat) (hm : P.follows .mixedOrders = true) (hB : Region.cutB l n = true)
    (h : wpAny P .any l.toArray (cutPost (fun a w => wpList P l.toArray Q (l.drop n) a w) Q) n (List.replicate n false ++ List.replicate (l.length - n) true).toArray a w.drew) : (Code.region id l.toArray true).wp P Q a w := by
  simp only [Region.cutB, Bool.and_eq_true, decide_eq_true_eq] at hB
  obtain ⟨⟨⟨h1, h2⟩, h3⟩, h4⟩ := hB
  have hnl : n ≤ l.length := by simpa using h1
  refine wp_region_any hm ?_
  have hs : l.toArray.size = n + (l.length - n) := by simp; omega
  have key := wpAny_cut (P := P) (md := .any) (ops := l.toArray) (Q := Q) (K := fun a w => wpList P l.toArray Q (l.drop n) a w) (n := n) (g := (l.drop n).length) (E := (List.replicate n true ++ List.replicate (l.length - n) false).toArray) h1 h2 h3
    ⟨by simp; omega, fun i hi => rep_left hi, fun t ht hm => rep_right ht (by omega)⟩
    (fun a w hk => wpAny_of_seq (l.drop n) n _ a w (fun j => by simp) h4 hk)
    n (List.replicate n false ++ List.replicate (l.length - n) true).toArray (Array.replicate l.toArray.size false) a w.drew
    ⟨by simp; omega, by simp, fun i hi => by rw [rep_left hi, rep_all (by omega)], fun t ht hm => ⟨rep_right ht (by omega), rep_all hm⟩⟩
    (by simp [List.count_append, List.count_replicate]) h
  rw [hs]
  rw [hs] at key
  have e : (l.drop n).length = l.length - n := by simp
  rw [e] at key
  exact key

/-- the same, by what all orders of the first part come to -/
theorem wp_region_cutK {P : Program} {id : Nat} {Q : Exit → Act → World → Prop} {a : Act} {w : World} {l : List Oper} (K : Act → World → Prop) (n : Nat) (hm : P.follows .mixedOrders = true) (hB : Region.cutB l n = true)
    (h : wpAny P .any l.toArray (cutPost K Q) n (List.replicate n false ++ List.replicate (l.length - n) true).toArray a w.drew) (hK : ∀ a w, K a w → wpList P l.toArray Q (l.drop n) a w) : (Code.region id l.toArray true).wp P Q a w := by
  simp only [Region.cutB, Bool.and_eq_true, decide_eq_true_eq] at hB
  obtain ⟨⟨⟨h1, h2⟩, h3⟩, h4⟩ := hB
  have hnl : n ≤ l.length := by simpa using h1
  refine wp_region_any hm ?_
  have hs : l.toArray.size = n + (l.length - n) := by simp; omega
  have key := wpAny_cut (P := P) (md := .any) (ops := l.toArray) (Q := Q) (K := K) (n := n) (g := (l.drop n).length) (E := (List.replicate n true ++ List.replicate (l.length - n) false).toArray) h1 h2 h3
    ⟨by simp; omega, fun i hi => rep_left hi, fun t ht hm => rep_right ht (by omega)⟩
    (fun a w hk => wpAny_of_seq (l.drop n) n _ a w (fun j => by simp) h4 (hK a w hk))
    n (List.replicate n false ++ List.replicate (l.length - n) true).toArray (Array.replicate l.toArray.size false) a w.drew
    ⟨by simp; omega, by simp, fun i hi => by rw [rep_left hi, rep_all (by omega)], fun t ht hm => ⟨rep_right ht (by omega), rep_all hm⟩⟩
    (by simp [List.count_append, List.count_replicate]) h
  rw [hs]
  rw [hs] at key
  have e : (l.drop n).length = l.length - n := by simp
  rw [e] at key
  exact key

end Go.Proofs.Ytmohffibkpecpaa

namespace Go.Proofs.Ytmohffibkpecpaa.Mth
/-- each is a byte -/
def Bytes (zs : List Int) : Prop := ∀ i, 0 ≤ zs.getD i 0 ∧ zs.getD i 0 < 256
end Go.Proofs.Ytmohffibkpecpaa.Mth
namespace Go.Proofs.Ytmohffibkpecpaa
open Go.RowKit

theorem ret_int {k : IntKind} {a b : Int} (h : a = b) : Ending.returned (.int k a) = .returned (.int k b) := by rw [h]

theorem vint {k : IntKind} {a b : Int} (h : a = b) : Value.int k a = .int k b := by rw [h]

theorem wrap_small (n : Int) (h0 : 0 ≤ n) (h : n < 9223372036854775808) : IntKind.i64.wrap n = n := by
  simp [IntKind.wrap, IntKind.bits, IntKind.signed]; omega

def BB (zs : List Int) : List Value := zs.map (Value.int .u8)

/-- a slice of integers, as it lies: its first 'len' cells are the numbers zs -/
def Has (k : IntKind) (w : World) (a : Option Addr) (len : Nat) (zs : List Int) : Prop :=
  zs.length = len ∧ (∀ n ∈ zs, (Lit.int k n).wf = true) ∧ (zs = [] ∨ ∃ b off, a = some ⟨b, off, none⟩ ∧ b < w.heap.size ∧ ∀ i, i < len → w.cell? ⟨b, off + i, none⟩ = some (.int k (zs.getD i 0)))

theorem Has.below {k : IntKind} {w w' : World} {a : Option Addr} {len B : Nat} {zs : List Int} (h : Has k w a len zs) (hb : Below B w w') (hB : w.heap.size ≤ B) : Has k w' a len zs := by
  refine ⟨h.1, h.2.1, ?_⟩
  rcases h.2.2 with h | ⟨b, off, rfl, hlt, hc⟩
  · exact .inl h
  · refine .inr ⟨b, off, rfl, Nat.lt_of_lt_of_le hlt hb.size, fun i hi => ?_⟩
    rw [hb.cell (p := ⟨b, off + i, none⟩) (Nat.lt_of_lt_of_le hlt hB)]
    exact hc i hi

theorem Has.bytes {w : World} {a : Option Addr} {len : Nat} {zs : List Int} (h : Has .u8 w a len zs) : Mth.Bytes zs := by
  intro i
  by_cases hi : i < zs.length
  · have hw := h.2.1 zs[i] (List.getElem_mem hi)
    have := bounds_u8 hw
    simp only [List.getD_eq_getElem?_getD, List.getElem?_eq_getElem hi, Option.getD_some]
    omega
  · simp [List.getD_eq_getElem?_getD, List.getElem?_eq_none (Nat.le_of_not_lt hi)]

theorem wf_u8 (n : Int) (h : 0 ≤ n ∧ n < 256) : (Lit.int .u8 n).wf = true := by
  simp [Lit.wf, IntKind.min, IntKind.max, IntKind.bits, IntKind.signed]
  omega

theorem Try.info5 : (Try.prog.info? 5).map (fun i => (i.zero, i.size, i.bytes)) = some (some (.int .u8 0), 1, 1) := by kernel_rfl

theorem bb_at {b off len : Nat} {zs : List Int} {w : World} {o : Obj} (hz : zs.length = len) (hc : ∀ i, i < len → w.cell? ⟨b, off + i, none⟩ = some (.int .u8 (zs.getD i 0))) :
    ∀ (j : Nat) (u : Value), (BB zs)[j]? = some u → (w.alloc o).cell? ((⟨b, off, none⟩ : Addr).add j) = some u := by
  intro j u hj
  have hj' : j < zs.length := by
    have := (List.getElem?_eq_some_iff.1 hj).1
    simpa [BB] using this
  have h1 := hc j (by omega)
  have h2 : ((w.alloc o).cell? ⟨b, off + j, none⟩) = w.cell? ⟨b, off + j, none⟩ :=
    ((Below.refl w.heap.size w).alloc (Nat.le_refl _) o).cell (p := ⟨b, off + j, none⟩) (World.block_lt_of_cell? w _ h1)
  rw [Addr.add_lit, h2, h1]
  simp only [BB, List.getElem?_map, List.getElem?_eq_getElem hj', Option.map_some, Option.some.injEq] at hj
  simp only [List.getD_eq_getElem?_getD, List.getElem?_eq_getElem hj', Option.getD_some, hj]

theorem bb_one (zs : List Int) : ∀ u ∈ BB zs, u.oneCell' = true := by
  intro u hu
  simp only [BB, List.mem_map] at hu
  obtain ⟨x, _, rfl⟩ := hu
  rfl

theorem Has.some {k : IntKind} {w : World} {a : Option Addr} {len : Nat} {zs : List Int} (h : Has k w a len zs) (h0 : 0 < len) :
    ∃ b off, a = some ⟨b, off, none⟩ ∧ b < w.heap.size ∧ ∀ i, i < len → w.cell? ⟨b, off + i, none⟩ = some (.int k (zs.getD i 0)) := by
  rcases h.2.2 with h1 | h1
  · have := h.1; rw [h1] at this; simp at this; omega
  · exact h1

theorem has_of_owns {w : World} {base g len cap : Nat} {zs : List Int} (h : w.ownsRow base 5 1 (.slice (some ⟨g, 0, none⟩) len cap) len (BB zs)) (hb : Mth.Bytes zs) : Has .u8 w (some ⟨g, 0, none⟩) len zs := by
  have hl : zs.length = len := by simpa [BB] using h.1
  refine ⟨hl, ?_, .inr ⟨g, 0, rfl, (h.lt g rfl).2, fun i hi => ?_⟩⟩
  · intro n hn
    obtain ⟨i, hi, rfl⟩ := List.getElem_of_mem hn
    have := hb i
    simp only [List.getD_eq_getElem?_getD, List.getElem?_eq_getElem hi, Option.getD_some] at this
    exact wf_u8 _ this
  · rw [Nat.zero_add, h.cellAt i (by omega)]
    simp only [BB, List.getElem?_map, List.getD_eq_getElem?_getD]
    rw [List.getElem?_eq_getElem (by omega)]; rfl

theorem bl_alloc {W w : World} (h : Below W.heap.size W w) {o : Obj} : Below W.heap.size W (w.alloc o) := h.alloc h.size o

theorem bl_step {W w w' : World} (h : Below W.heap.size W w) (k : Below w.heap.size w w') : Below W.heap.size W w' := h.trans (k.mono h.size)

theorem Has.alloc {k : IntKind} {w : World} {a : Option Addr} {len : Nat} {zs : List Int} (h : Has k w a len zs) {o : Obj} : Has k (w.alloc o) a len zs := h.below (bl_alloc (Below.refl _ _)) (Nat.le_refl _)

theorem Has.step {k : IntKind} {w w' : World} {a : Option Addr} {len : Nat} {zs : List Int} (h : Has k w a len zs) (b : Below w.heap.size w w') : Has k w' a len zs := h.below b (Nat.le_refl _)

/-- a row that is owned and not empty has a head -/
theorem owns_head {w : World} {base n : Nat} {v : Value} {xs : List Value} (h : w.ownsRow base 5 1 v n xs) (h0 : 0 < n) : ∃ g cap, v = .slice (some ⟨g, 0, none⟩) n cap ∧ n ≤ cap ∧ cap ≤ maxLen := by
  rcases h.2 with ⟨_, e⟩ | ⟨g, cap, cur, e, _, _, h1, h2, _⟩
  · omega
  · exact ⟨g, cap, e, h1, h2⟩

/-- what is owned lies as Has says -/
theorem has_of_owns8 {w : World} {base len : Nat} {v : Value} {zs : List Int} (h : w.ownsRow base 5 1 v len (BB zs)) (hb : Mth.Bytes zs) : ∃ a cap, v = .slice a len cap ∧ Has .u8 w a len zs := by
  rcases h.2 with ⟨rfl, rfl⟩ | ⟨g, cap, cur, rfl, _⟩
  · have hl : zs.length = 0 := by simpa [BB] using h.1
    exact ⟨none, 0, rfl, hl, by rw [List.eq_nil_of_length_eq_zero hl]; simp, .inl (List.eq_nil_of_length_eq_zero hl)⟩
  · exact ⟨_, cap, rfl, has_of_owns h hb⟩

theorem has_cells {w : World} {ad : Addr} {m : Nat} {zs : List Int} (h : Has .u8 w (some ad) m zs) : ∀ (j : Nat) (u : Value), (BB zs)[j]? = some u → w.cell? (ad.add j) = some u := by
  intro j u hj
  have hj' : j < zs.length := by
    have := (List.getElem?_eq_some_iff.1 hj).1
    simpa [BB] using this
  have hl := h.1
  obtain ⟨b, off, e, _, hc⟩ := h.some (by omega)
  simp only [Option.some.injEq] at e
  subst e
  rw [Addr.add_lit, hc j (by omega)]
  simp only [BB, List.getElem?_map, List.getElem?_eq_getElem hj', Option.map_some, Option.some.injEq] at hj
  simp only [List.getD_eq_getElem?_getD, List.getElem?_eq_getElem hj', Option.getD_some, hj]

theorem first_of (P : Nat → Prop) (m : Nat) : (∀ j, j < m → P j) ∨ ∃ i, i < m ∧ ¬ P i ∧ ∀ j, j < i → P j := by
  induction m with
  | zero => exact .inl (fun j hj => absurd hj (Nat.not_lt_zero _))
  | succ m ih =>
    rcases ih with h | ⟨i, hi, h1, h2⟩
    · by_cases hp : P m
      · refine .inl (fun j hj => ?_)
        by_cases e : j = m
        · subst e; exact hp
        · exact h j (by omega)
      · exact .inr ⟨m, Nat.lt_succ_self _, hp, h⟩
    · exact .inr ⟨i, by omega, h1, h2⟩

theorem has_nil (k : IntKind) (w : World) : Has k w none 0 [] := ⟨rfl, by simp, .inl rfl⟩

theorem owns_below {w w' : World} {base : Nat} {e : TypeId} {size : Nat} {v : Value} {n : Nat} {xs : List Value} (h : w.ownsRow base e size v n xs) (hb : Below w.heap.size w w') : w'.ownsRow base e size v n xs := by
  refine ⟨h.1, ?_⟩
  rcases h.2 with h2 | ⟨g, cap, cur, hv, hg, hh, r⟩
  · exact .inl h2
  · exact .inr ⟨g, cap, cur, hv, hg, by rw [hb.block g (Array.getElem?_eq_some_iff.1 hh).1]; exact hh, r⟩

theorem hid {p : Prop} (h : p) : Hid p := h

end Go.Proofs.Ytmohffibkpecpaa

namespace Go.Proofs.Ytmohffibkpecpaa
open Go.RowKit

/-- a slice -/
structure QSl where
  a : Option Addr
  n : Nat
  c : Nat

def QSl.nil0 (s : QSl) : Prop := s.a = none → s.n = 0 ∧ s.c = 0

def CI (w : World) (g o : Nat) (n : Int) : Prop := w.cell? ⟨g, o, none⟩ = some (.int .i64 n) ∧ (Lit.int .i64 n).wf = true
def CU (w : World) (g o : Nat) (n : Int) : Prop := w.cell? ⟨g, o, none⟩ = some (.int .u64 n) ∧ (Lit.int .u64 n).wf = true
def CS (w : World) (g o : Nat) (s : QSl) : Prop := w.cell? ⟨g, o, none⟩ = some (.slice s.a s.n s.c) ∧ s.nil0

theorem cell_keep {w w' : World} {g o : Nat} {v : Value} (h : w.cell? ⟨g, o, none⟩ = some v) (b : Below w.heap.size w w') : w'.cell? ⟨g, o, none⟩ = some v :=
  (b.cell (p := ⟨g, o, none⟩) (World.block_lt_of_cell? w _ h)).trans h

theorem CI.step {w w' : World} {g o : Nat} {n : Int} (h : CI w g o n) (b : Below w.heap.size w w') : CI w' g o n := ⟨cell_keep h.1 b, h.2⟩
theorem CU.step {w w' : World} {g o : Nat} {n : Int} (h : CU w g o n) (b : Below w.heap.size w w') : CU w' g o n := ⟨cell_keep h.1 b, h.2⟩
theorem CS.step {w w' : World} {g o : Nat} {s : QSl} (h : CS w g o s) (b : Below w.heap.size w w') : CS w' g o s := ⟨cell_keep h.1 b, h.2⟩

/-- a list whose elements have k cells each -/
def QRow {α : Type} (k : Nat) (P : α → World → Nat → Nat → Prop) (w : World) (s : QSl) (S : List α) : Prop :=
  S.length = s.n ∧ ∀ (i : Nat) (d : α), S[i]? = some d → ∃ g off, s.a = some ⟨g, off, none⟩ ∧ P d w g (off + i * k)

/-- what stays while nothing old turns -/
def Keeps {α : Type} (P : α → World → Nat → Nat → Prop) : Prop := ∀ {d : α} {w w' : World} {g o : Nat}, P d w g o → Below w.heap.size w w' → P d w' g o

theorem QRow.step {α : Type} {k : Nat} {P : α → World → Nat → Nat → Prop} {w w' : World} {s : QSl} {S : List α} (h : QRow k P w s S) (hP : Keeps P) (b : Below w.heap.size w w') : QRow k P w' s S :=
  ⟨h.1, fun i d hd => by obtain ⟨g, off, e, hp⟩ := h.2 i d hd; exact ⟨g, off, e, hP hp b⟩⟩

structure RefD where
  h : Int
  f : Int
def RefD.lie (d : RefD) (w : World) (g o : Nat) : Prop := CI w g o d.h ∧ CI w g (o + 1) d.f
theorem RefD.keeps : Keeps RefD.lie := fun h b => ⟨h.1.step b, h.2.step b⟩

structure PushD where
  op : Int
  r : RefD
  n : Int
def PushD.lie (d : PushD) (w : World) (g o : Nat) : Prop := CI w g o d.op ∧ CI w g (o + 1) d.r.h ∧ CI w g (o + 2) d.r.f ∧ CU w g (o + 3) d.n
theorem PushD.keeps : Keeps PushD.lie := fun h b => ⟨h.1.step b, h.2.1.step b, h.2.2.1.step b, h.2.2.2.step b⟩

structure CaseD where
  value : Int
  mask : Int
  to : Int
def CaseD.lie (d : CaseD) (w : World) (g o : Nat) : Prop := CU w g o d.value ∧ CU w g (o + 1) d.mask ∧ CI w g (o + 2) d.to
theorem CaseD.keeps : Keeps CaseD.lie := fun h b => ⟨h.1.step b, h.2.1.step b, h.2.2.step b⟩

structure HeadD where
  w : QSl
  ws : List Int
def HeadD.lie (d : HeadD) (w : World) (g o : Nat) : Prop := CS w g o d.w ∧ Has .i64 w d.w.a d.w.n d.ws
@[reducible] def HeadD.z : HeadD := ⟨⟨none, 0, 0⟩, []⟩
theorem HeadD.keeps : Keeps HeadD.lie := fun h b => ⟨h.1.step b, h.2.step b⟩

structure StateD where
  head : Int
  r : RefD
  cases : QSl
  cs : List CaseD
  els : Int
def StateD.lie (d : StateD) (w : World) (g o : Nat) : Prop := CI w g o d.head ∧ CI w g (o + 1) d.r.h ∧ CI w g (o + 2) d.r.f ∧ CS w g (o + 3) d.cases ∧ CI w g (o + 4) d.els ∧ QRow 3 CaseD.lie w d.cases d.cs
theorem StateD.keeps : Keeps StateD.lie := fun h b => ⟨h.1.step b, h.2.1.step b, h.2.2.1.step b, h.2.2.2.1.step b, h.2.2.2.2.1.step b, h.2.2.2.2.2.step CaseD.keeps b⟩

structure OpD where
  kind : Int
  r : RefD
  head : Int
  e : QSl
  es : List PushD
def OpD.lie (d : OpD) (w : World) (g o : Nat) : Prop := CI w g o d.kind ∧ CI w g (o + 1) d.r.h ∧ CI w g (o + 2) d.r.f ∧ CI w g (o + 3) d.head ∧ CS w g (o + 4) d.e ∧ QRow 4 PushD.lie w d.e d.es
theorem OpD.keeps : Keeps OpD.lie := fun h b => ⟨h.1.step b, h.2.1.step b, h.2.2.1.step b, h.2.2.2.1.step b, h.2.2.2.2.1.step b, h.2.2.2.2.2.step PushD.keeps b⟩

structure ActD where
  w : QSl
  ws : List Int
  ops : QSl
  os : List OpD
def ActD.lie (d : ActD) (w : World) (g o : Nat) : Prop := CS w g o d.w ∧ CS w g (o + 1) d.ops ∧ Has .i64 w d.w.a d.w.n d.ws ∧ QRow 5 OpD.lie w d.ops d.os
@[reducible] def ActD.z : ActD := ⟨⟨none, 0, 0⟩, [], ⟨none, 0, 0⟩, []⟩
theorem ActD.keeps : Keeps ActD.lie := fun h b => ⟨h.1.step b, h.2.1.step b, h.2.2.1.step b, h.2.2.2.step OpD.keeps b⟩

structure TabD where
  kind : Int
  keys : QSl
  ks : List RefD
  acts : QSl
  al : List Int
  cap : Int
  dflt : Int
  args : QSl
  zs : List Int
def TabD.lie (d : TabD) (w : World) (g o : Nat) : Prop := CI w g o d.kind ∧ CS w g (o + 1) d.keys ∧ CS w g (o + 2) d.acts ∧ CI w g (o + 3) d.cap ∧ CI w g (o + 4) d.dflt ∧ CS w g (o + 5) d.args ∧
  QRow 2 RefD.lie w d.keys d.ks ∧ Has .i64 w d.acts.a d.acts.n d.al ∧ Has .u64 w d.args.a d.args.n d.zs
theorem TabD.keeps : Keeps TabD.lie := fun h b => ⟨h.1.step b, h.2.1.step b, h.2.2.1.step b, h.2.2.2.1.step b, h.2.2.2.2.1.step b, h.2.2.2.2.2.1.step b, h.2.2.2.2.2.2.1.step RefD.keeps b, h.2.2.2.2.2.2.2.1.step b, h.2.2.2.2.2.2.2.2.step b⟩

structure NodeD where
  kind : Int
  n : Int
  e : QSl
  es : List PushD
  yes : Int
  no : Int
def NodeD.lie (d : NodeD) (w : World) (g o : Nat) : Prop := CI w g o d.kind ∧ CI w g (o + 1) d.n ∧ CS w g (o + 2) d.e ∧ CI w g (o + 3) d.yes ∧ CI w g (o + 4) d.no ∧ QRow 4 PushD.lie w d.e d.es
theorem NodeD.keeps : Keeps NodeD.lie := fun h b => ⟨h.1.step b, h.2.1.step b, h.2.2.1.step b, h.2.2.2.1.step b, h.2.2.2.2.1.step b, h.2.2.2.2.2.step PushD.keeps b⟩

structure PlanD where
  heads : QSl
  hs : List HeadD
  mta : QSl
  ms : List Int
  states : QSl
  ss : List StateD
  acts : QSl
  al : List ActD
  tabs : QSl
  ts : List TabD
  nodes : QSl
  ns : List NodeD
  out : QSl
  os : List Int

structure PlanD.lie (d : PlanD) (w : World) : Prop where
  hs : QRow 1 HeadD.lie w d.heads d.hs
  ms : Has .i64 w d.mta.a d.mta.n d.ms
  ss : QRow 5 StateD.lie w d.states d.ss
  al : QRow 2 ActD.lie w d.acts d.al
  ts : QRow 6 TabD.lie w d.tabs d.ts
  ns : QRow 5 NodeD.lie w d.nodes d.ns
  os : Has .i64 w d.out.a d.out.n d.os
  oc : d.out.n ≤ d.out.c

structure PlanD.nil0 (d : PlanD) : Prop where
  hs : d.heads.nil0
  ms : d.mta.nil0
  ss : d.states.nil0
  al : d.acts.nil0
  ts : d.tabs.nil0
  ns : d.nodes.nil0
  os : d.out.nil0

theorem PlanD.lie.step {d : PlanD} {w w' : World} (h : d.lie w) (b : Below w.heap.size w w') : d.lie w' :=
  ⟨h.hs.step HeadD.keeps b, h.ms.step b, h.ss.step StateD.keeps b, h.al.step ActD.keeps b, h.ts.step TabD.keeps b, h.ns.step NodeD.keeps b, h.os.step b, h.oc⟩

/-- the value of a plan -/
@[reducible] def PlanD.v (d : PlanD) : Value := .agg #[.slice d.heads.a d.heads.n d.heads.c, .slice d.mta.a d.mta.n d.mta.c, .slice d.states.a d.states.n d.states.c, .slice d.acts.a d.acts.n d.acts.c, .slice d.tabs.a d.tabs.n d.tabs.c, .slice d.nodes.a d.nodes.n d.nodes.c, .slice d.out.a d.out.n d.out.c]
end Go.Proofs.Ytmohffibkpecpaa

namespace Go.Proofs.Ytmohffibkpecpaa
open Go.RowKit

/-- a world behind w in which nothing old has turned -/
structure BelowBy (w : World) where
  to : World
  h : Below w.heap.size w to

theorem wp_region_quiet_below {P : Program} {id : Nat} {Q : Exit → Act → World → Prop} {a : Act} {w : World} {l : List Oper} (hm : P.follows .mixedOrders = true) (hB : Region.lexB .any l.toArray = true)
    (h : wpQuiet P l.toArray (fun w' => ∃ p : BelowBy w, w' = p.to) (fun a' => ∀ w', (∃ p : BelowBy w, w' = p.to) → Q .normal a' w') l a) : (Code.region id l.toArray true).wp P Q a w :=
  wp_region_quiet (C := fun w' => ∃ p : BelowBy w, w' = p.to) hm hB ⟨⟨w.drew, (Below.refl _ _).drew⟩, rfl⟩ (by simpa using h)

theorem calls_below {P : Program} {f : FuncId} {args : Array Value} {w : World} {v : Value} (p : BelowBy w) (h : Calls P f args p.to fun e w' => e = .returned v ∧ Below p.to.heap.size p.to w') : Calls P f args p.to fun e w'' => e = .returned v ∧ ∃ p : BelowBy w, w'' = p.to :=
  h.mono fun _ w'' ⟨he, hb⟩ => ⟨he, ⟨w'', bl_step p.h hb⟩, rfl⟩

theorem calls_same {P : Program} {f : FuncId} {args : Array Value} {w : World} {v : Value} (p : BelowBy w) (h : Calls P f args p.to fun e w' => e = .returned v ∧ w' = p.to) : Calls P f args p.to fun e w'' => e = .returned v ∧ ∃ p : BelowBy w, w'' = p.to :=
  h.mono fun _ _ ⟨he, hb⟩ => ⟨he, p, hb⟩

/-- a cell, in every world of the class -/
theorem cell_by {w : World} {g o : Nat} {v : Value} (h : w.cell? ⟨g, o, none⟩ = some v) (p : BelowBy w) : p.to.cell? ⟨g, o, none⟩ = some v := cell_keep h p.h
end Go.Proofs.Ytmohffibkpecpaa

namespace Go.Proofs.Ytmohffibkpecpaa
open Go Go.RowKit

/-- what is listed waits for what is listed alone -/
def Closed (md : Region.Mode) (ops : Array Oper) (listed : Array Bool) : Prop := ∀ (i : Nat) (o : Oper), listed[i]? = some true → ops[i]? = some o → ∀ e ∈ o.after, Region.binds md e = true → listed[e.on]? = some true

theorem closed_none (md : Region.Mode) (ops : Array Oper) (m : Nat) : Closed md ops (Array.replicate m false) := fun i o h => by
  rw [Array.getElem?_replicate] at h
  split at h <;> cases h

theorem Closed.set {md : Region.Mode} {ops : Array Oper} {listed : Array Bool} (h : Closed md ops listed) {i : Nat} {o : Oper} (ho : ops[i]? = some o) (hw : ∀ e ∈ o.after, Region.binds md e = true → listed[e.on]? = some true) : Closed md ops (listed.setIfInBounds i true) := by
  have up : ∀ k, listed[k]? = some true → (listed.setIfInBounds i true)[k]? = some true := fun k hk => by
    by_cases e : i = k
    · subst e
      rw [Array.getElem?_setIfInBounds_self, if_pos (Array.getElem?_eq_some_iff.1 hk).1]
    · rw [Array.getElem?_setIfInBounds_ne e]; exact hk
  intro j oj hj hoj e he hb
  by_cases hij : i = j
  · subst hij
    obtain rfl : oj = o := Option.some.inj (hoj.symm.trans ho)
    exact up _ (hw e he hb)
  · rw [Array.getElem?_setIfInBounds_ne hij] at hj
    exact up _ (h j oj hj hoj e he hb)

/-- does one wait for another, be it through others? -/
def Region.reach (md : Region.Mode) (ops : Array Oper) : Nat → Nat → Nat → Bool
  | 0, _, _ => false
  | f + 1, t, i => Region.waitsFor md ops t i || (List.range ops.size).any fun k => Region.waitsFor md ops t k && Region.reach md ops f k i
def Region.reachB (md : Region.Mode) (ops : Array Oper) (n : Nat) : Bool :=
  (List.range ops.size).all fun t => decide (t < n) || (List.range n).all fun i => Region.reach md ops ops.size t i

theorem reach_listed {md : Region.Mode} {ops : Array Oper} {listed : Array Bool} (hcl : Closed md ops listed) : ∀ (f t i : Nat), (∀ o, ops[t]? = some o → ∀ e ∈ o.after, Region.binds md e = true → listed[e.on]? = some true) → Region.reach md ops f t i = true → listed[i]? = some true := by
  intro f
  induction f with
  | zero => intro t i _ h; exact absurd h (by simp [Region.reach])
  | succ f ih =>
    intro t i ht h
    rw [Region.reach, Bool.or_eq_true] at h
    rcases h with h | h
    · obtain ⟨o, ho, e, he, hb, hon⟩ := Region.waitsFor_spec h
      rw [← hon]
      exact ht o ho e he hb
    · obtain ⟨k, _, hk⟩ := List.any_eq_true.1 h
      rw [Bool.and_eq_true] at hk
      obtain ⟨o, ho, e, he, hb, hon⟩ := Region.waitsFor_spec hk.1
      have hkl := ht o ho e he hb
      rw [hon] at hkl
      exact ih k i (fun ok hok e' he' hb' => hcl k ok hkl hok e' he' hb') hk.2

theorem wpAny_cutT {P : Program} {md : Region.Mode} {ops : Array Oper} {Q : Exit → Act → World → Prop} {K : Act → World → Prop} {n g : Nat} {E : Array Bool} (hn : n ≤ ops.size) (hback : Region.backB md ops n = true) (hwait : Region.reachB md ops n = true)
    (hE : E.size = ops.size ∧ (∀ i, i < n → E[i]? = some true) ∧ ∀ t, n ≤ t → t < ops.size → E[t]? = some false) (hK : ∀ a w, K a w → wpAny P md ops Q g E a w) :
    ∀ (f : Nat) (hl listed : Array Bool) (a : Act) (w : World), CutRel n ops.size hl listed → Closed md ops listed → hl.toList.count false = f → wpAny P md ops (cutPost K Q) f hl a w → wpAny P md ops Q (f + g) listed a w := by
  intro f
  induction f with
  | zero =>
    intro hl listed a w hr hcl hc h
    have hall : ∀ i, i < ops.size → hl[i]? = some true := fun i hi => by
      have h0 : false ∉ hl.toList := List.count_eq_zero.1 hc
      have hlt : i < hl.size := by rw [hr.s1]; exact hi
      rw [Array.getElem?_eq_getElem hlt]
      cases hx : hl[i] with
      | true => rfl
      | false => exact absurd (by rw [← hx]; exact Array.getElem_mem_toList hlt) h0
    have e : listed = E := by
      refine Array.ext (by rw [hr.s2, hE.1]) fun i h1 h2 => ?_
      have hi : i < ops.size := by rw [← hr.s2]; exact h1
      have : listed[i]? = E[i]? := by
        by_cases hin : i < n
        · rw [← hr.head i hin, hall i hi, hE.2.1 i hin]
        · rw [(hr.tl i (by omega) hi).2, hE.2.2 i (by omega) hi]
      rw [Array.getElem?_eq_getElem h1, Array.getElem?_eq_getElem h2] at this
      exact Option.some.inj this
    subst e
    rw [Nat.zero_add]
    exact hK a w h.2
  | succ f ih =>
    intro hl listed a w hr hcl hc h
    rw [show f + 1 + g = (f + g) + 1 by omega]
    -- one ahead of n is not listed
    have hun : ∃ j, j < n ∧ listed.getD j true = false := by
      have hm : false ∈ hl.toList := List.count_pos_iff.1 (by omega)
      obtain ⟨j, hj, e⟩ := List.getElem_of_mem hm
      have hjs : j < hl.size := by simpa using hj
      have hjm : j < ops.size := by rw [← hr.s1]; exact hjs
      have e' : hl[j]? = some false := by rw [Array.getElem?_eq_getElem hjs]; simpa using e
      by_cases hjn : j < n
      · refine ⟨j, hjn, ?_⟩
        have := hr.head j hjn
        rw [e'] at this
        rw [Array.getD_eq_getD_getElem?, ← this]
        rfl
      · have := (hr.tl j (by omega) hjm).1
        rw [e'] at this
        cases this
    refine ⟨fun h0 => ?_, fun i hi => ?_⟩
    · exfalso
      obtain ⟨j, hj, hju, hjb⟩ := first_not (fun j => listed.getD j true) n hun
      have hjm : j < ops.size := by omega
      have hb := List.all_eq_true.1 hback j (List.mem_range.2 hj)
      rw [Array.getElem?_eq_getElem hjm] at hb
      have : j ∈ Region.ready md ops listed := mem_ready.2 ⟨hju, ops[j], Array.getElem?_eq_getElem hjm, fun e he hbi => by
        have h1 := Array.all_eq_true'.1 hb e he
        rw [hbi] at h1
        have h2 : e.on < j := by simpa using h1
        have h3 := hjb _ h2
        have h4 : e.on < listed.size := by rw [hr.s2]; omega
        rw [Array.getD_eq_getD_getElem?, Array.getElem?_eq_getElem h4] at h3 ⊢
        exact h3⟩
      rw [h0] at this
      cases this
    · obtain ⟨hiu, o, ho, hall⟩ := mem_ready.1 hi
      have him : i < ops.size := (Array.getElem?_eq_some_iff.1 ho).1
      have hin : i < n := by
        by_cases e : i < n
        · exact e
        · exfalso
          have h1 := List.all_eq_true.1 hwait i (List.mem_range.2 him)
          obtain ⟨j, hj, hju⟩ := hun
          simp only [Bool.or_eq_true, decide_eq_true_eq] at h1
          rcases h1 with h1 | h1
          · exact e h1
          · have h2 := reach_listed hcl ops.size i j (fun oi hoi ed hed hbd => by
              have : oi = o := Option.some.inj (hoi.symm.trans ho)
              subst this
              have h3 := hall ed hed hbd
              rw [Array.getD_eq_getD_getElem?] at h3
              cases hx : listed[ed.on]? with
              | none => rw [hx] at h3; exact absurd h3 (by decide)
              | some x => rw [hx] at h3; exact congrArg some h3) (List.all_eq_true.1 h1 j (List.mem_range.2 hj))
            rw [Array.getD_eq_getD_getElem?, h2] at hju
            cases hju
      have hmem : i ∈ Region.ready md ops hl := mem_ready.2 ⟨by
          have := hr.head i hin
          rw [Array.getD_eq_getD_getElem?] at hiu ⊢
          rw [this]; exact hiu, o, ho, fun e he hb => by
          have h1 := hall e he hb
          have h2 : e.on < n := by
            by_cases h3 : e.on < n
            · exact h3
            · exfalso
              by_cases h4 : e.on < ops.size
              · have := (hr.tl e.on (by omega) h4).2
                rw [Array.getD_eq_getD_getElem?, this] at h1
                cases h1
              · rw [Array.getD_eq_getD_getElem?, Array.getElem?_eq_none (by rw [hr.s2]; omega)] at h1
                cases h1
          have := hr.head e.on h2
          rw [Array.getD_eq_getD_getElem?] at h1 ⊢
          rw [this]; exact h1⟩
      refine wpOp_cut (fun a' w' h' => ih (hl.setIfInBounds i true) (listed.setIfInBounds i true) a' w' (hr.set hin) (hcl.set ho (fun ed hed hbd => by
        have h3 := hall ed hed hbd
        rw [Array.getD_eq_getD_getElem?] at h3
        cases hx : listed[ed.on]? with
        | none => rw [hx] at h3; exact absurd h3 (by decide)
        | some x => rw [hx] at h3; exact congrArg some h3)) ?_ h') (h.2 i hmem)
      have his : i < hl.toList.length := by rw [Array.length_toList, hr.s1]; exact him
      have hif : hl.toList[i] = false := by
        have := hr.head i hin
        have h4 : i < listed.size := by rw [hr.s2]; exact him
        rw [Array.getD_eq_getD_getElem?, Array.getElem?_eq_getElem h4] at hiu
        rw [Array.getElem?_eq_getElem h4] at this
        have h5 : i < hl.size := by rw [hr.s1]; exact him
        rw [Array.getElem?_eq_getElem h5] at this
        simp only [Option.some.injEq, Option.getD_some] at this hiu
        rw [Array.getElem_toList, this]
        exact hiu
      rw [Array.toList_setIfInBounds, List.count_set his, hif, hc]
      simp

def Region.cutT (l : List Oper) (n : Nat) : Bool :=
  decide (n ≤ l.toArray.size) && Region.backB .any l.toArray n && Region.reachB .any l.toArray n && Region.seqB .any l.toArray (l.drop n).length n (List.replicate n true ++ List.replicate (l.length - n) false).toArray

/-- a region that draws: all orders of what stands ahead of n, then the end -/
theorem wp_region_cutT {P : Program} {id : Nat} {Q : Exit → Act → World → Prop} {a : Act} {w : World} {l : List Oper} (n : Nat) (hm : P.follows .mixedOrders = true) (hB : Region.cutT l n = true)
    (h : wpAny P .any l.toArray (cutPost (fun a w => wpList P l.toArray Q (l.drop n) a w) Q) n (List.replicate n false ++ List.replicate (l.length - n) true).toArray a w.drew) : (Code.region id l.toArray true).wp P Q a w := by
  simp only [Region.cutT, Bool.and_eq_true, decide_eq_true_eq] at hB
  obtain ⟨⟨⟨h1, h2⟩, h3⟩, h4⟩ := hB
  have hnl : n ≤ l.length := by simpa using h1
  refine wp_region_any hm ?_
  have hs : l.toArray.size = n + (l.length - n) := by simp; omega
  have key := wpAny_cutT (P := P) (md := .any) (ops := l.toArray) (Q := Q) (K := fun a w => wpList P l.toArray Q (l.drop n) a w) (n := n) (g := (l.drop n).length) (E := (List.replicate n true ++ List.replicate (l.length - n) false).toArray) h1 h2 h3
    ⟨by simp; omega, fun i hi => rep_left hi, fun t ht hm => rep_right ht (by omega)⟩
    (fun a w hk => wpAny_of_seq (l.drop n) n _ a w (fun j => by simp) h4 hk)
    n (List.replicate n false ++ List.replicate (l.length - n) true).toArray (Array.replicate l.toArray.size false) a w.drew
    ⟨by simp; omega, by simp, fun i hi => by rw [rep_left hi, rep_all (by omega)], fun t ht hm => ⟨rep_right ht (by omega), rep_all hm⟩⟩
    (closed_none _ _ _) (by simp [List.count_append, List.count_replicate]) h
  rw [hs]
  rw [hs] at key
  have e : (l.drop n).length = l.length - n := by simp
  rw [e] at key
  exact key

/-- the first part alone, taken as it stands -/
theorem quiet_head {P : Program} {md : Region.Mode} {ops : Array Oper} {C : World → Prop} {Q : Act → Prop} (hs : Region.noSelect ops = true) : ∀ (l : List Oper) (k : Nat) (listed : Array Bool) (a : Act), (∀ j o, l[j]? = some o → ops[k + j]? = some o) → Region.lexFrom md ops l.length k listed = true → wpQuiet P ops C Q l a → wpAnyQ P md ops C Q l.length listed a := by
  intro l
  induction l with
  | nil =>
    intro k listed a _ hB h
    exact ⟨by simpa [Region.lexFrom] using hB, h⟩
  | cons o l ih =>
    intro k listed a hl hB h
    have h0 : ops[k]? = some o := hl 0 o rfl
    rw [List.length_cons, Region.lexFrom, Bool.and_eq_true, Bool.and_eq_true] at hB
    have hq : qOp P ops C k (wpQuiet P ops C Q l) a := by unfold qOp; rw [h0]; exact h
    obtain ⟨v, hy, hK⟩ := yieldsIn_of_qOp h0 hq
    refine wpAnyQ_first h0 (Region.noSelect_spec hs) l.length listed a (Region.free_spec h0 hB.1.2) (by simpa using hB.1.1) hy ?_
    refine ih (k + 1) _ _ (fun j o' hj => ?_) hB.2 hK
    rw [Nat.add_assoc, Nat.add_comm 1 j]
    exact hl (j + 1) o' (by simpa using hj)

def Region.cutQ (l : List Oper) (n : Nat) : Bool := Region.cutT l n && Region.noSelect l.toArray && Region.lexFrom .any l.toArray (l.take n).length 0 (List.replicate n false ++ List.replicate (l.length - n) true).toArray && decide (n ≤ l.length)

theorem wp_region_cutQ {P : Program} {id : Nat} {Q : Exit → Act → World → Prop} {a : Act} {w : World} {l : List Oper} (n : Nat) (hm : P.follows .mixedOrders = true) (hB : Region.cutQ l n = true)
    (h : wpQuiet P l.toArray (fun w' => ∃ p : BelowBy w, w' = p.to) (fun a' => ∀ w', (∃ p : BelowBy w, w' = p.to) → wpList P l.toArray Q (l.drop n) a' w') (l.take n) a) : (Code.region id l.toArray true).wp P Q a w := by
  simp only [Region.cutQ, Bool.and_eq_true, decide_eq_true_eq] at hB
  obtain ⟨⟨⟨h1, h2⟩, h3⟩, h4⟩ := hB
  refine wp_region_cutT n hm h1 ?_
  refine wpAny_of_quiet (C := fun w' => ∃ p : BelowBy w, w' = p.to) (Q := fun a' => ∀ w', (∃ p : BelowBy w, w' = p.to) → wpList P l.toArray Q (l.drop n) a' w') (fun _ w' hw' h => h w' hw') _ _ _ _ ⟨⟨w.drew, (Below.refl _ _).drew⟩, rfl⟩ ?_
  have := quiet_head (P := P) (md := .any) (C := fun w' => ∃ p : BelowBy w, w' = p.to) (Q := fun a' => ∀ w', (∃ p : BelowBy w, w' = p.to) → wpList P l.toArray Q (l.drop n) a' w') h2 (l.take n) 0 _ a (fun j o hj => by
    rw [Nat.zero_add, List.getElem?_toArray]
    rw [List.getElem?_take] at hj
    split at hj
    · exact hj
    · cases hj) h3 h
  rw [List.length_take, Nat.min_eq_left h4] at this
  exact this
end Go.Proofs.Ytmohffibkpecpaa

namespace Go.Proofs.Ytmohffibkpecpaa
open Go Go.RowKit

/-- what has been done so far -/
structure RowsAt (D : Nat → Nat) (n : Nat) (R : Nat → Value → World → Prop) (F : Nat → Bool) (a : Act) (w : World) (m : Nat) (listed : Array Bool) (a' : Act) (w' : World) (val : Nat → Value) : Prop where
  sz : listed.size = m
  tl : ∀ t, n ≤ t → t < m → listed[t]? = some true
  bel : Below w.heap.size w w'
  df : a'.defers = a.defers
  ts : a'.tmps.size = a.tmps.size
  r : ∀ i, i < n → listed[i]? = some true → R i (val i) w'
  at_ : ∀ i, i < n → listed[i]? = some true → a'.tmps[D i]? = some (val i)
  old : ∀ j, (∀ i, i < n → listed[i]? = some true → D i ≠ j) → a'.tmps[j]? = a.tmps[j]?
  sep : ∀ i k, i < n → k < n → listed[i]? = some true → listed[k]? = some true → F i = true → F k = true → i ≠ k → ∀ g, (val i).ownBlock = some g → (val k).ownBlock ≠ some g

def putsN (D : Nat → Nat) (val : Nat → Value) : Nat → Act → Act
  | 0, a => a
  | n + 1, a => (putsN D val n a).put (some (D n)) (val n)

theorem putsN_size (D : Nat → Nat) (val : Nat → Value) : ∀ (n : Nat) (a : Act), (putsN D val n a).tmps.size = a.tmps.size ∧ (putsN D val n a).defers = a.defers
  | 0, _ => ⟨rfl, rfl⟩
  | n + 1, a => by
    obtain ⟨h1, h2⟩ := putsN_size D val n a
    exact ⟨by simp [putsN, Act.put, h1], by simp [putsN, Act.put, h2]⟩
theorem putsN_old (D : Nat → Nat) (val : Nat → Value) : ∀ (n : Nat) (a : Act) (j : Nat), (∀ i, i < n → D i ≠ j) → (putsN D val n a).tmps[j]? = a.tmps[j]?
  | 0, _, _, _ => rfl
  | n + 1, a, j, h => by
    have := putsN_old D val n a j (fun i hi => h i (by omega))
    simp only [putsN, Act.put]
    rw [Array.getElem?_setIfInBounds_ne (h n (by omega))]
    exact this
theorem putsN_at (D : Nat → Nat) (val : Nat → Value) : ∀ (n : Nat) (a : Act) (i : Nat), i < n → (∀ k, k < n → D i = D k → i = k) → D i < a.tmps.size → (putsN D val n a).tmps[D i]? = some (val i)
  | 0, _, _, h, _, _ => by omega
  | n + 1, a, i, h, hinj, hs => by
    simp only [putsN, Act.put]
    by_cases e : i = n
    · subst e
      rw [Array.getElem?_setIfInBounds_self, if_pos (by rw [(putsN_size D val i a).1]; exact hs)]
    · rw [Array.getElem?_setIfInBounds_ne (fun h2 => e (hinj n (by omega) h2.symm))]
      exact putsN_at D val n a i (by omega) (fun k hk => hinj k (by omega)) hs

theorem rows_done {D : Nat → Nat} {n : Nat} {R : Nat → Value → World → Prop} {F : Nat → Bool} {a : Act} {w : World} {m : Nat} {listed : Array Bool} {a' : Act} {w' : World} {val : Nat → Value} (h : RowsAt D n R F a w m listed a' w' val) (hall : ∀ i, i < n → listed[i]? = some true) (hinj : ∀ i k, i < n → k < n → D i = D k → i = k) (hDs : ∀ i, i < n → D i < a.tmps.size) : a' = putsN D val n a := by
  obtain ⟨t', d'⟩ := a'
  have h1 := putsN_size D val n a
  have ht : t' = (putsN D val n a).tmps := by
    refine Array.ext_getElem? fun j => ?_
    by_cases e : ∃ i, i < n ∧ D i = j
    · obtain ⟨i, hi, rfl⟩ := e
      rw [putsN_at D val n a i hi (fun k hk => hinj i k hi hk) (hDs i hi)]
      exact h.at_ i hi (hall i hi)
    · rw [putsN_old D val n a j (fun i hi he => e ⟨i, hi, he⟩)]
      exact h.old j (fun i hi _ he => e ⟨i, hi, he⟩)
  have hd : d' = (putsN D val n a).defers := by rw [h1.2]; exact h.df
  subst ht hd
  rfl

theorem wpAny_rows {P : Program} {ops : Array Oper} {Q : Exit → Act → World → Prop} {K : Act → World → Prop} {n : Nat} {D : Nat → Nat} {R : Nat → Value → World → Prop} {F : Nat → Bool} {a : Act} {w : World} (hn : n ≤ ops.size) (hback : Region.backB .any ops n = true)
    (hrow : ∀ i o, i < n → ops[i]? = some o → o.guard = none ∧ o.dst = some (D i)) (hinj : ∀ i k, i < n → k < n → D i = D k → i = k) (hDs : ∀ i, i < n → D i < a.tmps.size)
    (hst : ∀ i v w1 w2, R i v w1 → Below w1.heap.size w1 w2 → R i v w2) (hlt : ∀ i v w1 g, R i v w1 → F i = true → v.ownBlock = some g → g < w1.heap.size)
    (hstep : ∀ i o, i < n → ops[i]? = some o → ∀ (a1 : Act) (w1 : World), Below w.heap.size w w1 → (∀ j, (∀ k, k < n → D k ≠ j) → a1.tmps[j]? = a.tmps[j]?) → (∀ e ∈ o.after, Region.binds .any e = true → e.on < n ∧ ∃ v, a1.tmps[D e.on]? = some v ∧ R e.on v w1) → (∀ e1 ∈ o.after, ∀ e2 ∈ o.after, Region.binds .any e1 = true → Region.binds .any e2 = true → F e1.on = true → F e2.on = true → e1.on ≠ e2.on → ∀ v1 v2 g, a1.tmps[D e1.on]? = some v1 → a1.tmps[D e2.on]? = some v2 → v1.ownBlock = some g → v2.ownBlock ≠ some g) →
      ∃ v w2, (execOp a1.eval o).run P w1 = .ok (.value v) w2 ∧ Below w1.heap.size w1 w2 ∧ R i v w2 ∧ (F i = true → ∀ g, v.ownBlock = some g → w1.heap.size ≤ g))
    (hK : ∀ val w2, Below w.heap.size w w2 → (∀ i, i < n → R i (val i) w2) → (∀ i k, i < n → k < n → F i = true → F k = true → i ≠ k → ∀ g, (val i).ownBlock = some g → (val k).ownBlock ≠ some g) → K (putsN D val n a) w2) :
    ∀ (f : Nat) (listed : Array Bool) (a' : Act) (w' : World) (val : Nat → Value), RowsAt D n R F a w ops.size listed a' w' val → listed.toList.count false = f → wpAny P .any ops (cutPost K Q) f listed a' w' := by
  intro f
  have fin : ∀ (listed : Array Bool) (a' : Act) (w' : World) (val : Nat → Value), RowsAt D n R F a w ops.size listed a' w' val → (∀ i, i < n → listed[i]? = some true) → K a' w' := fun listed a' w' val h hall => by
    rw [rows_done h hall hinj hDs]
    exact hK val w' h.bel (fun i hi => h.r i hi (hall i hi)) (fun i k hi hk => h.sep i k hi hk (hall i hi) (hall k hk))
  induction f with
  | zero =>
    intro listed a' w' val h hc
    have hall : ∀ i, i < ops.size → listed[i]? = some true := fun i hi => by
      have h0 : false ∉ listed.toList := List.count_eq_zero.1 hc
      have hlt : i < listed.size := by rw [h.sz]; exact hi
      rw [Array.getElem?_eq_getElem hlt]
      cases hx : listed[i] with
      | true => rfl
      | false => exact absurd (by rw [← hx]; exact Array.getElem_mem_toList hlt) h0
    refine ⟨?_, fin listed a' w' val h fun i hi => hall i (by omega)⟩
    refine List.eq_nil_iff_forall_not_mem.2 fun i hi => ?_
    obtain ⟨hiu, o, ho, _⟩ := mem_ready.1 hi
    have him : i < ops.size := (Array.getElem?_eq_some_iff.1 ho).1
    rw [Array.getD_eq_getD_getElem?, hall i him] at hiu
    cases hiu
  | succ f ih =>
    intro listed a' w' val h hc
    have hun : ∃ j, j < n ∧ listed.getD j true = false := by
      have hm : false ∈ listed.toList := List.count_pos_iff.1 (by omega)
      obtain ⟨j, hj, e⟩ := List.getElem_of_mem hm
      have hjs : j < listed.size := by simpa using hj
      have e' : listed[j]? = some false := by rw [Array.getElem?_eq_getElem hjs]; simpa using e
      by_cases hjn : j < n
      · exact ⟨j, hjn, by rw [Array.getD_eq_getD_getElem?, e']; rfl⟩
      · have := h.tl j (by omega) (by rw [← h.sz]; exact hjs)
        rw [e'] at this
        cases this
    refine ⟨fun h0 => ?_, fun i hi => ?_⟩
    · exfalso
      obtain ⟨j, hj, hju, hjb⟩ := first_not (fun j => listed.getD j true) n hun
      have hjm : j < ops.size := by omega
      have hb := List.all_eq_true.1 hback j (List.mem_range.2 hj)
      rw [Array.getElem?_eq_getElem hjm] at hb
      have : j ∈ Region.ready .any ops listed := mem_ready.2 ⟨hju, ops[j], Array.getElem?_eq_getElem hjm, fun e he hbi => by
        have h1 := Array.all_eq_true'.1 hb e he
        rw [hbi] at h1
        have h2 : e.on < j := by simpa using h1
        have h3 := hjb _ h2
        have h4 : e.on < listed.size := by rw [h.sz]; omega
        rw [Array.getD_eq_getD_getElem?, Array.getElem?_eq_getElem h4] at h3 ⊢
        exact h3⟩
      rw [h0] at this
      cases this
    · obtain ⟨hiu, o, ho, hall⟩ := mem_ready.1 hi
      have him : i < ops.size := (Array.getElem?_eq_some_iff.1 ho).1
      have hils : i < listed.size := by rw [h.sz]; exact him
      have hin : i < n := by
        by_cases e : i < n
        · exact e
        · have := h.tl i (by omega) him
          rw [Array.getD_eq_getD_getElem?, this] at hiu
          cases hiu
      obtain ⟨hg, hd⟩ := hrow i o hin ho
      have hbi := List.all_eq_true.1 hback i (List.mem_range.2 hin)
      rw [ho] at hbi
      obtain ⟨v, w2, hrun, hb2, hr2, hf2⟩ := hstep i o hin ho a' w' h.bel (fun j hj => h.old j fun k hk _ => hj k hk) (fun e he hb => by
        have h1 := hall e he hb
        have h2 := Array.all_eq_true'.1 hbi e he
        rw [hb] at h2
        have h3 : e.on < i := by simpa using h2
        have h4 : listed[e.on]? = some true := by
          have h5 : e.on < listed.size := by omega
          rw [Array.getD_eq_getD_getElem?, Array.getElem?_eq_getElem h5] at h1
          rw [Array.getElem?_eq_getElem h5]
          exact congrArg some h1
        exact ⟨by omega, val e.on, h.at_ _ (by omega) h4, h.r _ (by omega) h4⟩) (fun e1 he1 e2 he2 hb1 hb2 f1 f2 hne v1 v2 g hv1 hv2 hg1 hg2 => by
        have key : ∀ e ∈ o.after, Region.binds .any e = true → e.on < n ∧ listed[e.on]? = some true := fun e he hb => by
          have h1 := hall e he hb
          have h2 := Array.all_eq_true'.1 hbi e he
          rw [hb] at h2
          have h3 : e.on < i := by simpa using h2
          have h5 : e.on < listed.size := by omega
          rw [Array.getD_eq_getD_getElem?, Array.getElem?_eq_getElem h5] at h1
          rw [Array.getElem?_eq_getElem h5]
          exact ⟨by omega, congrArg some h1⟩
        obtain ⟨n1, l1⟩ := key e1 he1 hb1
        obtain ⟨n2, l2⟩ := key e2 he2 hb2
        rw [h.at_ _ n1 l1] at hv1
        rw [h.at_ _ n2 l2] at hv2
        cases hv1
        cases hv2
        exact h.sep _ _ n1 n2 l1 l2 f1 f2 hne g hg1 hg2)
      unfold wpOp
      rw [ho]
      simp only [Region.wanted, hg, if_true]
      refine .inl ?_
      unfold Oper.wp
      rw [hrun, Oper.upon_value, hd]
      have hbef : ∀ k, (listed.setIfInBounds i true)[k]? = some true → k = i ∨ listed[k]? = some true := fun k hk => by
        by_cases e : i = k
        · exact .inl e.symm
        · rw [Array.getElem?_setIfInBounds_ne e] at hk; exact .inr hk
      have hni : listed[i]? ≠ some true := fun e => by
        rw [Array.getD_eq_getD_getElem?, e] at hiu
        cases hiu
      refine ih (listed.setIfInBounds i true) _ w2 (fun k => if k = i then v else val k) ⟨by rw [Array.size_setIfInBounds]; exact h.sz, fun t h1 h2 => ?_, bl_step h.bel hb2, by simp [Act.put, h.df], by simp [Act.put, h.ts], fun k hk hl => ?_, fun k hk hl => ?_, fun j hj => ?_, fun k1 k2 h1 h2 l1 l2 f1 f2 hne g hg1 hg2 => ?_⟩ ?_
      · rw [Array.getElem?_setIfInBounds_ne (by omega)]
        exact h.tl t h1 h2
      · by_cases e : k = i
        · subst e; simp only [if_true]; exact hr2
        · simp only [if_neg e]
          exact hst k _ w' w2 (h.r k hk ((hbef k hl).resolve_left e)) hb2
      · simp only [Act.put]
        by_cases e : k = i
        · subst e
          simp only [if_true]
          rw [Array.getElem?_setIfInBounds_self, if_pos (by rw [h.ts]; exact hDs k hk)]
        · simp only [if_neg e]
          rw [Array.getElem?_setIfInBounds_ne (fun he => e (hinj k i hk hin he.symm))]
          exact h.at_ k hk ((hbef k hl).resolve_left e)
      · simp only [Act.put]
        rw [Array.getElem?_setIfInBounds_ne (hj i hin (by rw [Array.getElem?_setIfInBounds_self, if_pos hils]))]
        refine h.old j fun k hk hl => hj k hk ?_
        by_cases e : i = k
        · subst e; exact absurd hl hni
        · rw [Array.getElem?_setIfInBounds_ne e]; exact hl
      · by_cases e1 : k1 = i
        · subst e1
          have e2 : k2 ≠ k1 := fun e => hne e.symm
          simp only [if_true, if_neg e2] at hg1 hg2
          have h3 := hf2 f1 g hg1
          have h4 := hlt k2 _ w' g (h.r k2 h2 ((hbef k2 l2).resolve_left e2)) f2 hg2
          omega
        · by_cases e2 : k2 = i
          · subst e2
            simp only [if_true, if_neg e1] at hg1 hg2
            have h3 := hf2 f2 g hg2
            have h4 := hlt k1 _ w' g (h.r k1 h1 ((hbef k1 l1).resolve_left e1)) f1 hg1
            omega
          · simp only [if_neg e1, if_neg e2] at hg1 hg2
            exact h.sep k1 k2 h1 h2 ((hbef k1 l1).resolve_left e1) ((hbef k2 l2).resolve_left e2) f1 f2 hne g hg1 hg2
      · have his : i < listed.toList.length := by rw [Array.length_toList]; exact hils
        have hif : listed.toList[i] = false := by
          rw [Array.getD_eq_getD_getElem?, Array.getElem?_eq_getElem hils] at hiu
          rw [Array.getElem_toList]
          exact hiu
        rw [Array.toList_setIfInBounds, List.count_set his, hif, hc]
        simp

/-- the slots that rows fill, each its own -/
def rowDs (l : List Oper) (n : Nat) : List (Option Nat) := (l.take n).map (·.dst)
def Region.rowsB (l : List Oper) (n : Nat) (D : List Nat) : Bool := Region.cutT l n && (l.take n).all (fun o => o.guard.isNone) && decide ((l.take n).map (·.dst) = D.map some) && decide (D.length = n) && decide D.Nodup

/-- a region that draws: rows in any order, each as its relation tells, then the end -/
theorem wp_region_rows {P : Program} {id : Nat} {Q : Exit → Act → World → Prop} {a : Act} {w : World} {l : List Oper} (n : Nat) (D : List Nat) (hm : P.follows .mixedOrders = true) (hB : Region.rowsB l n D = true) (hDs : ∀ d ∈ D, d < a.tmps.size) (R : Nat → Value → World → Prop) (F : Nat → Bool)
    (hst : ∀ i v w1 w2, R i v w1 → Below w1.heap.size w1 w2 → R i v w2) (hlt : ∀ i v w1 g, R i v w1 → F i = true → v.ownBlock = some g → g < w1.heap.size)
    (hstep : ∀ i o, i < n → l[i]? = some o → ∀ (a1 : Act) (w1 : World), Below w.heap.size w w1 → (∀ j, j ∉ D → a1.tmps[j]? = a.tmps[j]?) → (∀ e ∈ o.after, Region.binds .any e = true → ∃ v, a1.tmps[D.getD e.on 0]? = some v ∧ R e.on v w1) → (∀ e1 ∈ o.after, ∀ e2 ∈ o.after, Region.binds .any e1 = true → Region.binds .any e2 = true → F e1.on = true → F e2.on = true → e1.on ≠ e2.on → ∀ v1 v2 g, a1.tmps[D.getD e1.on 0]? = some v1 → a1.tmps[D.getD e2.on 0]? = some v2 → v1.ownBlock = some g → v2.ownBlock ≠ some g) →
      ∃ v w2, (execOp a1.eval o).run P w1 = .ok (.value v) w2 ∧ Below w1.heap.size w1 w2 ∧ R i v w2 ∧ (F i = true → ∀ g, v.ownBlock = some g → w1.heap.size ≤ g))
    (hK : ∀ val w2, Below w.heap.size w w2 → (∀ i, i < n → R i (val i) w2) → (∀ i k, i < n → k < n → F i = true → F k = true → i ≠ k → ∀ g, (val i).ownBlock = some g → (val k).ownBlock ≠ some g) → wpList P l.toArray Q (l.drop n) (putsN (fun i => D.getD i 0) val n a) w2) : (Code.region id l.toArray true).wp P Q a w := by
  simp only [Region.rowsB, Bool.and_eq_true, decide_eq_true_eq] at hB
  obtain ⟨⟨⟨⟨h1, h2⟩, h3⟩, h4⟩, h5⟩ := hB
  have hcut := h1
  simp only [Region.cutT, Bool.and_eq_true, decide_eq_true_eq] at h1
  obtain ⟨⟨⟨hn, hbk⟩, _⟩, _⟩ := h1
  have hnl : n ≤ l.length := by simpa using hn
  refine wp_region_cutT n hm hcut ?_
  have hdi : ∀ i, i < n → D.getD i 0 ∈ D := fun i hi => by
    rw [List.getD_eq_getElem?_getD, List.getElem?_eq_getElem (by omega), Option.getD_some]
    exact List.getElem_mem _
  have hrow : ∀ i o, i < n → l[i]? = some o → o.guard = none ∧ o.dst = some (D.getD i 0) := fun i o hi ho => by
    have ht : (l.take n)[i]? = some o := by rw [List.getElem?_take, if_pos hi]; exact ho
    refine ⟨by simpa using List.all_eq_true.1 h2 o (List.mem_of_getElem? ht), ?_⟩
    have := congrArg (·[i]?) h3
    simp only [List.getElem?_map, ht, Option.map_some] at this
    rw [List.getElem?_eq_getElem (by omega : i < D.length)] at this
    simp only [Option.map_some, Option.some.injEq] at this
    rw [this, List.getD_eq_getElem?_getD, List.getElem?_eq_getElem (by omega), Option.getD_some]
  have hinj : ∀ i k, i < n → k < n → D.getD i 0 = D.getD k 0 → i = k := fun i k hi hk e => by
    rw [List.getD_eq_getElem?_getD, List.getD_eq_getElem?_getD, List.getElem?_eq_getElem (by omega : i < D.length), List.getElem?_eq_getElem (by omega : k < D.length), Option.getD_some, Option.getD_some] at e
    have hp := List.pairwise_iff_getElem.1 h5
    rcases Nat.lt_trichotomy i k with h | h | h
    · exact absurd e (hp i k (by omega) (by omega) h)
    · exact h
    · exact absurd e.symm (hp k i (by omega) (by omega) h)
  have hdb : Below w.heap.size w w.drew := (Below.refl _ _).drew
  refine wpAny_rows (a := a) (w := w) (D := fun i => D.getD i 0) (R := R) (F := F) hn hbk (fun i o hi ho => hrow i o hi (by simpa using ho)) hinj (fun i hi => hDs _ (hdi i hi)) hst hlt (fun i o hi ho a1 w1 hb hold hdep hsp => hstep i o hi (by simpa using ho) a1 w1 hb (fun j hj => hold j fun k hk e => hj (by rw [← e]; exact hdi k hk)) (fun e he hbe => (hdep e he hbe).2) hsp) hK n _ a w.drew (fun _ => undef) ⟨by simp; omega, fun t h1 h2 => rep_right h1 (by simpa using (by simpa using h2 : t < l.length) |> fun h => (by omega : t < n + (l.length - n))), hdb, rfl, rfl, fun i hi hl => ?_, fun i hi hl => ?_, fun j _ => rfl, fun i k hi hk hl => ?_⟩ (by simp [List.count_append, List.count_replicate])
  · rw [rep_left hi] at hl; cases hl
  · rw [rep_left hi] at hl; cases hl
  · rw [rep_left hi] at hl; cases hl
end Go.Proofs.Ytmohffibkpecpaa

namespace Go.Proofs.Ytmohffibkpecpaa
open Go.RowKit

def UU (zs : List Int) : List Value := zs.map (Value.int .u64)

theorem Try.info33 : (Try.prog.info? 33).map (fun i => (i.zero, i.size, i.bytes)) = some (some (.int .u64 0), 1, 8) := by kernel_rfl

theorem wf_u64 (n : Int) (h : 0 ≤ n ∧ n < 18446744073709551616) : (Lit.int .u64 n).wf = true := by
  simp [Lit.wf, IntKind.min, IntKind.max, IntKind.bits, IntKind.signed]
  omega

/-- what is owned lies as Has says -/
theorem has_of_owns64 {w : World} {base len : Nat} {v : Value} {zs : List Int} (h : w.ownsRow base 33 1 v len (UU zs)) (hb : ∀ n ∈ zs, 0 ≤ n ∧ n < 18446744073709551616) : ∃ a cap, v = .slice a len cap ∧ Has .u64 w a len zs := by
  have hl : zs.length = len := by simpa [UU] using h.1
  rcases h.2 with ⟨rfl, rfl⟩ | ⟨g, cap, cur, rfl, _⟩
  · exact ⟨none, 0, rfl, hl, fun n hn => wf_u64 n (hb n hn), .inl (List.eq_nil_of_length_eq_zero hl)⟩
  · refine ⟨some ⟨g, 0, none⟩, cap, rfl, hl, fun n hn => wf_u64 n (hb n hn), .inr ⟨g, 0, rfl, (h.lt g rfl).2, fun i hi => ?_⟩⟩
    rw [Nat.zero_add, h.cellAt i (by omega)]
    simp only [UU, List.getElem?_map, List.getD_eq_getElem?_getD]
    rw [List.getElem?_eq_getElem (by omega)]; rfl

theorem uu_one (zs : List Int) : ∀ u ∈ UU zs, u.oneCell' = true := by
  intro u hu
  simp only [UU, List.mem_map] at hu
  obtain ⟨x, _, rfl⟩ := hu
  rfl

theorem has_cells64 {w : World} {ad : Addr} {m : Nat} {zs : List Int} (h : Has .u64 w (some ad) m zs) : ∀ (j : Nat) (u : Value), (UU zs)[j]? = some u → w.cell? (ad.add j) = some u := by
  intro j u hj
  have hj' : j < zs.length := by
    have := (List.getElem?_eq_some_iff.1 hj).1
    simpa [UU] using this
  have hl := h.1
  obtain ⟨b, off, e, _, hc⟩ := h.some (by omega)
  simp only [Option.some.injEq] at e
  subst e
  rw [Addr.add_lit, hc j (by omega)]
  simp only [UU, List.getElem?_map, List.getElem?_eq_getElem hj', Option.map_some, Option.some.injEq] at hj
  simp only [List.getD_eq_getElem?_getD, List.getElem?_eq_getElem hj', Option.getD_some, hj]

theorem Has.nums {w : World} {a : Option Addr} {len : Nat} {zs : List Int} (h : Has .u64 w a len zs) : ∀ n ∈ zs, 0 ≤ n ∧ n < 18446744073709551616 := fun n hn => by
  have := bounds_u64 (h.2.1 n hn)
  omega

theorem own_at64 {w : World} {base g len cap : Nat} {zs : List Int} (h : w.ownsRow base 33 1 (.slice (some ⟨g, 0, none⟩) len cap) len (UU zs)) (i : Nat) (hi : i < len) : w.cell? ⟨g, i, none⟩ = some (.int .u64 (zs.getD i 0)) := by
  have hl : zs.length = len := by simpa [UU] using h.1
  rw [h.cellAt i (by omega)]
  simp only [UU, List.getElem?_map, List.getD_eq_getElem?_getD]
  rw [List.getElem?_eq_getElem (by omega)]; rfl

theorem push64 {w : World} {base n : Nat} {v : Value} {ys : List Int} {x y : Int} (h : w.ownsRow base 33 1 v (n + 1) (UU ys ++ [.int .u64 x])) (e : x = y) : w.ownsRow base 33 1 v (n + 1) (UU (ys ++ [y])) := by
  subst e
  simpa [UU] using h

/-- numbers put behind nothing: a row of the call's own -/
theorem copy64_law {w : World} {ops : Array Oper} {rest : List Oper} {o : Oper} {a : Act} {Q : Exit → Act → World → Prop} (hgd : o.guard = none) (s x : Operand)
    (ho : o.op = .call { callee := .builtin .append, args := #[s, x], argTypes := #[51, 51] }) (hs : a.eval s = .slice none 0 0) (ad : Option Addr) (m c : Nat) (zs : List Int) (hx : a.eval x = .slice ad m c)
    (hn : ad = none → m = 0 ∧ c = 0) (hz : Has .u64 w ad m zs) (hsmall : m ≤ 10000000)
    (h : ∀ v' w', w'.ownsRow w.heap.size 33 1 v' m (UU zs) → Below w.heap.size w w' → wpList Try.prog ops Q rest (a.put o.dst v') w') : wpList Try.prog ops Q (o :: rest) a w := by
  obtain ⟨i0, hi, hz0, hz1, hz2⟩ := info_parts Try.info33
  cases ad with
  | none =>
    obtain ⟨rfl, rfl⟩ := hn rfl
    have e : zs = [] := List.eq_nil_of_length_eq_zero hz.1
    subst e
    exact wpList_append_own_none hgd s x 51 ho w.heap.size 33 i0 1 Try.underlying51 hi (.slice none 0 0) 0 [] hs (World.ownsRow_nil _ _ _ _) hx (h _ _ (World.ownsRow_nil _ _ _ _) (Below.refl _ _))
  | some ad =>
    refine wpList_append_own w hgd s x 51 ho w.heap.size 33 i0 (.int .u64 0) 1 8 Try.underlying51 hi hz0 hz1 hz2 rfl (by decide) (.slice none 0 0) 0 [] hs (World.ownsRow_nil _ _ _ _) ad m c (UU zs) hx (by have := hz.1; simp [UU]; omega) (has_cells64 hz) (uu_one zs) (by unfold maxLen; omega) (by omega) (Nat.le_refl _) ?_
    intro v' w' h1 h2 _
    rw [Nat.zero_add, List.nil_append] at h1
    exact h v' w' h1 ((Below.refl _ _).grown h2 (Nat.le_refl _) (by intro k hk; simp [Value.ownBlock] at hk))

/-- a row of one's own: what it is -/
theorem own_is {w : World} {base e len : Nat} {v : Value} {xs : List Value} (h : w.ownsRow base e 1 v len xs) : ∃ a cap, v = .slice a len cap ∧ len ≤ cap ∧ (a = none → len = 0 ∧ cap = 0) := by
  rcases h.2 with ⟨rfl, rfl⟩ | ⟨g, cap, cur, rfl, _, _, h1, _⟩
  · exact ⟨none, 0, rfl, Nat.le_refl _, fun _ => ⟨rfl, rfl⟩⟩
  · exact ⟨_, cap, rfl, h1, fun h => by cases h⟩

theorem has_own64 {w : World} {base len : Nat} {a : Option Addr} {cap : Nat} {zs : List Int} (h : w.ownsRow base 33 1 (.slice a len cap) len (UU zs)) (hb : ∀ n ∈ zs, 0 ≤ n ∧ n < 18446744073709551616) : Has .u64 w a len zs := by
  obtain ⟨a', c', e, h'⟩ := has_of_owns64 h hb
  simp only [Value.slice.injEq] at e
  rw [e.1]; exact h'

/-- it lies from the block B on -/
def From (B : Nat) (a : Option Addr) (n : Nat) : Prop := 0 < n → ∃ b off, a = some ⟨b, off, none⟩ ∧ B ≤ b ∧ off = 0

theorem own_from {w : World} {base e n c : Nat} {a : Option Addr} {xs : List Value} (h : w.ownsRow base e 1 (.slice a n c) n xs) : From base a n := by
  intro h0
  rcases h.2 with ⟨_, e⟩ | ⟨g, cap, cur, e, hb, _⟩
  · omega
  · simp only [Value.slice.injEq] at e
    exact ⟨g, 0, e.1, hb, rfl⟩

theorem From.mono {B B' : Nat} {a : Option Addr} {n : Nat} (h : From B a n) (hB : B' ≤ B) : From B' a n := by
  intro h0
  obtain ⟨b, off, e, hb, h1⟩ := h h0
  exact ⟨b, off, e, Nat.le_trans hB hb, h1⟩

/-- numbers stay while another block is turned -/
theorem Has.off {k : IntKind} {w w' : World} {a : Option Addr} {len g B : Nat} {zs : List Int} (h : Has k w a len zs) (f : From B a len) (hg : g < B) (hr : w.grownBy w' (Option.some g)) : Has k w' a len zs := by
  refine ⟨h.1, h.2.1, ?_⟩
  by_cases h0 : 0 < len
  · obtain ⟨b, off, rfl, hlt, hc⟩ := h.some h0
    obtain ⟨b', off', e, hb, _⟩ := f h0
    simp only [Option.some.injEq, Addr.mk.injEq] at e
    obtain ⟨rfl, rfl, _⟩ := e
    exact .inr ⟨b, off, rfl, Nat.lt_of_lt_of_le hlt hr.size, fun i hi => hr.cell (hc i hi) (by simp; omega)⟩
  · left
    exact List.eq_nil_of_length_eq_zero (by have := h.1; omega)
end Go.Proofs.Ytmohffibkpecpaa

namespace Go.Proofs.Ytmohffibkpecpaa
open Go Go.RowKit

def doneB (listed : Array Bool) (i : Nat) : Bool := listed.getD i false
theorem doneB_iff {listed : Array Bool} {i : Nat} : doneB listed i = true ↔ listed[i]? = some true := by
  unfold doneB
  rw [Array.getD_eq_getD_getElem?]
  cases listed[i]? with
  | none => simp
  | some b => simp

/-- what has been done so far -/
structure RowsJ (D : Nat → Option Nat) (n : Nat) (val : Nat → Value) (J : (Nat → Bool) → World → Prop) (a : Act) (m : Nat) (listed : Array Bool) (a' : Act) (w' : World) : Prop where
  sz : listed.size = m
  tl : ∀ t, n ≤ t → t < m → listed[t]? = some true
  j : J (fun i => decide (i < n) && doneB listed i) w'
  df : a'.defers = a.defers
  ts : a'.tmps.size = a.tmps.size
  at_ : ∀ i d, i < n → listed[i]? = some true → D i = some d → a'.tmps[d]? = some (val i)
  old : ∀ j, (∀ i, i < n → listed[i]? = some true → D i ≠ some j) → a'.tmps[j]? = a.tmps[j]?

def putsO (D : Nat → Option Nat) (val : Nat → Value) : Nat → Act → Act
  | 0, a => a
  | n + 1, a => (putsO D val n a).put (D n) (val n)
theorem put_none (a : Act) (v : Value) : a.put none v = a := rfl
theorem putsO_size (D : Nat → Option Nat) (val : Nat → Value) : ∀ (n : Nat) (a : Act), (putsO D val n a).tmps.size = a.tmps.size ∧ (putsO D val n a).defers = a.defers
  | 0, _ => ⟨rfl, rfl⟩
  | n + 1, a => by
    obtain ⟨h1, h2⟩ := putsO_size D val n a
    simp only [putsO]
    cases D n with
    | none => exact ⟨h1, h2⟩
    | some d => exact ⟨by simp [Act.put, h1], by simp [Act.put, h2]⟩
theorem putsO_old (D : Nat → Option Nat) (val : Nat → Value) : ∀ (n : Nat) (a : Act) (j : Nat), (∀ i, i < n → D i ≠ some j) → (putsO D val n a).tmps[j]? = a.tmps[j]?
  | 0, _, _, _ => rfl
  | n + 1, a, j, h => by
    have ih := putsO_old D val n a j (fun i hi => h i (by omega))
    simp only [putsO]
    cases e : D n with
    | none => exact ih
    | some d =>
      simp only [Act.put]
      rw [Array.getElem?_setIfInBounds_ne (fun h2 => h n (by omega) (by rw [e, h2]))]
      exact ih
theorem putsO_at (D : Nat → Option Nat) (val : Nat → Value) : ∀ (n : Nat) (a : Act) (i d : Nat), i < n → D i = some d → (∀ k, k < n → D k = some d → i = k) → d < a.tmps.size → (putsO D val n a).tmps[d]? = some (val i)
  | 0, _, _, _, h, _, _, _ => by omega
  | n + 1, a, i, d, h, hd, hinj, hs => by
    simp only [putsO]
    by_cases e : i = n
    · subst e
      rw [hd]
      simp only [Act.put]
      rw [Array.getElem?_setIfInBounds_self, if_pos (by rw [(putsO_size D val i a).1]; exact hs)]
    · have ih := putsO_at D val n a i d (by omega) hd (fun k hk => hinj k (by omega)) hs
      cases e2 : D n with
      | none => exact ih
      | some d' =>
        simp only [Act.put]
        rw [Array.getElem?_setIfInBounds_ne (fun h2 => e (hinj n (by omega) (by rw [e2, h2])))]
        exact ih

theorem rowsJ_done {D : Nat → Option Nat} {n : Nat} {val : Nat → Value} {J : (Nat → Bool) → World → Prop} {a : Act} {m : Nat} {listed : Array Bool} {a' : Act} {w' : World} (h : RowsJ D n val J a m listed a' w') (hall : ∀ i, i < n → listed[i]? = some true) (hinj : ∀ i k d, i < n → k < n → D i = some d → D k = some d → i = k) (hDs : ∀ i d, i < n → D i = some d → d < a.tmps.size) : a' = putsO D val n a := by
  obtain ⟨t', d'⟩ := a'
  have h1 := putsO_size D val n a
  have ht : t' = (putsO D val n a).tmps := by
    refine Array.ext_getElem? fun j => ?_
    by_cases e : ∃ i, i < n ∧ D i = some j
    · obtain ⟨i, hi, hd⟩ := e
      rw [putsO_at D val n a i j hi hd (fun k hk hk2 => hinj i k j hi hk hd hk2) (hDs i j hi hd)]
      exact h.at_ i j hi (hall i hi) hd
    · rw [putsO_old D val n a j (fun i hi he => e ⟨i, hi, he⟩)]
      exact h.old j (fun i hi _ he => e ⟨i, hi, he⟩)
  have hd : d' = (putsO D val n a).defers := by rw [h1.2]; exact h.df
  subst ht hd
  rfl

/-- what a row yields: a value into its slot, or nothing -/
def RowRun (P : Program) (o : Oper) (a : Act) (w : World) (v : Value) (w' : World) : Prop := (execOp a.eval o).run P w = .ok (.value v) w' ∨ (o.dst = none ∧ (execOp a.eval o).run P w = .ok .skip w')

theorem wpAny_rowsJ {P : Program} {ops : Array Oper} {Q : Exit → Act → World → Prop} {K : Act → World → Prop} {n : Nat} {D : Nat → Option Nat} {val : Nat → Value} {J : (Nat → Bool) → World → Prop} {a : Act} (hn : n ≤ ops.size)
    (hbk : ∀ (listed : Array Bool), (∃ j, j < n ∧ listed.getD j true = false) → listed.size = ops.size → (∀ t, n ≤ t → t < ops.size → listed[t]? = some true) → Region.ready .any ops listed ≠ [])
    (hrow : ∀ i o, i < n → ops[i]? = some o → o.guard = none ∧ o.dst = D i) (hinj : ∀ i k d, i < n → k < n → D i = some d → D k = some d → i = k) (hDs : ∀ i d, i < n → D i = some d → d < a.tmps.size)
    (hstep : ∀ i o, i < n → ops[i]? = some o → ∀ (done : Nat → Bool) (a1 : Act) (w1 : World), J done w1 → done i = false → (∀ j, (∀ k, k < n → D k ≠ some j) → a1.tmps[j]? = a.tmps[j]?) → (∀ e ∈ o.after, Region.binds .any e = true → e.on < n → done e.on = true ∧ ∀ d, D e.on = some d → a1.tmps[d]? = some (val e.on)) →
      ∃ w2, RowRun P o a1 w1 (val i) w2 ∧ J (fun k => if k = i then true else done k) w2)
    (hK : ∀ w2, J (fun i => decide (i < n)) w2 → K (putsO D val n a) w2) :
    ∀ (f : Nat) (listed : Array Bool) (a' : Act) (w' : World), RowsJ D n val J a ops.size listed a' w' → listed.toList.count false = f → wpAny P .any ops (cutPost K Q) f listed a' w' := by
  intro f
  have fin : ∀ (listed : Array Bool) (a' : Act) (w' : World), RowsJ D n val J a ops.size listed a' w' → (∀ i, i < n → listed[i]? = some true) → K a' w' := fun listed a' w' h hall => by
    rw [rowsJ_done h hall hinj hDs]
    refine hK w' ?_
    have e : (fun i => decide (i < n) && doneB listed i) = fun i => decide (i < n) := by
      funext i
      by_cases hi : i < n
      · rw [decide_eq_true hi, doneB_iff.2 (hall i hi), Bool.true_and]
      · rw [decide_eq_false hi, Bool.false_and]
    rw [← e]
    exact h.j
  induction f with
  | zero =>
    intro listed a' w' h hc
    have hall : ∀ i, i < ops.size → listed[i]? = some true := fun i hi => by
      have h0 : false ∉ listed.toList := List.count_eq_zero.1 hc
      have hlt : i < listed.size := by rw [h.sz]; exact hi
      rw [Array.getElem?_eq_getElem hlt]
      cases hx : listed[i] with
      | true => rfl
      | false => exact absurd (by rw [← hx]; exact Array.getElem_mem_toList hlt) h0
    refine ⟨?_, fin listed a' w' h fun i hi => hall i (by omega)⟩
    refine List.eq_nil_iff_forall_not_mem.2 fun i hi => ?_
    obtain ⟨hiu, o, ho, _⟩ := mem_ready.1 hi
    have him : i < ops.size := (Array.getElem?_eq_some_iff.1 ho).1
    rw [Array.getD_eq_getD_getElem?, hall i him] at hiu
    cases hiu
  | succ f ih =>
    intro listed a' w' h hc
    have hun : ∃ j, j < n ∧ listed.getD j true = false := by
      have hm : false ∈ listed.toList := List.count_pos_iff.1 (by omega)
      obtain ⟨j, hj, e⟩ := List.getElem_of_mem hm
      have hjs : j < listed.size := by simpa using hj
      have e' : listed[j]? = some false := by rw [Array.getElem?_eq_getElem hjs]; simpa using e
      by_cases hjn : j < n
      · exact ⟨j, hjn, by rw [Array.getD_eq_getD_getElem?, e']; rfl⟩
      · have := h.tl j (by omega) (by rw [← h.sz]; exact hjs)
        rw [e'] at this
        cases this
    refine ⟨fun h0 => absurd h0 (hbk listed hun h.sz h.tl), fun i hi => ?_⟩
    obtain ⟨hiu, o, ho, hall⟩ := mem_ready.1 hi
    have him : i < ops.size := (Array.getElem?_eq_some_iff.1 ho).1
    have hils : i < listed.size := by rw [h.sz]; exact him
    have hni : listed[i]? ≠ some true := fun e => by
      rw [Array.getD_eq_getD_getElem?, e] at hiu
      cases hiu
    have hin : i < n := by
      by_cases e : i < n
      · exact e
      · exact absurd (h.tl i (by omega) him) hni
    obtain ⟨hg, hd⟩ := hrow i o hin ho
    have hdi : doneB listed i = false := by
      cases e : doneB listed i
      · rfl
      · exact absurd (doneB_iff.1 e) hni
    obtain ⟨w2, hrun, hj2⟩ := hstep i o hin ho _ a' w' h.j (by simp only [hdi, Bool.and_false]) (fun j hj => h.old j fun k hk _ => hj k hk) (fun e he hb hen => by
      have h1 := hall e he hb
      have h4 : listed[e.on]? = some true := by
        have h5 : e.on < listed.size := by rw [h.sz]; omega
        rw [Array.getD_eq_getD_getElem?, Array.getElem?_eq_getElem h5] at h1
        rw [Array.getElem?_eq_getElem h5]
        exact congrArg some h1
      exact ⟨by simp only [decide_eq_true hen, Bool.true_and]; exact doneB_iff.2 h4, fun d hd => h.at_ _ d hen h4 hd⟩)
    have hbef : ∀ k, (listed.setIfInBounds i true)[k]? = some true → k = i ∨ listed[k]? = some true := fun k hk => by
      by_cases e : i = k
      · exact .inl e.symm
      · rw [Array.getElem?_setIfInBounds_ne e] at hk; exact .inr hk
    have hnext : RowsJ D n val J a ops.size (listed.setIfInBounds i true) (a'.put o.dst (val i)) w2 := by
      rw [hd]
      refine ⟨by rw [Array.size_setIfInBounds]; exact h.sz, fun t h1 h2 => ?_, ?_, ?_, ?_, fun k d hk hl hkd => ?_, fun j hj => ?_⟩
      · rw [Array.getElem?_setIfInBounds_ne (by omega)]
        exact h.tl t h1 h2
      · have e : (fun k => decide (k < n) && doneB (listed.setIfInBounds i true) k) = fun k => if k = i then true else (decide (k < n) && doneB listed k) := by
          funext k
          by_cases e : k = i
          · subst e
            rw [if_pos rfl, decide_eq_true hin, Bool.true_and]
            exact doneB_iff.2 (by rw [Array.getElem?_setIfInBounds_self, if_pos hils])
          · rw [if_neg e]
            unfold doneB
            rw [Array.getD_eq_getD_getElem?, Array.getElem?_setIfInBounds_ne (Ne.symm e), ← Array.getD_eq_getD_getElem?]
        rw [e]
        exact hj2
      · cases D i with
        | none => exact h.df
        | some d => simp [Act.put, h.df]
      · cases D i with
        | none => exact h.ts
        | some d => simp [Act.put, h.ts]
      · by_cases e : k = i
        · subst e
          rw [hkd]
          simp only [Act.put]
          rw [Array.getElem?_setIfInBounds_self, if_pos (by rw [h.ts]; exact hDs k d hk hkd)]
        · have h0 := h.at_ k d hk ((hbef k hl).resolve_left e) hkd
          cases e2 : D i with
          | none => exact h0
          | some d' =>
            simp only [Act.put]
            rw [Array.getElem?_setIfInBounds_ne (fun h2 => e (hinj k i d hk hin hkd (by rw [e2, h2])))]
            exact h0
      · have h0 := h.old j fun k hk hl => hj k hk (by
          by_cases e : i = k
          · subst e; exact absurd hl hni
          · rw [Array.getElem?_setIfInBounds_ne e]; exact hl)
        have hne := hj i hin (by rw [Array.getElem?_setIfInBounds_self, if_pos hils])
        cases e2 : D i with
        | none => exact h0
        | some d' =>
          simp only [Act.put]
          rw [Array.getElem?_setIfInBounds_ne (fun h2 => hne (by rw [e2, h2]))]
          exact h0
    have hcnt : (listed.setIfInBounds i true).toList.count false = f := by
      have his : i < listed.toList.length := by rw [Array.length_toList]; exact hils
      have hif : listed.toList[i] = false := by
        rw [Array.getD_eq_getD_getElem?, Array.getElem?_eq_getElem hils] at hiu
        rw [Array.getElem_toList]
        exact hiu
      rw [Array.toList_setIfInBounds, List.count_set his, hif, hc]
      simp
    unfold wpOp
    rw [ho]
    simp only [Region.wanted, hg, if_true]
    refine .inl ?_
    unfold Oper.wp
    rcases hrun with hrun | ⟨hnd, hrun⟩
    · rw [hrun, Oper.upon_value]
      exact ih _ _ w2 hnext hcnt
    · rw [hrun, Oper.upon_skip]
      have e : a'.put o.dst undef = a'.put o.dst (val i) := by rw [hnd]; rfl
      rw [e]
      exact ih _ _ w2 hnext hcnt

def Region.rowsJB (l : List Oper) (D : List (Option Nat)) : Bool := Region.backB .any l.toArray l.length && l.all (fun o => o.guard.isNone) && decide (l.map (·.dst) = D) && decide (D.filterMap id).Nodup

theorem nodup_at : ∀ (D : List (Option Nat)), (D.filterMap id).Nodup → ∀ (i k d : Nat), D[i]? = some (some d) → D[k]? = some (some d) → i = k
  | [], _, i, _, d, h, _ => by simp at h
  | x :: r, hn, i, k, d, hi, hk => by
    have hmem : ∀ j, r[j]? = some (some d) → d ∈ r.filterMap id := fun j hj => List.mem_filterMap.2 ⟨some d, List.mem_of_getElem? hj, rfl⟩
    cases x with
    | none =>
      have hn' : (r.filterMap id).Nodup := by simpa using hn
      cases i with
      | zero => simp at hi
      | succ i =>
        cases k with
        | zero => simp at hk
        | succ k => rw [nodup_at r hn' i k d (by simpa using hi) (by simpa using hk)]
    | some y =>
      have hn2 : y ∉ r.filterMap id ∧ (r.filterMap id).Nodup := by simpa using hn
      cases i with
      | zero =>
        cases k with
        | zero => rfl
        | succ k =>
          simp only [List.getElem?_cons_zero, Option.some.injEq] at hi
          subst hi
          exact absurd (hmem k (by simpa using hk)) hn2.1
      | succ i =>
        cases k with
        | zero =>
          simp only [List.getElem?_cons_zero, Option.some.injEq] at hk
          subst hk
          exact absurd (hmem i (by simpa using hi)) hn2.1
        | succ k => rw [nodup_at r hn2.2 i k d (by simpa using hi) (by simpa using hk)]

theorem back_ready {ops : Array Oper} (hback : Region.backB .any ops ops.size = true) (listed : Array Bool) (hun : ∃ j, j < ops.size ∧ listed.getD j true = false) (hs : listed.size = ops.size) : Region.ready .any ops listed ≠ [] := fun h0 => by
  obtain ⟨j, hj, hju, hjb⟩ := first_not (fun j => listed.getD j true) ops.size hun
  have hb := List.all_eq_true.1 hback j (List.mem_range.2 hj)
  rw [Array.getElem?_eq_getElem hj] at hb
  have : j ∈ Region.ready .any ops listed := mem_ready.2 ⟨hju, ops[j], Array.getElem?_eq_getElem hj, fun e he hbi => by
    have h1 := Array.all_eq_true'.1 hb e he
    rw [hbi] at h1
    have h2 : e.on < j := by simpa using h1
    have h3 := hjb _ h2
    have h4 : e.on < listed.size := by rw [hs]; omega
    rw [Array.getD_eq_getD_getElem?, Array.getElem?_eq_getElem h4] at h3 ⊢
    exact h3⟩
  rw [h0] at this
  cases this

/-- a region that draws: rows in any order, values known ahead, the world told by what is done -/
theorem wp_region_rowsJ {P : Program} {id : Nat} {Q : Exit → Act → World → Prop} {a : Act} {w : World} {l : List Oper} (D : List (Option Nat)) (hm : P.follows .mixedOrders = true) (hB : Region.rowsJB l D = true) (hDs : ∀ d, some d ∈ D → d < a.tmps.size) (val : Nat → Value) (J : (Nat → Bool) → World → Prop) (hJ0 : J (fun _ => false) w.drew)
    (hstep : ∀ i o, i < l.length → l[i]? = some o → ∀ (done : Nat → Bool) (a1 : Act) (w1 : World), J done w1 → done i = false → (∀ j, some j ∉ D → a1.tmps[j]? = a.tmps[j]?) → (∀ e ∈ o.after, Region.binds .any e = true → done e.on = true ∧ ∀ d, D.getD e.on none = some d → a1.tmps[d]? = some (val e.on)) →
      ∃ w2, RowRun P o a1 w1 (val i) w2 ∧ J (fun k => if k = i then true else done k) w2)
    (hK : ∀ w2, J (fun i => decide (i < l.length)) w2 → Q .normal (putsO (fun i => D.getD i none) val l.length a) w2) : (Code.region id l.toArray true).wp P Q a w := by
  simp only [Region.rowsJB, Bool.and_eq_true, decide_eq_true_eq] at hB
  obtain ⟨⟨⟨hbk, h2⟩, h3⟩, h5⟩ := hB
  have hDl : D.length = l.length := by rw [← h3, List.length_map]
  have hrow : ∀ i o, l[i]? = some o → o.guard = none ∧ o.dst = D.getD i none := fun i o ho => by
    refine ⟨by simpa using List.all_eq_true.1 h2 o (List.mem_of_getElem? ho), ?_⟩
    rw [← h3, List.getD_eq_getElem?_getD, List.getElem?_map, ho]
    rfl
  have hget : ∀ i d, D.getD i none = some d → D[i]? = some (some d) := fun i d h => by
    rw [List.getD_eq_getElem?_getD] at h
    cases e : D[i]? with
    | none => rw [e] at h; cases h
    | some x => rw [e] at h; exact congrArg some h
  have hback : Region.backB .any l.toArray l.toArray.size = true := by rw [List.size_toArray]; exact hbk
  refine wp_region_any hm ?_
  have hq : cutPost (fun a w => Q .normal a w) Q = Q := by funext e a w; cases e <;> rfl
  rw [← hq]
  refine wpAny_rowsJ (n := l.toArray.size) (a := a) (D := fun i => D.getD i none) (val := val) (J := J) (Nat.le_refl _) (fun listed hun hs _ => back_ready hback listed hun hs) (fun i o _ ho => hrow i o (by simpa using ho)) (fun i k d _ _ h1 h2 => nodup_at D h5 i k d (hget i d h1) (hget k d h2)) (fun i d _ h => hDs d (List.mem_of_getElem? (hget i d h))) (fun i o hi ho done a1 w1 hj hd hold hdep => hstep i o (by simpa using hi) (by simpa using ho) done a1 w1 hj hd (fun j hj => hold j fun k _ e => hj (List.mem_of_getElem? (hget k j e))) (fun e he hb => ?_)) (fun w2 h => by have := hK w2 (by simpa using h); simpa using this) l.toArray.size _ a _ ⟨by simp, fun t h1 h2 => by omega, ?_, rfl, rfl, fun i d hi hl => ?_, fun j _ => rfl⟩ (by simp)
  · have hio : i < l.toArray.size := hi
    have hbi := List.all_eq_true.1 hback i (List.mem_range.2 hio)
    rw [ho] at hbi
    have h1 := Array.all_eq_true'.1 hbi e he
    rw [hb] at h1
    have h2 : e.on < i := by simpa using h1
    exact hdep e he hb (by omega)
  · have e : (fun i => decide (i < l.toArray.size) && doneB (Array.replicate l.toArray.size false) i) = fun _ => false := by
      funext i
      unfold doneB
      rw [Array.getD_eq_getD_getElem?, Array.getElem?_replicate]
      split <;> simp
    rw [e]
    exact hJ0
  · rw [Array.getElem?_replicate] at hl
    split at hl <;> cases hl
end Go.Proofs.Ytmohffibkpecpaa

namespace Go.Proofs.Ytmohffibkpecpaa.Mth

/-- the bit i of bytes, the highest one of each byte first -/
def bit (zs : List Int) (i : Nat) : Bool := (zs.getD (i / 8) 0).toNat.testBit (7 - i % 8)

/-- the number of the k bits from the bit t on -/
def rd (zs : List Int) (t : Nat) : Nat → Nat
  | 0 => 0
  | k + 1 => 2 * rd zs t k + (bit zs (t + k)).toNat

/-- one byte with one bit set or cleared -/
def one (x : Nat) (p : Nat) (c : Bool) : Nat := if c then x ||| 2 ^ p else x &&& (255 - 2 ^ p)

def put1 (zs : List Int) (i : Nat) (c : Bool) : List Int := zs.set (i / 8) ((one (zs.getD (i / 8) 0).toNat (7 - i % 8) c : Nat) : Int)

/-- behind k rounds: the bits from t on are the highest of the low n of v -/
def wr (zs : List Int) (t n v : Nat) : Nat → List Int
  | 0 => zs
  | k + 1 => put1 (wr zs t n v k) (t + k) (v.testBit (n - 1 - k))

theorem rd_lt (zs : List Int) (t k : Nat) : rd zs t k < 2 ^ k := by
  induction k with
  | zero => simp [rd]
  | succ k ih => simp only [rd, Nat.pow_succ]; have := (bit zs (t + k)).toNat_le; omega

theorem one_lt (x p : Nat) (c : Bool) (hx : x < 256) (hp : p < 8) : one x p c < 256 := by
  unfold one
  split
  · exact Nat.or_lt_two_pow (n := 8) hx (Nat.pow_lt_pow_right (by decide) hp)
  · exact Nat.lt_of_le_of_lt Nat.and_le_left hx

theorem one_bit (x p q : Nat) (c : Bool) (hx : x < 256) (hp : p < 8) : (one x p c).testBit q = if q = p then c else x.testBit q := by
  have hq : (255 - 2 ^ p).testBit q = (decide (q < 8) && !(2 ^ p).testBit q) := by
    have h := Nat.testBit_two_pow_sub_succ (x := 2 ^ p) (n := 8) (Nat.pow_lt_pow_right (by decide) hp) q
    rw [show 2 ^ 8 - (2 ^ p + 1) = 255 - 2 ^ p from by omega] at h
    exact h
  unfold one
  by_cases e : q = p
  · subst e
    cases c
    · simp [Nat.testBit_and, hq, Nat.testBit_two_pow_self]
    · simp [Nat.testBit_or, Nat.testBit_two_pow_self]
  · have h2 : (2 ^ p).testBit q = false := Nat.testBit_two_pow_of_ne (fun h => e h.symm)
    cases c
    · rw [if_neg (by decide), Nat.testBit_and, hq, h2, if_neg e]
      by_cases h8 : q < 8
      · simp [h8]
      · have : x.testBit q = false := Nat.testBit_lt_two_pow (Nat.lt_of_lt_of_le hx (by
          have := Nat.pow_le_pow_right (n := 2) (by decide) (show 8 ≤ q by omega); simpa using this))
        simp [this]
    · simp [Nat.testBit_or, h2, e]

theorem getD_set (zs : List Int) (j i : Nat) (x : Int) : (zs.set j x).getD i 0 = if i = j ∧ j < zs.length then x else zs.getD i 0 := by
  simp only [List.getD_eq_getElem?_getD, List.getElem?_set]
  by_cases h : j = i
  · subst h
    by_cases h2 : j < zs.length
    · simp [h2]
    · simp [h2]
  · have h' : ¬ i = j := fun e => h e.symm
    simp [h, h']

theorem put1_length (zs : List Int) (i : Nat) (c : Bool) : (put1 zs i c).length = zs.length := by simp [put1]

theorem put1_bytes (zs : List Int) (i : Nat) (c : Bool) (h : Bytes zs) : Bytes (put1 zs i c) := by
  intro j
  unfold put1
  rw [getD_set]
  have hb := h (i / 8)
  split
  · have := one_lt (zs.getD (i / 8) 0).toNat (7 - i % 8) c (by omega) (by omega)
    omega
  · exact h j

theorem put1_bit (zs : List Int) (i j : Nat) (c : Bool) (h : Bytes zs) (hi : i < 8 * zs.length) : bit (put1 zs i c) j = if j = i then c else bit zs j := by
  unfold bit put1
  rw [getD_set]
  have hb := h (i / 8)
  by_cases e : j / 8 = i / 8
  · rw [if_pos ⟨e, by omega⟩, Int.toNat_natCast, one_bit _ _ _ _ (by omega) (by omega), e]
    by_cases e2 : j = i
    · subst e2; simp
    · rw [if_neg (by omega), if_neg e2]
  · rw [if_neg (by omega), if_neg (by omega)]

theorem wr_length (zs : List Int) (t n v k : Nat) : (wr zs t n v k).length = zs.length := by
  induction k with
  | zero => rfl
  | succ k ih => rw [wr, put1_length, ih]

theorem wr_bytes (zs : List Int) (t n v k : Nat) (h : Bytes zs) : Bytes (wr zs t n v k) := by
  induction k with
  | zero => exact h
  | succ k ih => exact put1_bytes _ _ _ ih

theorem wr_bit (zs : List Int) (t n v k j : Nat) (h : Bytes zs) (hk : t + k ≤ 8 * zs.length) :
    bit (wr zs t n v k) j = if t ≤ j ∧ j < t + k then v.testBit (n - 1 - (j - t)) else bit zs j := by
  induction k with
  | zero => rw [if_neg (by omega)]; rfl
  | succ k ih =>
    rw [wr, put1_bit _ _ _ _ (wr_bytes _ _ _ _ _ h) (by rw [wr_length]; omega), ih (by omega)]
    by_cases e : j = t + k
    · subst e; rw [if_pos rfl, if_pos (by omega), show t + k - t = k from by omega]
    · rw [if_neg e]
      by_cases e2 : t ≤ j ∧ j < t + k
      · rw [if_pos e2, if_pos (by omega)]
      · rw [if_neg e2, if_neg (by omega)]

/-- bytes with the same bits are the same -/
theorem ext (xs ys : List Int) (hx : Bytes xs) (hy : Bytes ys) (hl : xs.length = ys.length) (h : ∀ j, j < 8 * xs.length → bit xs j = bit ys j) : xs = ys := by
  apply List.ext_getElem hl
  intro i h1 h2
  have a := hx i
  have b := hy i
  have e1 : xs.getD i 0 = xs[i] := by simp [List.getD_eq_getElem?_getD, h1]
  have e2 : ys.getD i 0 = ys[i] := by simp [List.getD_eq_getElem?_getD, h2]
  have key : (xs.getD i 0).toNat = (ys.getD i 0).toNat := by
    apply Nat.eq_of_testBit_eq
    intro q
    by_cases hq : q < 8
    · have := h (8 * i + (7 - q)) (by omega)
      unfold bit at this
      rw [show (8 * i + (7 - q)) / 8 = i from by omega, show 7 - (8 * i + (7 - q)) % 8 = q from by omega] at this
      exact this
    · have big : 256 ≤ 2 ^ q := by have := Nat.pow_le_pow_right (n := 2) (by decide) (show 8 ≤ q by omega); simpa using this
      rw [Nat.testBit_lt_two_pow (by omega), Nat.testBit_lt_two_pow (by omega)]
  rw [← e1, ← e2]
  omega

theorem rd_congr (xs ys : List Int) (t k : Nat) (h : ∀ j, t ≤ j → j < t + k → bit xs j = bit ys j) : rd xs t k = rd ys t k := by
  induction k with
  | zero => rfl
  | succ k ih => rw [rd, rd, ih (fun j a b => h j a (by omega)), h (t + k) (by omega) (by omega)]

theorem rd_of_bits (zs : List Int) (t n v k : Nat) (hk : k ≤ n) (h : ∀ j, j < n → bit zs (t + j) = v.testBit (n - 1 - j)) : rd zs t k = v / 2 ^ (n - k) % 2 ^ k := by
  induction k with
  | zero => simp [rd, Nat.mod_one]
  | succ k ih =>
    rw [rd, ih (by omega), h k (by omega)]
    have e : v / 2 ^ (n - k) = v / 2 ^ (n - (k + 1)) / 2 := by
      rw [Nat.div_div_eq_div_mul, ← Nat.pow_succ, show (n - (k + 1)).succ = n - k from by omega]
    rw [e, show n - 1 - k = n - (k + 1) from by omega, Nat.testBit_eq_decide_div_mod_eq]
    generalize v / 2 ^ (n - (k + 1)) = u
    rw [Nat.pow_succ, Nat.mul_comm (2 ^ k) 2, Nat.mod_mul]
    have : u % 2 = 0 ∨ u % 2 = 1 := by omega
    rcases this with e | e <;> simp [e] <;> omega

/-- what was put is got -/
theorem rd_wr (zs : List Int) (t n v : Nat) (h : Bytes zs) (hk : t + n ≤ 8 * zs.length) : rd (wr zs t n v n) t n = v % 2 ^ n := by
  rw [rd_of_bits (wr zs t n v n) t n v n (Nat.le_refl _) ?_]
  · simp
  · intro j hj
    rw [wr_bit _ _ _ _ _ _ h hk, if_pos (by omega), show t + j - t = j from by omega]

end Go.Proofs.Ytmohffibkpecpaa.Mth

namespace Go.Proofs.Ytmohffibkpecpaa
open Go.RowKit

theorem place_num (n : Int) (h1 : 0 ≤ n) : (128 : Int) / 2 ^ (n % 8).toNat = ((2 ^ (7 - n.toNat % 8) : Nat) : Int) := by
  obtain ⟨m, rfl⟩ := Int.eq_ofNat_of_zero_le h1
  have e : ((m : Int) % 8).toNat = m % 8 := by omega
  rw [e, Int.toNat_natCast]
  have : m % 8 = 0 ∨ m % 8 = 1 ∨ m % 8 = 2 ∨ m % 8 = 3 ∨ m % 8 = 4 ∨ m % 8 = 5 ∨ m % 8 = 6 ∨ m % 8 = 7 := by omega
  rcases this with h | h | h | h | h | h | h | h <;> rw [h] <;> decide

theorem mask_num (n : Int) (h1 : 1 ≤ n) (h2 : n ≤ 64) : (18446744073709551615 : Int) / 2 ^ (64 - n).toNat = ((2 ^ n.toNat - 1 : Nat) : Int) := by
  obtain ⟨m, rfl⟩ := Int.eq_ofNat_of_zero_le (show 0 ≤ n by omega)
  have e : (64 - (m : Int)).toNat = 64 - m := by omega
  rw [e, Int.toNat_natCast]
  have key : 18446744073709551615 / 2 ^ (64 - m) = 2 ^ m - 1 := by
    have ab : 2 ^ m * 2 ^ (64 - m) = 18446744073709551616 := by
      rw [← Nat.pow_add, show m + (64 - m) = 64 from by omega]
    have a1 : 1 ≤ 2 ^ m := Nat.one_le_two_pow
    have b1 : 1 ≤ 2 ^ (64 - m) := Nat.one_le_two_pow
    apply Nat.div_eq_of_lt_le
    · rw [Nat.sub_mul, ab]; omega
    · rw [show 2 ^ m - 1 + 1 = 2 ^ m from by omega, ab]; omega
  rw [← key]
  simp

end Go.Proofs.Ytmohffibkpecpaa

namespace Go.Proofs.Ytmohffibkpecpaa
open Go.RowKit

theorem and_test (x : Int) (p : Nat) (h0 : 0 ≤ x) (h1 : x < 256) (hp : p < 8) : (bits BinOp.and IntKind.u8 x (2 ^ p) != 0) = x.toNat.testBit p := by
  have hq : ((2 : Int) ^ p) < 256 := by
    have := Nat.pow_lt_pow_right (a := 2) (by decide) hp
    have e : ((2 ^ p : Nat) : Int) = (2 : Int) ^ p := by simp
    omega
  have hq0 : (0 : Int) ≤ 2 ^ p := Int.le_of_lt (Int.pow_pos (by decide))
  rw [u8_and x (2 ^ p) h0 h1 hq0 hq, toNat_two_pow, nat_bit, Nat.testBit_eq_decide_div_mod_eq]
  have : 0 < 2 ^ p := Nat.two_pow_pos p
  have h2 : x.toNat / 2 ^ p % 2 = 0 ∨ x.toNat / 2 ^ p % 2 = 1 := by omega
  rcases h2 with h2 | h2
  · simp [h2]
  · have hpos : (0 : Int) < 2 ^ p := Int.pow_pos (by decide)
    rw [h2]; simp; omega

theorem wrap_rd (zs : List Int) (t k : Nat) (hk : k < 64) : IntKind.u64.wrap ((Mth.rd zs t k : Int) * 2) = ((2 * Mth.rd zs t k : Nat) : Int) := by
  rw [IntKind.wrap_u64]
  have h := Mth.rd_lt zs t k
  have h2 : 2 ^ k ≤ 2 ^ 63 := Nat.pow_le_pow_right (by decide) (by omega)
  omega

theorem or_rd (zs : List Int) (t k : Nat) (hk : k < 64) : bits BinOp.or IntKind.u64 (IntKind.u64.wrap ((Mth.rd zs t k : Int) * 2)) 1 = ((2 * Mth.rd zs t k + 1 : Nat) : Int) := by
  rw [wrap_rd zs t k hk]
  have h := Mth.rd_lt zs t k
  have h2 : 2 ^ k ≤ 2 ^ 63 := Nat.pow_le_pow_right (by decide) (by omega)
  rw [show (1 : Int) = ((1 : Nat) : Int) from rfl, u64_or_nat _ _ (by omega) (by omega)]
  have := Nat.two_pow_add_eq_or_of_lt (i := 1) (b := 1) (by decide) (Mth.rd zs t k)
  simp only [Nat.pow_one] at this
  rw [← this]

/-- a round that meets a bit that is 1, or 0 -/
theorem rd_step (zs : List Int) (t k : Nat) (hb : Mth.Bytes zs) (c : Bool) (h : (bits BinOp.and IntKind.u8 (zs[(t + k) / 8]?.getD 0) (2 ^ (7 - (t + k) % 8)) != 0) = c) :
    Mth.rd zs t (k + 1) = 2 * Mth.rd zs t k + c.toNat := by
  have e := hb ((t + k) / 8)
  simp only [List.getD_eq_getElem?_getD] at e
  rw [and_test _ _ e.1 e.2 (by omega)] at h
  rw [Mth.rd, Mth.bit, List.getD_eq_getElem?_getD, h]

end Go.Proofs.Ytmohffibkpecpaa

namespace Go.Proofs.Ytmohffibkpecpaa
open Go.RowKit

theorem two_pow_byte (p : Nat) (hp : p < 8) : (0 : Int) ≤ 2 ^ p ∧ (2 : Int) ^ p < 256 := by
  have h := Nat.pow_lt_pow_right (a := 2) (by decide) hp
  have e : ((2 ^ p : Nat) : Int) = (2 : Int) ^ p := by simp
  have e0 : (0 : Int) < 2 ^ p := Int.pow_pos (by decide)
  omega

theorem or_num (x : Int) (p : Nat) (h : 0 ≤ x ∧ x < 256) (hp : p < 8) : bits BinOp.or IntKind.u8 x (2 ^ p) = ((Mth.one x.toNat p true : Nat) : Int) := by
  have h2 := two_pow_byte p hp
  rw [u8_or x (2 ^ p) h.1 h.2 h2.1 h2.2, toNat_two_pow]
  rfl

theorem andNot_num (x : Int) (p : Nat) (h : 0 ≤ x ∧ x < 256) (hp : p < 8) : bits BinOp.andNot IntKind.u8 x (2 ^ p) = ((Mth.one x.toNat p false : Nat) : Int) := by
  have h2 := two_pow_byte p hp
  rw [u8_andNot x (2 ^ p) h.1 h.2 h2.1 h2.2, toNat_two_pow]
  rfl

theorem v_bit (v m : Nat) (hv : v < 18446744073709551616) (c : Bool) (h : (bits BinOp.and IntKind.u64 ((v : Int) / 2 ^ m) 1 != 0) = c) : v.testBit m = c := by
  have e : ((v : Int) / 2 ^ m) = ((v / 2 ^ m : Nat) : Int) := by simp
  have hd : v / 2 ^ m ≤ v := Nat.div_le_self _ _
  rw [e, and_one_u64 _ (Int.natCast_nonneg _) (by omega)] at h
  rw [Nat.testBit_eq_decide_div_mod_eq]
  rw [← h]
  generalize v / 2 ^ m = u
  have : u % 2 = 0 ∨ u % 2 = 1 := by omega
  rcases this with e | e
  · have e' : (u : Int) % 2 = 0 := by omega
    rw [e, e']; decide
  · have e' : (u : Int) % 2 = 1 := by omega
    rw [e, e']; decide

theorem row_step {base g len cap i : Nat} {ys : List Int} {w wr : World} {x : Int} {c d : Bool}
    (hown : wr.ownsRow base 5 1 (.slice (some ⟨g, 0, none⟩) len cap) len (BB ys)) (hgr : w.grownBy wr (some g))
    (hx : x = ((Mth.one (ys.getD (i / 8) 0).toNat (7 - i % 8) c : Nat) : Int)) (hd : d = c) :
    (wr.setCell ⟨g, i / 8, none⟩ (.int .u8 x)).drew.ownsRow base 5 1 (.slice (some ⟨g, 0, none⟩) len cap) len (BB (Mth.put1 ys i d)) ∧ w.grownBy (wr.setCell ⟨g, i / 8, none⟩ (.int .u8 x)).drew (some g) := by
  subst hd
  have h := hown.stored (i / 8) (.int .u8 x)
  refine ⟨?_, ?_⟩
  · have e : BB (Mth.put1 ys i d) = (BB ys).set (i / 8) (.int .u8 x) := by
      simp only [BB, Mth.put1, List.map_set, hx]
    rw [e]
    exact h.1.drew
  · exact ⟨h.2.os.trans hgr.os, h.2.tape.trans hgr.tape, h.2.output.trans hgr.output, Nat.le_trans hgr.size h.2.size, fun k hk hne => (h.2.block k (Nat.lt_of_lt_of_le hk hgr.size) hne).trans (hgr.block k hk hne)⟩

end Go.Proofs.Ytmohffibkpecpaa

namespace Go.Proofs.Ytmohffibkpecpaa
open Go.RowKit

def codeOf (len : Nat) (t n : Int) : Int := if n < 1 ∨ 64 < n then 6 else if t < 0 ∨ (len : Int) * 8 - n < t then 1 else 0

theorem code_ok {len : Nat} {t n : Int} (h : codeOf len t n = 0) : 1 ≤ n ∧ n ≤ 64 ∧ 0 ≤ t ∧ t + n ≤ 8 * (len : Int) := by
  unfold codeOf at h
  split at h
  · simp at h
  · split at h
    · simp at h
    · omega

end Go.Proofs.Ytmohffibkpecpaa

namespace Go.Proofs.Ytmohffibkpecpaa
open Go.RowKit

/-- what Mask tells -/
def maskN (n : Int) : Int := if 1 ≤ n ∧ n ≤ 64 then ((2 ^ n.toNat - 1 : Nat) : Int) else 0

theorem ones_step (k : Nat) (h : k < 64) : IntKind.u64.wrap (IntKind.u64.wrap (2 * ((2 ^ k - 1 : Nat) : Int)) + 1) = ((2 ^ (k + 1) - 1 : Nat) : Int) := by
  have h1 : 2 ^ k ≤ 2 ^ 63 := Nat.pow_le_pow_right (by decide) (by omega)
  have h2 : 1 ≤ 2 ^ k := Nat.one_le_two_pow
  rw [IntKind.wrap_u64, IntKind.wrap_u64, Nat.pow_succ]
  omega

end Go.Proofs.Ytmohffibkpecpaa

namespace Go.Proofs.Ytmohffibkpecpaa
open Go.RowKit

theorem two_bytes (w : World) : Has .u8 (w.alloc (.cells #[.int .u8 171, .int .u8 205] 5)) (some ⟨w.heap.size, 0, none⟩) 2 [171, 205] := by
  refine ⟨rfl, by intro n hn; simp at hn; rcases hn with rfl | rfl <;> decide, .inr ⟨_, _, rfl, by simp, ?_⟩⟩
  intro i hi
  match i, hi with
  | 0, _ => simp
  | 1, _ => simp

theorem and_mask (v n : Int) (hv : 0 ≤ v ∧ v < 18446744073709551616) (hn : 1 ≤ n ∧ n ≤ 64) : bits BinOp.and IntKind.u64 v (maskN n) = ((v.toNat % 2 ^ n.toNat : Nat) : Int) := by
  unfold maskN
  rw [if_pos hn]
  obtain ⟨v', rfl⟩ := Int.eq_ofNat_of_zero_le hv.1
  have h1 : 2 ^ n.toNat ≤ 2 ^ 64 := Nat.pow_le_pow_right (by decide) (by omega)
  rw [u64_and_nat _ _ (by omega) (by omega), Nat.and_two_pow_sub_one_eq_mod]
  rfl
end Go.Proofs.Ytmohffibkpecpaa

namespace Go.Proofs.Ytmohffibkpecpaa.Mth

/-- where the number i begins -/
def off (ws : List Int) : Nat → Nat
  | 0 => 0
  | i + 1 => off ws i + (ws.getD i 0).toNat

def Wide (ws : List Int) (i : Nat) : Prop := 1 ≤ ws.getD i 0 ∧ ws.getD i 0 ≤ 64

/-- the bytes behind k numbers -/
def jn (ls ws : List Int) (len : Nat) : Nat → List Int
  | 0 => List.replicate len 0
  | i + 1 => wr (jn ls ws len i) (off ws i) (ws.getD i 0).toNat (ls.getD i 0).toNat (ws.getD i 0).toNat

theorem off_le (ws : List Int) (k : Nat) (h : ∀ j, j < k → Wide ws j) : off ws k ≤ 64 * k := by
  induction k with
  | zero => simp [off]
  | succ k ih =>
    have := ih (fun j hj => h j (by omega))
    have h2 := h k (by omega)
    unfold Wide at h2
    simp only [off]
    omega

theorem off_mono (ws : List Int) (i k : Nat) (h : i ≤ k) : off ws i ≤ off ws k := by
  induction k with
  | zero => rw [show i = 0 from by omega]; exact Nat.le_refl _
  | succ k ih =>
    by_cases e : i = k + 1
    · subst e; exact Nat.le_refl _
    · have := ih (by omega); simp only [off]; omega

theorem bytes_zero (len : Nat) : Bytes (List.replicate len 0) := by
  intro i
  by_cases h : i < len
  · simp [List.getD_eq_getElem?_getD, h]
  · simp [List.getD_eq_getElem?_getD, h]

theorem jn_length (ls ws : List Int) (len k : Nat) : (jn ls ws len k).length = len := by
  induction k with
  | zero => simp [jn]
  | succ k ih => rw [jn, wr_length, ih]

theorem jn_bytes (ls ws : List Int) (len k : Nat) : Bytes (jn ls ws len k) := by
  induction k with
  | zero => exact bytes_zero len
  | succ k ih => exact wr_bytes _ _ _ _ _ ih

/-- what was joined is parted -/
theorem rd_jn (ls ws : List Int) (len k i : Nat) (hi : i < k) (hlen : off ws k ≤ 8 * len) :
    rd (jn ls ws len k) (off ws i) (ws.getD i 0).toNat = (ls.getD i 0).toNat % 2 ^ (ws.getD i 0).toNat := by
  induction k with
  | zero => omega
  | succ k ih =>
    have hl2 : off ws k + (ws.getD k 0).toNat ≤ 8 * len := by simpa [off] using hlen
    rw [jn]
    by_cases e : i = k
    · subst e
      exact rd_wr _ _ _ _ (jn_bytes _ _ _ _) (by rw [jn_length]; exact hl2)
    · rw [← ih (by omega) (by omega)]
      apply rd_congr
      intro j h1 h2
      rw [wr_bit _ _ _ _ _ _ (jn_bytes _ _ _ _) (by rw [jn_length]; exact hl2), if_neg]
      have := off_mono ws (i + 1) k (by omega)
      simp only [off] at this
      omega

/-- the numbers of the first k widths from the bit t on -/
def parts (zs : List Int) (t : Int) (ws : List Int) (k : Nat) : List Int :=
  (List.range k).map fun j => (rd zs (t + (off ws j : Int)).toNat (ws.getD j 0).toNat : Int)

theorem parts_succ (zs : List Int) (t : Int) (ws : List Int) (k : Nat) : parts zs t ws (k + 1) = parts zs t ws k ++ [(rd zs (t + (off ws k : Int)).toNat (ws.getD k 0).toNat : Int)] := by
  simp [parts, List.range_succ]

theorem parts_length (zs : List Int) (t : Int) (ws : List Int) (k : Nat) : (parts zs t ws k).length = k := by simp [parts]

theorem parts_at (zs : List Int) (t : Int) (ws : List Int) (k i : Nat) (h : i < k) : (parts zs t ws k).getD i 0 = (rd zs (t + (off ws i : Int)).toNat (ws.getD i 0).toNat : Int) := by
  simp [parts, List.getD_eq_getElem?_getD, List.getElem?_map, List.getElem?_range h]

end Go.Proofs.Ytmohffibkpecpaa.Mth

namespace Go.Proofs.Ytmohffibkpecpaa
open Go.RowKit

abbrev F0 : Obj := .cells #[.int .i64 0, .int .i64 0] 30

theorem Has.num {w : World} {a : Option Addr} {len : Nat} {zs : List Int} (h : Has .u64 w a len zs) (i : Nat) : 0 ≤ zs.getD i 0 ∧ zs.getD i 0 < 18446744073709551616 := by
  by_cases hi : i < zs.length
  · have := bounds_u64 (h.2.1 zs[i] (List.getElem_mem hi))
    simp only [List.getD_eq_getElem?_getD, List.getElem?_eq_getElem hi, Option.getD_some]
    omega
  · simp [List.getD_eq_getElem?_getD, List.getElem?_eq_none (Nat.le_of_not_lt hi)]

theorem fault_cells {w wr : World} (hb : Below (w.heap.size + 1) (w.alloc F0) wr) :
    wr.cell? ⟨w.heap.size, 0, none⟩ = some (.int .i64 0) ∧ wr.cell? ⟨w.heap.size, 1, none⟩ = some (.int .i64 0) ∧ wr.frozen? ⟨w.heap.size, 0, none⟩ = false ∧ wr.frozen? ⟨w.heap.size, 1, none⟩ = false ∧ w.heap.size < wr.heap.size :=
  ⟨(hb.cell (p := ⟨w.heap.size, 0, none⟩) (by simp)).trans (by simp), (hb.cell (p := ⟨w.heap.size, 1, none⟩) (by simp)).trans (by simp),
   (hb.frozen (p := ⟨w.heap.size, 0, none⟩) (by simp)).trans (by simp), (hb.frozen (p := ⟨w.heap.size, 1, none⟩) (by simp)).trans (by simp), by have := hb.size; simp at this; omega⟩

theorem made_zero (n : Nat) : (madeCells (Value.int .u8 0).cells (n * 1)).toList = BB (List.replicate n 0) := by
  rw [Nat.mul_one]
  have := toList_madeCells_one (.int .u8 0) n
  simp only [BB, List.map_replicate]
  exact this

end Go.Proofs.Ytmohffibkpecpaa

namespace Go.Proofs.Ytmohffibkpecpaa
open Go.RowKit

theorem one_cell64 (w : World) (y : Value) : ∀ (j : Nat) (u : Value), [y][j]? = some u → ((w.alloc F0).alloc (.cells #[y] 33)).cell? ((⟨w.heap.size + 1, 0, none⟩ : Addr).add j) = some u := by
  intro j u hj
  match j, hj with
  | 0, hj => simp at hj; subst hj; simp [Addr.add]

theorem rd_num (zs : List Int) (t n : Nat) (h : n ≤ 64) : 0 ≤ (Mth.rd zs t n : Int) ∧ (Mth.rd zs t n : Int) < 18446744073709551616 := by
  have h1 := Mth.rd_lt zs t n
  have h2 : 2 ^ n ≤ 2 ^ 64 := Nat.pow_le_pow_right (by decide) h
  omega

theorem parts_num {len : Nat} (zs : List Int) (t : Int) (ws : List Int) (k : Nat) (h : ∀ j, j < k → codeOf len (t + (Mth.off ws j : Int)) (ws.getD j 0) = 0) : ∀ n ∈ Mth.parts zs t ws k, 0 ≤ n ∧ n < 18446744073709551616 := by
  intro n hn
  simp only [Mth.parts, List.mem_map, List.mem_range] at hn
  obtain ⟨j, hj, rfl⟩ := hn
  have := code_ok (h j hj)
  exact rd_num _ _ _ (by omega)

end Go.Proofs.Ytmohffibkpecpaa

namespace Go.Proofs.Ytmohffibkpecpaa.Mth

/-- the first k bits of bytes, a number each -/
def bo (zs : List Int) (k : Nat) : List Int := (List.range k).map fun i => ((bit zs i).toNat : Int)

/-- the first k of the low n bits of a number, the highest first -/
def nb (v n k : Nat) : List Int := (List.range k).map fun j => ((v.testBit (n - 1 - j)).toNat : Int)

/-- the number of the first k bits of a list -/
def num (l : List Int) : Nat → Nat
  | 0 => 0
  | k + 1 => 2 * num l k + (l.getD k 0).toNat

/-- the byte that begins at the bit i, behind k of its bits -/
def px (l : List Int) (i : Nat) : Nat → Nat
  | 0 => 0
  | k + 1 => 2 * px l i k + (l.getD (i + k) 0).toNat

/-- the first q bytes of a list of bits -/
def by8 (l : List Int) (q : Nat) : List Int := (List.range q).map fun i => (px l (8 * i) 8 : Int)

def IsBits (l : List Int) : Prop := ∀ i, l.getD i 0 = 0 ∨ l.getD i 0 = 1

theorem bo_succ (zs : List Int) (k : Nat) : bo zs (k + 1) = bo zs k ++ [((bit zs k).toNat : Int)] := by simp [bo, List.range_succ]
theorem bo_length (zs : List Int) (k : Nat) : (bo zs k).length = k := by simp [bo]
theorem bo_at (zs : List Int) (k i : Nat) (h : i < k) : (bo zs k).getD i 0 = ((bit zs i).toNat : Int) := by
  simp [bo, List.getD_eq_getElem?_getD, List.getElem?_range h]
theorem nb_succ (v n k : Nat) : nb v n (k + 1) = nb v n k ++ [((v.testBit (n - 1 - k)).toNat : Int)] := by simp [nb, List.range_succ]
theorem nb_length (v n k : Nat) : (nb v n k).length = k := by simp [nb]
theorem nb_at (v n k i : Nat) (h : i < k) : (nb v n k).getD i 0 = ((v.testBit (n - 1 - i)).toNat : Int) := by
  simp [nb, List.getD_eq_getElem?_getD, List.getElem?_range h]
theorem by8_succ (l : List Int) (q : Nat) : by8 l (q + 1) = by8 l q ++ [(px l (8 * q) 8 : Int)] := by simp [by8, List.range_succ]
theorem by8_length (l : List Int) (q : Nat) : (by8 l q).length = q := by simp [by8]
theorem by8_at (l : List Int) (q i : Nat) (h : i < q) : (by8 l q).getD i 0 = (px l (8 * i) 8 : Int) := by
  simp [by8, List.getD_eq_getElem?_getD, List.getElem?_range h]

theorem getD_ge (l : List Int) (i : Nat) (h : l.length ≤ i) : l.getD i 0 = 0 := by
  simp [List.getD_eq_getElem?_getD, List.getElem?_eq_none h]

theorem bo_bits (zs : List Int) (k : Nat) : IsBits (bo zs k) := by
  intro i
  by_cases h : i < k
  · rw [bo_at _ _ _ h]; cases bit zs i <;> simp
  · left; exact getD_ge _ _ (by rw [bo_length]; omega)

theorem nb_bits (v n k : Nat) : IsBits (nb v n k) := by
  intro i
  by_cases h : i < k
  · rw [nb_at _ _ _ _ h]; cases v.testBit (n - 1 - i) <;> simp
  · left; exact getD_ge _ _ (by rw [nb_length]; omega)

theorem px_lt (l : List Int) (i k : Nat) (h : IsBits l) : px l i k < 2 ^ k := by
  induction k with
  | zero => simp [px]
  | succ k ih =>
    have := h (i + k)
    simp only [px, Nat.pow_succ]
    rcases this with e | e <;> rw [e] <;> simp <;> omega

theorem num_lt (l : List Int) (k : Nat) (h : IsBits l) : num l k < 2 ^ k := by
  induction k with
  | zero => simp [num]
  | succ k ih =>
    have := h k
    simp only [num, Nat.pow_succ]
    rcases this with e | e <;> rw [e] <;> simp <;> omega

theorem num_rd (zs l : List Int) (t k : Nat) (h : ∀ j, j < k → l.getD j 0 = ((bit zs (t + j)).toNat : Int)) : num l k = rd zs t k := by
  induction k with
  | zero => rfl
  | succ k ih => rw [num, rd, ih (fun j hj => h j (by omega)), h k (by omega)]; simp

/-- the bit r of the byte that begins at i -/
theorem px_bit (l : List Int) (i k r : Nat) (h : IsBits l) (hr : r < k) : (px l i k).testBit (k - 1 - r) = decide (l.getD (i + r) 0 = 1) := by
  induction k with
  | zero => omega
  | succ k ih =>
    have hb := h (i + k)
    have hp := px_lt l i k h
    rw [px]
    by_cases e : r = k
    · subst e
      rw [show r + 1 - 1 - r = 0 from by omega, Nat.testBit_zero]
      rcases hb with e | e <;> rw [e] <;> simp
    · rw [show k + 1 - 1 - r = (k - 1 - r) + 1 from by omega, Nat.testBit_succ, ← ih (by omega)]
      congr 1
      rcases hb with e | e <;> rw [e] <;> simp <;> omega

theorem by8_bytes (l : List Int) (q : Nat) (h : IsBits l) : Bytes (by8 l q) := by
  intro i
  by_cases hi : i < q
  · rw [by8_at _ _ _ hi]
    have := px_lt l (8 * i) 8 h
    omega
  · rw [getD_ge _ _ (by rw [by8_length]; omega)]; omega

theorem by8_bit (l : List Int) (q j : Nat) (h : IsBits l) (hj : j < 8 * q) : bit (by8 l q) j = decide (l.getD j 0 = 1) := by
  unfold bit
  rw [by8_at _ _ _ (by omega), Int.toNat_natCast]
  have := px_bit l (8 * (j / 8)) 8 (j % 8) h (by omega)
  rw [show 8 - 1 - j % 8 = 7 - j % 8 from by omega, show 8 * (j / 8) + j % 8 = j from by omega] at this
  exact this

/-- the bits of what is put -/
def pl (zs : List Int) (t n v : Nat) : List Int := (bo zs (8 * zs.length)).take t ++ nb v n n ++ (bo zs (8 * zs.length)).drop (t + n)

theorem pl_length (zs : List Int) (t n v : Nat) (h : t + n ≤ 8 * zs.length) : (pl zs t n v).length = 8 * zs.length := by
  simp only [pl, List.length_append, List.length_take, List.length_drop, bo_length, nb_length]
  omega

theorem pl_at (zs : List Int) (t n v i : Nat) (h : t + n ≤ 8 * zs.length) (hi : i < 8 * zs.length) :
    (pl zs t n v).getD i 0 = ((if t ≤ i ∧ i < t + n then v.testBit (n - 1 - (i - t)) else bit zs i).toNat : Int) := by
  have hl : ((bo zs (8 * zs.length)).take t).length = t := by rw [List.length_take, bo_length]; omega
  have hb := bo_at zs (8 * zs.length)
  simp only [List.getD_eq_getElem?_getD] at hb ⊢
  unfold pl
  by_cases h1 : i < t
  · rw [if_neg (by omega), List.append_assoc, List.getElem?_append_left (by omega), List.getElem?_take, if_pos h1]
    exact hb i hi
  · by_cases h2 : i < t + n
    · rw [if_pos (by omega), List.append_assoc, List.getElem?_append_right (by omega), hl, List.getElem?_append_left (by rw [nb_length]; omega)]
      have := nb_at v n n (i - t) (by omega)
      simpa [List.getD_eq_getElem?_getD] using this
    · rw [if_neg (by omega), List.getElem?_append_right (by rw [List.length_append, hl, nb_length]; omega), List.length_append, hl, nb_length, List.getElem?_drop, show t + n + (i - (t + n)) = i from by omega]
      exact hb i hi

theorem pl_bits (zs : List Int) (t n v : Nat) (h : t + n ≤ 8 * zs.length) : IsBits (pl zs t n v) := by
  intro i
  by_cases hi : i < 8 * zs.length
  · rw [pl_at _ _ _ _ _ h hi]
    generalize (if t ≤ i ∧ i < t + n then v.testBit (n - 1 - (i - t)) else bit zs i) = c
    cases c <;> simp
  · left; exact getD_ge _ _ (by rw [pl_length _ _ _ _ h]; omega)

/-- both ways of putting are one -/
theorem put_same (zs : List Int) (t n v : Nat) (hb : Bytes zs) (h : t + n ≤ 8 * zs.length) : by8 (pl zs t n v) zs.length = wr zs t n v n := by
  apply ext _ _ (by8_bytes _ _ (pl_bits _ _ _ _ h)) (wr_bytes _ _ _ _ _ hb) (by rw [by8_length, wr_length])
  intro j hj
  rw [by8_length] at hj
  rw [by8_bit _ _ _ (pl_bits _ _ _ _ h) hj, pl_at _ _ _ _ _ h hj, wr_bit _ _ _ _ _ _ hb h]
  generalize (if t ≤ j ∧ j < t + n then v.testBit (n - 1 - (j - t)) else bit zs j) = c
  cases c <;> simp

/-- the bits of what is joined -/
def jl (ls ws : List Int) : Nat → List Int
  | 0 => []
  | i + 1 => jl ls ws i ++ nb (ls.getD i 0).toNat (ws.getD i 0).toNat (ws.getD i 0).toNat

theorem jl_length (ls ws : List Int) (k : Nat) : (jl ls ws k).length = off ws k := by
  induction k with
  | zero => rfl
  | succ k ih => rw [jl, List.length_append, ih, nb_length, off]

theorem jl_bits (ls ws : List Int) (k : Nat) : IsBits (jl ls ws k) := by
  induction k with
  | zero => intro i; left; simp [jl]
  | succ k ih =>
    intro i
    rw [jl, List.getD_eq_getElem?_getD]
    by_cases h : i < (jl ls ws k).length
    · rw [List.getElem?_append_left h]; have := ih i; simpa [List.getD_eq_getElem?_getD] using this
    · rw [List.getElem?_append_right (by omega)]
      have := nb_bits (ls.getD k 0).toNat (ws.getD k 0).toNat (ws.getD k 0).toNat (i - (jl ls ws k).length)
      simpa [List.getD_eq_getElem?_getD] using this

theorem zero_bit (len j : Nat) : bit (List.replicate len 0) j = false := by
  unfold bit
  have : (List.replicate len (0 : Int)).getD (j / 8) 0 = 0 := by
    by_cases h : j / 8 < len
    · simp [List.getD_eq_getElem?_getD, h]
    · simp [List.getD_eq_getElem?_getD, h]
  rw [this]; simp

theorem jn_bit (ls ws : List Int) (len k j : Nat) (h : off ws k ≤ 8 * len) : bit (jn ls ws len k) j = decide ((jl ls ws k).getD j 0 = 1) := by
  induction k with
  | zero => rw [jn, zero_bit]; simp [jl]
  | succ k ih =>
    have h2 : off ws k + (ws.getD k 0).toNat ≤ 8 * len := by simpa [off] using h
    rw [jn, wr_bit _ _ _ _ _ _ (jn_bytes _ _ _ _) (by rw [jn_length]; exact h2), ih (by omega), jl]
    have hl := jl_length ls ws k
    simp only [List.getD_eq_getElem?_getD]
    by_cases c : j < off ws k
    · rw [if_neg (by omega), List.getElem?_append_left (by omega)]
    · rw [List.getElem?_append_right (by omega), hl, List.getElem?_eq_none (by omega : (jl ls ws k).length ≤ j)]
      by_cases c2 : j < off ws k + (ws.getD k 0).toNat
      · simp only [List.getD_eq_getElem?_getD] at c2
        rw [if_pos (by omega)]
        have := nb_at (ls[k]?.getD 0).toNat (ws[k]?.getD 0).toNat (ws[k]?.getD 0).toNat (j - off ws k) (by omega)
        simp only [List.getD_eq_getElem?_getD] at this
        rw [this]
        cases (ls[k]?.getD 0).toNat.testBit ((ws[k]?.getD 0).toNat - 1 - (j - off ws k)) <;> simp
      · simp only [List.getD_eq_getElem?_getD] at c2
        rw [if_neg (by omega), List.getElem?_eq_none (by rw [nb_length]; omega)]

/-- both ways of joining are one -/
theorem join_same (ls ws : List Int) (k : Nat) : by8 (jl ls ws k) ((off ws k + 7) / 8) = jn ls ws ((off ws k + 7) / 8) k := by
  apply ext _ _ (by8_bytes _ _ (jl_bits _ _ _)) (jn_bytes _ _ _ _) (by rw [by8_length, jn_length])
  intro j hj
  rw [by8_length] at hj
  rw [by8_bit _ _ _ (jl_bits _ _ _) hj, jn_bit _ _ _ _ _ (by omega)]

end Go.Proofs.Ytmohffibkpecpaa.Mth

namespace Go.Proofs.Ytmohffibkpecpaa
open Go.RowKit

set_option maxHeartbeats 400000 in
set_option maxRecDepth 20000 in
theorem fault_any (x y : Int) (w : World) :
    Calls Try.prog 15 #[.int .i64 x, .int .i64 y] w fun e w' => e = .returned (.agg #[.int .i64 x, .int .i64 y]) ∧ Below w.heap.size w w' := by
  go_enter Try.func15, Try.ntmps15
  go_wp2
  exact bodyPost_ret (v := .agg #[.int .i64 x, .int .i64 y]) (by simp [results, Try.results15, go_sem]) rfl ⟨rfl, (Below.refl _ _).alloc (Nat.le_refl _) _⟩

/-- where a fault lies -/
def atOf (c : Int) : Int := if c = 0 then 0 else -1

theorem end_fault {w wr : World} (hb : Below (w.heap.size + 1) (w.alloc F0) wr) (x y : Value) : Below w.heap.size w ((wr.setCell ⟨w.heap.size, 0, none⟩ x).setCell ⟨w.heap.size, 1, none⟩ y) :=
  ((((Below.refl w.heap.size w).alloc (Nat.le_refl _) _).trans (hb.mono (Nat.le_succ _))).setCell (Nat.le_refl _) _).setCell (Nat.le_refl _) _

theorem num_step (l : List Int) (k : Nat) (h : k < 64) (hb : Mth.IsBits l) : IntKind.u64.wrap (IntKind.u64.wrap (2 * (Mth.num l k : Int)) + (l.getD k 0)) = (Mth.num l (k + 1) : Int) := by
  have h1 := Mth.num_lt l k hb
  have h2 : 2 ^ k ≤ 2 ^ 63 := Nat.pow_le_pow_right (by decide) (by omega)
  have h3 := hb k
  rw [IntKind.wrap_u64, IntKind.wrap_u64, Mth.num]
  omega

end Go.Proofs.Ytmohffibkpecpaa

namespace Go.Proofs.Ytmohffibkpecpaa
open Go.RowKit

/-- it is nil; or it leads to a row of 'cap' cells, the numbers zs, each fitting its kind -/
def IsRow (k : IntKind) (w : World) (a : Option Addr) (len cap : Nat) (zs : List Int) : Prop :=
  (a = none ∧ len = 0 ∧ cap = 0 ∧ zs = []) ∨
  ∃ x, a = some x ∧ len ≤ cap ∧ cap ≤ maxLen ∧ zs.length = cap ∧ (∀ i, i < zs.length → w.cell? (x.add i) = some (.int k (zs.getD i 0))) ∧ ∀ n ∈ zs, (Lit.int k n).wf = true

theorem IsRow.has {k : IntKind} {w : World} {a : Option Addr} {len cap : Nat} {zs : List Int} (h : IsRow k w a len cap zs) : Has k w a len (zs.take len) := by
  rcases h with ⟨rfl, rfl, rfl, rfl⟩ | ⟨x, rfl, hl, hm, hz, hcell, hwz⟩
  · exact ⟨rfl, by simp, .inl rfl⟩
  · refine ⟨by rw [List.length_take]; omega, fun n hn => hwz n (List.mem_of_mem_take hn), ?_⟩
    by_cases h0 : len = 0
    · subst h0; exact .inl (by simp)
    · obtain ⟨b, off, spot⟩ := x
      have hc := hcell 0 (by omega)
      have hspot : spot = none := by simpa [Addr.add] using World.cell?_spot hc
      subst hspot
      have hlt := World.block_lt_of_cell? w _ hc
      rw [Addr.add_lit] at hlt
      refine .inr ⟨b, off, rfl, hlt, fun i hi => ?_⟩
      have := hcell i (by omega)
      rw [Addr.add_lit] at this
      rw [this]
      simp only [List.getD_eq_getElem?_getD, List.getElem?_take, if_pos hi]

end Go.Proofs.Ytmohffibkpecpaa
