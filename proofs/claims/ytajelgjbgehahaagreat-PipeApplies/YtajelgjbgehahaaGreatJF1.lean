/- Texts of one chain, joined: FDef, FSmall, FDeed, FDo, FRep. -/
import Derived.Test.YtajelgjbgehahaaGreatJ9
import Derived.Test.YtajelgjbgehahaaGreatVWSmall
import Derived.Test.YtajelgjbgehahaaGreatVQGreat
import Derived.Test.YtajelgjbgehahaaGreatVWLead
import Derived.Deep.RegionHeld3
import Derived.Laws.CopyRow
namespace Go.Proofs.YtajelgjbgehahaaGreat
open Go.RowKit

/-- all 64 ones -/
def onesN : Nat := 18446744073709551615

def hasN (s : Nat) (h : Int) : Bool := decide (h < 0) || s.testBit h.toNat
def treeN (s : Nat) (es : List PushD) : Bool := es.all fun x => !decide (x.op = 2) || hasN s x.r.h
def keysN (s : Nat) (ks : List RefD) : Bool := ks.all fun r => hasN s r.h
def deedTo (s : Nat) (o : POp) : Nat := if o.kind = 2 then s ||| bitN o.head else if o.kind = 3 then s - (s &&& bitN o.head) else s
def deedOk (s : Nat) (o : POp) : Bool := if o.kind = 1 then treeN s o.es && hasN s o.r.h else if o.kind = 5 then treeN s o.es else if o.kind = 6 then hasN s o.r.h && hasN s o.head else true
def actTo (s : Nat) (os : List POp) : Nat := os.foldl deedTo s
def actOk : Nat → List POp → Bool
  | _, [] => true
  | s, o :: os => deedOk s o && actOk (deedTo s o) os

def opsAt (p : PPlan) (k : Int) : List POp := (p.al.getD k.toNat PAct.z).os
def tabAt (p : PPlan) (k : Int) : PTab := p.ts.getD k.toNat PTab.z
def andActs (p : PPlan) (s : Nat) (l : List Int) : Nat := l.foldl (fun a k => a &&& actTo s (opsAt p k)) onesN

def yesN (p : PPlan) (s : Nat) (x : PNode) : Nat :=
  if x.kind = 1 then andActs p s (tabAt p x.n).al else if x.kind = 2 then actTo s (opsAt p x.n) else if x.kind = 3 then s else s ||| bitN x.n
def noN (s : Nat) (x : PNode) : Nat := if x.kind = 4 then s - (s &&& bitN x.n) else s
def nodeOk (p : PPlan) (s : Nat) (x : PNode) : Bool :=
  if x.kind = 1 then keysN s (tabAt p x.n).ks && (tabAt p x.n).al.all (fun k => actOk s (opsAt p k)) else if x.kind = 2 then actOk s (opsAt p x.n) else if x.kind = 3 then treeN s x.es else true

/-- what a node leaves at a place -/
def contN (p : PPlan) (s : Nat) (x : PNode) (j : Nat) : Nat :=
  if s = onesN then onesN else (if x.yes = (j : Int) then yesN p s x else onesN) &&& (if (x.kind = 3 ∨ x.kind = 4) ∧ x.no = (j : Int) then noN s x else onesN)

/-- what is surely there at place j, by the first m nodes -/
def SN (p : PPlan) (st : Nat) : Nat → Nat → Nat
  | 0, j => if j = 0 then st else onesN
  | m + 1, j => SN p st m j &&& contN p (SN p st m m) (p.ns.getD m PNode.z) j

theorem and_ones {a : Nat} (h : a < 2 ^ 64) : a &&& onesN = a := by
  unfold onesN
  rw [show (18446744073709551615 : Nat) = 2 ^ 64 - 1 from rfl, Nat.and_two_pow_sub_one_eq_mod, Nat.mod_eq_of_lt h]
theorem ones_and {a : Nat} (h : a < 2 ^ 64) : onesN &&& a = a := by rw [Nat.and_comm]; exact and_ones h
theorem ones_lt : onesN < 2 ^ 64 := by decide

theorem bitN_lt64 {h : Int} (hh : h < 6) : bitN h < 2 ^ 64 := by
  unfold bitN
  split
  · decide
  · exact Nat.pow_lt_pow_right (by decide) (by omega)

theorem sub_le64 {s b : Nat} (h : s < 2 ^ 64) : s - (s &&& b) < 2 ^ 64 := Nat.lt_of_le_of_lt (Nat.sub_le _ _) h

/-- a deed that names six headers at most -/
structure DeedSix (o : POp) : Prop where
  kind : 1 ≤ o.kind ∧ o.kind ≤ 6
  ref : o.kind = 1 ∨ o.kind = 6 → o.r.h < 6
  tree : o.kind = 1 ∨ o.kind = 5 → ∀ x ∈ o.es, x.op = 2 → x.r.h < 6
  few : o.kind = 1 ∨ o.kind = 5 → o.es.length ≤ 8
  head : o.kind = 2 ∨ o.kind = 3 ∨ o.kind = 6 → 0 ≤ o.head ∧ o.head < 6

/-! bounds -/

/-- heads that deeds name are few -/
def HeadsSix (os : List POp) : Prop := ∀ o ∈ os, o.kind = 2 ∨ o.kind = 3 → o.head < 6

theorem deedTo_lt {s : Nat} {o : POp} (hs : s < 2 ^ 64) (ho : o.kind = 2 ∨ o.kind = 3 → o.head < 6) : deedTo s o < 2 ^ 64 := by
  unfold deedTo
  by_cases e2 : o.kind = 2
  · rw [if_pos e2]
    exact Nat.or_lt_two_pow hs (bitN_lt64 (ho (.inl e2)))
  rw [if_neg e2]
  by_cases e3 : o.kind = 3
  · rw [if_pos e3]
    exact sub_le64 hs
  rw [if_neg e3]
  exact hs

theorem actTo_lt : ∀ {os : List POp} {s : Nat}, s < 2 ^ 64 → HeadsSix os → actTo s os < 2 ^ 64
  | [], _, hs, _ => hs
  | o :: os, _, hs, ho => actTo_lt (os := os) (deedTo_lt hs (ho o List.mem_cons_self)) fun o' h => ho o' (List.mem_cons_of_mem _ h)

theorem and_lt64 {a b : Nat} (h : a < 2 ^ 64) : a &&& b < 2 ^ 64 := Nat.lt_of_le_of_lt Nat.and_le_left h

theorem andActs_lt {p : PPlan} {s : Nat} (l : List Int) : andActs p s l < 2 ^ 64 := by
  have : ∀ (l : List Int) (a : Nat), a < 2 ^ 64 → l.foldl (fun a k => a &&& actTo s (opsAt p k)) a < 2 ^ 64 := by
    intro l
    induction l with
    | nil => exact fun a h => h
    | cons k l ih => exact fun a h => ih _ (and_lt64 h)
  exact this l onesN ones_lt

theorem SN_lt {p : PPlan} {st : Nat} (hs : st < 2 ^ 64) : ∀ m j, SN p st m j < 2 ^ 64
  | 0, j => by
    unfold SN
    split
    · exact hs
    · exact ones_lt
  | m + 1, j => and_lt64 (SN_lt hs m j)

theorem actOk_drop {s : Nat} {os : List POp} {k : Nat} {o : POp} (h : os[k]? = some o) : actOk s (os.drop k) = (deedOk s o && actOk (deedTo s o) (os.drop (k + 1))) := by
  obtain ⟨hk, e⟩ := List.getElem?_eq_some_iff.1 h
  rw [List.drop_eq_getElem_cons hk, e]
  rfl

theorem actTo_take {s : Nat} {os : List POp} {k : Nat} {o : POp} (h : os[k]? = some o) : actTo s (os.take (k + 1)) = deedTo (actTo s (os.take k)) o := by
  unfold actTo
  rw [List.take_add_one, h]
  simp
end Go.Proofs.YtajelgjbgehahaaGreat

namespace Go.Proofs.YtajelgjbgehahaaGreat
open Go.RowKit

theorem fand_bit (m h : Nat) : m &&& 2 ^ h = 0 ↔ m.testBit h = false := by
  constructor
  · intro e
    have := congrArg (Nat.testBit · h) e
    simpa [Nat.testBit_and, Nat.testBit_two_pow_self] using this
  · intro e
    refine Nat.eq_of_testBit_eq fun k => ?_
    rw [Nat.testBit_and, Nat.testBit_two_pow, Nat.zero_testBit]
    by_cases hk : h = k
    · subst hk; simp [e]
    · simp [hk]

theorem nat_or_add (a b : Nat) (h : a &&& b = 0) : a ||| b = a + b := by
  have hw : a + b < 2 ^ (a + b) := Nat.lt_two_pow_self
  have h1 := BitVec.add_eq_or_of_and_eq_zero (w := a + b) (BitVec.ofNat _ a) (BitVec.ofNat _ b) (by rw [← BitVec.ofNat_and, h])
  have h2 := congrArg BitVec.toNat h1
  rw [← BitVec.ofNat_add, ← BitVec.ofNat_or, BitVec.toNat_ofNat, BitVec.toNat_ofNat, Nat.mod_eq_of_lt hw, Nat.mod_eq_of_lt (Nat.or_lt_two_pow (by omega) (by omega))] at h2
  exact h2.symm

theorem bne_and (s h : Nat) (hh : h < 64) (hs : s < 2 ^ 64) : (bits .and .u64 (s : Int) ((2 ^ h : Nat) : Int) != 0) = s.testBit h := by
  rw [u64and s (2 ^ h) hs (Nat.pow_lt_pow_right (by decide) hh)]
  cases e : s.testBit h with
  | false => rw [(fand_bit s h).2 e]; rfl
  | true =>
    rw [bne_iff_ne]
    intro h0
    have := (fand_bit s h).1 (by omega)
    rw [e] at this; cases this

theorem and_le_bit (s h : Nat) : s - (s &&& 2 ^ h) = s &&& (18446744073709551615 - 2 ^ h) ∨ ¬ (s < 2 ^ 64 ∧ h < 64) := by
  by_cases hs : s < 2 ^ 64 ∧ h < 64
  · refine .inl ?_
    have e1 : 18446744073709551615 - 2 ^ h = 2 ^ 64 - (2 ^ h + 1) := by omega
    have hp : 2 ^ h < 2 ^ 64 := Nat.pow_lt_pow_right (by decide) hs.2
    have key : (s &&& (18446744073709551615 - 2 ^ h)) + (s &&& 2 ^ h) = s := by
      rw [← nat_or_add]
      · refine Nat.eq_of_testBit_eq fun k => ?_
        rw [Nat.testBit_or, Nat.testBit_and, Nat.testBit_and, e1, Nat.testBit_two_pow_sub_succ hp]
        by_cases hk : k < 64
        · simp only [hk, decide_true, Bool.true_and]
          cases s.testBit k <;> cases (2 ^ h).testBit k <;> rfl
        · have : s.testBit k = false := Nat.testBit_lt_two_pow (Nat.lt_of_lt_of_le hs.1 (Nat.pow_le_pow_right (by decide) (by omega)))
          simp [this]
      · refine Nat.eq_of_testBit_eq fun k => ?_
        rw [Nat.testBit_and, Nat.testBit_and, Nat.testBit_and, e1, Nat.testBit_two_pow_sub_succ hp, Nat.zero_testBit]
        cases s.testBit k <;> cases (2 ^ h).testBit k <;> simp
    omega
  · exact .inr hs

theorem andNot_is (s h : Nat) (hs : s < 2 ^ 64) (hh : h < 64) : bits .andNot .u64 (s : Int) ((2 ^ h : Nat) : Int) = ((s - (s &&& 2 ^ h) : Nat) : Int) := by
  rw [u64_andNot_nat _ _ (by omega) (by have : 2 ^ h < 2 ^ 64 := Nat.pow_lt_pow_right (by decide) hh; omega)]
  rcases and_le_bit s h with e | e
  · rw [e]
  · exact absurd ⟨hs, hh⟩ e

set_option maxHeartbeats 4000000 in
set_option maxRecDepth 20000 in
theorem fhas_any (s : Nat) (h : Int) (hs : s < 2 ^ 64) (h6 : h < 6) (w : World) : Calls Tryz.prog 137 #[.int .u64 (s : Int), .int .i64 h] w fun e w' => e = .returned (.bool (hasN s h)) ∧ w' = w := by
  by_cases h0 : h < 0
  · have e : hasN s h = true := by unfold hasN; rw [decide_eq_true h0, Bool.true_or]
    have hd := decide_eq_true h0
    rw [e]
    clear e
    go_enter Tryz.func137, Tryz.ntmps137
    go_wp2
    go_ret
    exact ⟨rfl, rfl⟩
  · have e : hasN s h = s.testBit h.toNat := by unfold hasN; rw [decide_eq_false h0, Bool.false_or]
    have hb := bne_and s h.toNat (by omega) hs
    rw [e]
    clear e
    rcases six_ways h0 h6 with rfl | rfl | rfl | rfl | rfl | rfl
    all_goals
      simp only [Int.reduceToNat, Nat.reducePow, Int.cast_ofNat_Int] at hb ⊢
      rw [← hb]
      clear hb h0
      go_enter Tryz.func137, Tryz.ntmps137
      go_wp2
      go_ret
      exact ⟨rfl, rfl⟩

set_option maxHeartbeats 4000000 in
set_option maxRecDepth 20000 in
theorem fwith_any (s : Nat) (h : Int) (hs : s < 2 ^ 64) (h0 : 0 ≤ h) (h6 : h < 6) (w : World) : Calls Tryz.prog 109 #[.int .u64 (s : Int), .int .i64 h] w fun e w' => e = .returned (.int .u64 ((s ||| bitN h : Nat) : Int)) ∧ w' = w := by
  have hb := u64or s (bitN h) hs (bitN_lt64 h6)
  rw [← hb]
  clear hb
  rcases six_ways (by omega) h6 with rfl | rfl | rfl | rfl | rfl | rfl
  all_goals
    clear h0 h6
    simp only [bitN, Int.reduceToNat, Nat.reducePow, Int.cast_ofNat_Int, Int.reduceLT, if_false]
    go_enter Tryz.func109, Tryz.ntmps109
    go_wp2
    go_ret
    exact ⟨rfl, rfl⟩

set_option maxHeartbeats 4000000 in
set_option maxRecDepth 20000 in
theorem fwithout_any (s : Nat) (h : Int) (hs : s < 2 ^ 64) (h0 : 0 ≤ h) (h6 : h < 6) (w : World) : Calls Tryz.prog 110 #[.int .u64 (s : Int), .int .i64 h] w fun e w' => e = .returned (.int .u64 ((s - (s &&& bitN h) : Nat) : Int)) ∧ w' = w := by
  have eb : bitN h = 2 ^ h.toNat := by unfold bitN; rw [if_neg (by omega)]
  have hb := andNot_is s h.toNat hs (by omega)
  rw [eb, ← hb]
  clear hb eb
  rcases six_ways (by omega) h6 with rfl | rfl | rfl | rfl | rfl | rfl
  all_goals
    clear h0 h6
    simp only [Int.reduceToNat, Nat.reducePow, Int.cast_ofNat_Int]
    go_enter Tryz.func110, Tryz.ntmps110
    go_wp2
    go_ret
    exact ⟨rfl, rfl⟩

theorem all_drop {α : Type} {f : α → Bool} {l : List α} {k : Nat} {x : α} (h : l[k]? = some x) : (l.drop k).all f = (f x && (l.drop (k + 1)).all f) := by
  obtain ⟨hk, e⟩ := List.getElem?_eq_some_iff.1 h
  rw [List.drop_eq_getElem_cons hk, e, List.all_cons]

set_option maxHeartbeats 4000000 in
set_option maxRecDepth 20000 in
theorem fkeys_any (s : Nat) (e : QSl) (es : List RefD) (w : World) (hs : s < 2 ^ 64) (he : QRow 2 RefD.lie w e es) (h6 : ∀ x ∈ es, x.h < 6) (hn : e.n ≤ 1000) :
    Calls Tryz.prog 135 #[.int .u64 (s : Int), .slice e.a e.n e.c] w fun q w' => q = .returned (.bool (keysN s es)) ∧ Below w.heap.size w w' := by
  obtain ⟨ea, ee⟩ : ∃ ea, e.a = ea := ⟨_, rfl⟩
  have HE := hid he
  have EE := hid ee
  have H6 := hid h6
  have HS := hid hs
  have HD : Hid (∀ (w' : World) (b : Bool), keysN s es = b → Below w.heap.size w w' → (Ending.returned (.bool b) = .returned (.bool (keysN s es)) ∧ Below w.heap.size w w')) := fun w' b h hb => ⟨by rw [h], hb⟩
  have H0 : Hid (Below w.heap.size w w) := Below.refl _ _
  rw [ee]
  clear he ee h6 hs
  go_enter Tryz.func135, Tryz.ntmps135
  go_wp2
  go_loopw [9, 6] (fun q _ wr => ∃ k : Nat, k ≤ e.n ∧ q = .int .i64 k ∧ Hid (keysN s es = keysN s (es.drop k)) ∧ Hid (Below w.heap.size w wr)) (fun q _ _ => e.n - (intOf q).toNat)
  case atStart => exact ⟨0, Nat.zero_le _, rfl, rfl, H0⟩
  case round =>
    obtain ⟨k, hk, rfl, HG, HB⟩ := hrel
    clear H0
    by_cases hlt : k < e.n
    · obtain ⟨g, off, x, ea', hx, ⟨r0, _⟩, ⟨r1, _⟩⟩ := row_at (HE.out.step RefD.keeps HB.out) hlt
      obtain rfl : ea = some ⟨g, off, none⟩ := by rw [← EE.out]; exact ea'
      have hki : (k : Int) < (e.n : Int) := by omega
      have HN : Hid (keysN s es = (hasN s x.h && keysN s (es.drop (k + 1)))) := by show keysN s es = _; rw [HG.out]; exact all_drop hx
      have HH := hid (fun w' => fhas_any s x.h HS.out (H6.out x (List.mem_of_getElem? hx)) w')
      have HBN := hid (fun o => bl_step HB.out (bl_alloc (Below.refl wr.heap.size wr) (o := o)))
      clear hx ea' HG
      generalize hasN s x.h = B at *
      cases B with
      | true =>
        have HN2 : Hid (keysN s es = keysN s (es.drop (k + 1))) := by have := HN.out; rw [Bool.true_and] at this; exact this
        clear HN
        go_wp2_with fail
        refine (HH.out _).mono ?_
        rintro q w1 ⟨rfl, rfl⟩
        clear HH
        go_wp2
        go_roundw
        case rel => exact ⟨k + 1, by omega, by go_num, HN2, HBN.out _⟩
        case measure => simp [intOf]; omega
      | false =>
        have HN2 : Hid (keysN s es = false) := by have := HN.out; rw [Bool.false_and] at this; exact this
        clear HN
        go_wp2_with fail
        refine (HH.out _).mono ?_
        rintro q w1 ⟨rfl, rfl⟩
        clear HH
        go_wp2
        go_ret
        exact HD.out _ _ HN2.out (HBN.out _)
    · have hki : ¬ (k : Int) < (e.n : Int) := by omega
      have HN2 : Hid (keysN s es = true) := by
        show keysN s es = true
        rw [HG.out, List.drop_of_length_le (by have := HE.out.1; omega)]
        rfl
      clear HG
      go_wp2
      go_ret
      exact HD.out _ _ HN2.out HB.out

set_option maxHeartbeats 4000000 in
set_option maxRecDepth 20000 in
theorem ftree_any (s : Nat) (e : QSl) (es : List PushD) (w : World) (hs : s < 2 ^ 64) (he : QRow 4 PushD.lie w e es) (h6 : ∀ x ∈ es, x.op = 2 → x.r.h < 6) (hn : e.n ≤ 1000) :
    Calls Tryz.prog 108 #[.int .u64 (s : Int), .slice e.a e.n e.c] w fun q w' => q = .returned (.bool (treeN s es)) ∧ Below w.heap.size w w' := by
  obtain ⟨ea, ee⟩ : ∃ ea, e.a = ea := ⟨_, rfl⟩
  have HE := hid he
  have EE := hid ee
  have H6 := hid h6
  have HS := hid hs
  have HD : Hid (∀ (w' : World) (b : Bool), treeN s es = b → Below w.heap.size w w' → (Ending.returned (.bool b) = .returned (.bool (treeN s es)) ∧ Below w.heap.size w w')) := fun w' b h hb => ⟨by rw [h], hb⟩
  have H0 : Hid (Below w.heap.size w w) := Below.refl _ _
  rw [ee]
  clear he ee h6 hs
  go_enter Tryz.func108, Tryz.ntmps108
  go_wp2
  go_loopw [9, 6] (fun q _ wr => ∃ k : Nat, k ≤ e.n ∧ q = .int .i64 k ∧ Hid (treeN s es = treeN s (es.drop k)) ∧ Hid (Below w.heap.size w wr)) (fun q _ _ => e.n - (intOf q).toNat)
  case atStart => exact ⟨0, Nat.zero_le _, rfl, rfl, H0⟩
  case round =>
    obtain ⟨k, hk, rfl, HG, HB⟩ := hrel
    clear H0
    by_cases hlt : k < e.n
    · obtain ⟨g, off, x, ea', hx, ⟨r0, _⟩, ⟨r1, _⟩, ⟨r2, _⟩, ⟨r3, _⟩⟩ := row_at (HE.out.step PushD.keeps HB.out) hlt
      obtain rfl : ea = some ⟨g, off, none⟩ := by rw [← EE.out]; exact ea'
      have hki : (k : Int) < (e.n : Int) := by omega
      have HN : Hid (treeN s es = ((!decide (x.op = 2) || hasN s x.r.h) && treeN s (es.drop (k + 1)))) := by show treeN s es = _; rw [HG.out]; exact all_drop hx
      have HBN := hid (fun o => bl_step HB.out (bl_alloc (Below.refl wr.heap.size wr) (o := o)))
      by_cases h2 : x.op = 2
      · have b2 : (x.op == 2) = true := by simpa using h2
        have HH := hid (fun w' => fhas_any s x.r.h HS.out (H6.out x (List.mem_of_getElem? hx) h2) w')
        rw [decide_eq_true h2] at HN
        clear hx ea' HG h2
        generalize hasN s x.r.h = B at *
        cases B with
        | true =>
          have HN2 : Hid (treeN s es = treeN s (es.drop (k + 1))) := by have := HN.out; show treeN s es = _; simpa using this
          clear HN
          go_wp2_with fail
          refine (HH.out _).mono ?_
          rintro q w1 ⟨rfl, rfl⟩
          clear HH
          go_wp2
          go_roundw
          case rel => exact ⟨k + 1, by omega, by go_num, HN2, HBN.out _⟩
          case measure => simp [intOf]; omega
        | false =>
          have HN2 : Hid (treeN s es = false) := by have := HN.out; show treeN s es = _; simpa using this
          clear HN
          go_wp2_with fail
          refine (HH.out _).mono ?_
          rintro q w1 ⟨rfl, rfl⟩
          clear HH
          go_wp2
          go_ret
          exact HD.out _ _ HN2.out (HBN.out _)
      · have b2 : (x.op == 2) = false := by simpa using h2
        rw [decide_eq_false h2] at HN
        have HN2 : Hid (treeN s es = treeN s (es.drop (k + 1))) := by have := HN.out; show treeN s es = _; simpa using this
        clear HN hx ea' HG h2
        go_wp2
        go_roundw
        case rel => exact ⟨k + 1, by omega, by go_num, HN2, HBN.out _⟩
        case measure => simp [intOf]; omega
    · have hki : ¬ (k : Int) < (e.n : Int) := by omega
      have HN2 : Hid (treeN s es = true) := by
        show treeN s es = true
        rw [HG.out, List.drop_of_length_le (by have := HE.out.1; omega)]
        rfl
      clear HG
      go_wp2
      go_ret
      exact HD.out _ _ HN2.out HB.out
end Go.Proofs.YtajelgjbgehahaaGreat

namespace Go.Proofs.YtajelgjbgehahaaGreat
open Go.RowKit

@[reducible] def opV (o : OpD) : Value := .agg #[.int .i64 o.kind, .int .i64 o.r.h, .int .i64 o.r.f, .int .i64 o.head, .slice o.e.a o.e.n o.e.c]

/-- what is surely there ahead of each node, as it lies -/
structure AhU (g : Nat) (A : List Nat) (w : World) : Prop where
  cs : ∀ (i s : Nat), A[i]? = some s → w.cell? ⟨g, i, none⟩ = some (.int .u64 (s : Int))
  fz : ∀ o, w.frozen? ⟨g, o, none⟩ = false
  lt : g < w.heap.size

theorem AhU.step {w w' : World} {g : Nat} {A : List Nat} (h : AhU g A w) (b : Below w.heap.size w w') : AhU g A w' :=
  ⟨fun i s hs => cell_keep (h.cs i s hs) b, fun o => (b.frozen (p := ⟨g, o, none⟩) h.lt).trans (h.fz o), Nat.lt_of_lt_of_le h.lt b.size⟩

theorem AhU.but {w w' : World} {g q : Nat} {A : List Nat} (h : AhU g A w) (b : But q w w') (hn : g ≠ q) : AhU g A w' :=
  ⟨fun i s hs => b.cell hn (h.cs i s hs), fun o => (b.frozen hn h.lt).trans (h.fz o), Nat.lt_of_lt_of_le h.lt b.size⟩

theorem AhU.set {g : Nat} {A : List Nat} {w : World} {j x : Nat} (h : AhU g A w) (hj : A[j]? = some x) (s : Nat) : AhU g (A.set j s) (w.setCell ⟨g, j, none⟩ (.int .u64 (s : Int))) := by
  refine ⟨fun i y hy => ?_, fun o => ?_, ?_⟩
  · rw [List.getElem?_set] at hy
    by_cases e : j = i
    · subst e
      rw [if_pos rfl, if_pos (List.getElem?_eq_some_iff.1 hj).1] at hy
      cases hy
      exact World.cell?_setCell_same _ _ _ (h.cs j x hj)
    · rw [if_neg e] at hy
      exact cell_other (h.cs i y hy) (by omega)
  · simp only [World.frozen?_setCell]
    exact h.fz o
  · simp only [World.size_setCell]
    exact h.lt

/-- the value of a walker -/
@[reducible] def fwkV (d : PlanD) (g m : Nat) : Value := .agg #[.slice d.heads.a d.heads.n d.heads.c, .slice d.mta.a d.mta.n d.mta.c, .slice d.states.a d.states.n d.states.c, .slice d.acts.a d.acts.n d.acts.c, .slice d.tabs.a d.tabs.n d.tabs.c, .slice d.nodes.a d.nodes.n d.nodes.c, .slice d.out.a d.out.n d.out.c, .slice (some ⟨g, 0, none⟩) m m]

def LeadF (g : Nat) (A : List Nat) (w : World) (e : Ending) (w' : World) : Prop := e = .returned (.tuple #[]) ∧ AhU g A w' ∧ But g w w'

set_option maxHeartbeats 4000000 in
set_option maxRecDepth 20000 in
theorem flead_any (d : PlanD) {g m : Nat} {A : List Nat} {w : World} (j s x : Nat) (ha : AhU g A w) (hm : j < m) (hj : A[j]? = some x) (hs : s < 2 ^ 64) (hx : x < 2 ^ 64) :
    Calls Tryz.prog 44 #[fwkV d g m, .int .i64 (j : Int), .int .u64 (s : Int)] w (LeadF g (A.set j (x &&& s)) w) := by
  have HE : Hid (∀ o : Obj, LeadF g (A.set j (x &&& s)) w (.returned (.tuple #[])) ((w.alloc o).setCell ⟨g, j, none⟩ (.int .u64 ((x &&& s : Nat) : Int)))) := fun o => ⟨rfl, (ha.step (bl_alloc (Below.refl _ _))).set hj _, (But.of (bl_alloc (Below.refl _ _)) (Nat.le_of_lt ha.lt)).trans set_but⟩
  have hc : ∀ o, (w.alloc o).cell? ⟨g, j, none⟩ = some (.int .u64 (x : Int)) := fun o => cell_keep (ha.cs j x hj) (bl_alloc (Below.refl _ _))
  have hf : ∀ o, (w.alloc o).frozen? ⟨g, j, none⟩ = false := fun o => (ha.step (bl_alloc (Below.refl _ _))).fz j
  have hg : ¬ g = w.heap.size := by have := ha.lt; omega
  have h1 := u64and x s hx hs
  have hji : (j : Int) < (m : Int) := by omega
  have hj0 : (0 : Int) ≤ (j : Int) := by omega
  clear ha hj hm hs hx
  go_enter Tryz.func44, Tryz.ntmps44
  go_wp2
  go_end0
  exact HE.out _

def DeedDone (q s : Nat) (o : POp) (w : World) (e : Ending) (w' : World) : Prop :=
  e = .returned (.bool (deedOk s o)) ∧ But q w w' ∧ w'.cell? ⟨q, 2, none⟩ = some (.int .u64 (deedTo s o : Nat)) ∧ w'.frozen? ⟨q, 2, none⟩ = false

set_option maxHeartbeats 16000000 in
set_option maxRecDepth 20000 in
theorem fdeed_any (q s : Nat) (o : OpD) (w : World) (hq : w.cell? ⟨q, 2, none⟩ = some (.int .u64 (s : Int))) (hf : w.frozen? ⟨q, 2, none⟩ = false) (hs : s < 2 ^ 64) (ho : DeedSix o.p) (he : QRow 4 PushD.lie w o.e o.es) :
    Calls Tryz.prog 136 #[.pointer (some ⟨q, 0, none⟩), opV o] w (DeedDone q s o.p w) := by
  obtain ⟨kind, ⟨rh, rf⟩, head, e, es⟩ := o
  obtain ⟨W1, hW⟩ : ∃ W1, W1 = w.alloc (.cells #[.int .i64 kind, .int .i64 rh, .int .i64 rf, .int .i64 head, .slice e.a e.n e.c] 71) := ⟨_, rfl⟩
  obtain ⟨b, hb⟩ : ∃ b, b = w.heap.size := ⟨_, rfl⟩
  have b1 : Below w.heap.size w W1 := by rw [hW]; exact bl_alloc (Below.refl _ _)
  have hql : q < w.heap.size := World.block_lt_of_cell? w _ hq
  have hqb : q ≠ b := by omega
  have c0 : W1.cell? ⟨b, 0, none⟩ = some (.int .i64 kind) := by rw [hW, hb]; exact (World.cell?_alloc_at _ _ _ _ rfl).trans rfl
  have c1 : W1.cell? ⟨b, 1, none⟩ = some (.int .i64 rh) := by rw [hW, hb]; exact (World.cell?_alloc_at _ _ _ _ rfl).trans rfl
  have c3 : W1.cell? ⟨b, 3, none⟩ = some (.int .i64 head) := by rw [hW, hb]; exact (World.cell?_alloc_at _ _ _ _ rfl).trans rfl
  have c4 : W1.cell? ⟨b, 4, none⟩ = some (.slice e.a e.n e.c) := by rw [hW, hb]; exact (World.cell?_alloc_at _ _ _ _ rfl).trans rfl
  have z := cell_keep hq b1
  have zf : W1.frozen? ⟨q, 2, none⟩ = false := (b1.frozen (p := ⟨q, 2, none⟩) hql).trans hf
  have hbl : b < W1.heap.size := World.block_lt_of_cell? _ _ c0
  have hql1 : q < W1.heap.size := World.block_lt_of_cell? _ _ z
  have HSM : Hid (∀ w' v, Below W1.heap.size W1 w' → v = deedOk s (OpD.p ⟨kind, ⟨rh, rf⟩, head, e, es⟩) → deedTo s (OpD.p ⟨kind, ⟨rh, rf⟩, head, e, es⟩) = s → DeedDone q s (OpD.p ⟨kind, ⟨rh, rf⟩, head, e, es⟩) w (.returned (.bool v)) w') := fun w' v h hv ht => by
    refine ⟨by rw [hv], But.of (bl_step b1 h) (Nat.le_of_lt hql), ?_, ?_⟩
    · rw [ht]; exact cell_keep z h
    · exact (h.frozen (p := ⟨q, 2, none⟩) hql1).trans zf
  have HST : Hid (∀ w', Below W1.heap.size W1 w' → deedOk s (OpD.p ⟨kind, ⟨rh, rf⟩, head, e, es⟩) = true → DeedDone q s (OpD.p ⟨kind, ⟨rh, rf⟩, head, e, es⟩) w (.returned (.bool true)) (w'.setCell ⟨q, 2, none⟩ (.int .u64 (deedTo s (OpD.p ⟨kind, ⟨rh, rf⟩, head, e, es⟩) : Nat)))) := fun w' h hv => by
    refine ⟨by rw [hv], (But.of (bl_step b1 h) (Nat.le_of_lt hql)).trans set_but, World.cell?_setCell_same _ _ _ (cell_keep z h), ?_⟩
    simp only [World.frozen?_setCell]
    exact (h.frozen (p := ⟨q, 2, none⟩) hql1).trans zf
  have HEE := hid (he.step PushD.keeps b1)
  have HO := hid ho
  have HS := hid hs
  have EW := hid hW
  have EB := hid hb
  have hk := ho.kind
  clear hq hf hs ho he hW hb b1 hql
  simp only [OpD.p] at hk
  rcases (show kind = 1 ∨ kind = 2 ∨ kind = 3 ∨ kind = 4 ∨ kind = 5 ∨ kind = 6 by omega) with rfl | rfl | rfl | rfl | rfl | rfl
  · have HT : Hid (∀ p : BelowBy W1, Calls Tryz.prog 108 #[.int .u64 (s : Int), .slice e.a e.n e.c] p.to fun q w' => q = .returned (.bool (treeN s es)) ∧ Below p.to.heap.size p.to w') := fun p => ftree_any s e es p.to HS.out (HEE.out.step PushD.keeps p.h) (HO.out.tree (.inl rfl)) (by have := HO.out.few (.inl rfl); have h2 := HEE.out.1; simp only [OpD.p] at this h2; omega)
    have HH : Hid (∀ w', Calls Tryz.prog 137 #[.int .u64 (s : Int), .int .i64 rh] w' fun e w'' => e = .returned (.bool (hasN s rh)) ∧ w'' = w') := fun w' => fhas_any s rh HS.out (HO.out.ref (.inl rfl)) w'
    have HV : Hid (deedOk s (OpD.p ⟨1, ⟨rh, rf⟩, head, e, es⟩) = (treeN s es && hasN s rh)) := by show deedOk s _ = _; unfold deedOk; rfl
    have z' := cell_by z
    have c1' := cell_by c1
    have c4' := cell_by c4
    generalize treeN s es = B1 at *
    generalize hasN s rh = B2 at *
    clear HST HO HEE
    cases B1 with
    | true =>
      go_enter Tryz.func136, Tryz.ntmps136
      go_wp2_with fail
      rw [← EW.out, ← EB.out]
      clear EW EB
      haveI inhB : ∀ w : World, Inhabited (BelowBy w) := fun w => ⟨⟨w, Below.refl _ _⟩⟩
      refine wp_region_quiet_below (by kernel_rfl) (by kernel_rfl) ?_
      repeat (go_big_quiet_step (first | (go_at_call 108; exact calls_below _ (HT.out _)) | (go_at_call 137; exact calls_same _ (HH.out _))))
      refine wpQuiet_nil ?_
      intro wq hw'
      obtain ⟨⟨_, hwq⟩, hw''⟩ := hw'
      subst hw''
      go_wp2
      go_ret
      exact HSM.out _ _ hwq (by rw [HV.out, Bool.true_and]) rfl
    | false =>
      go_enter Tryz.func136, Tryz.ntmps136
      go_wp2_with fail
      rw [← EW.out, ← EB.out]
      clear EW EB
      haveI inhB : ∀ w : World, Inhabited (BelowBy w) := fun w => ⟨⟨w, Below.refl _ _⟩⟩
      refine wp_region_quiet_below (by kernel_rfl) (by kernel_rfl) ?_
      repeat (go_big_quiet_step (first | (go_at_call 108; exact calls_below _ (HT.out _)) | (go_at_call 137; exact calls_same _ (HH.out _))))
      refine wpQuiet_nil ?_
      intro wq hw'
      obtain ⟨⟨_, hwq⟩, hw''⟩ := hw'
      subst hw''
      go_wp2
      go_ret
      exact HSM.out _ _ hwq (by rw [HV.out, Bool.false_and]) rfl
  · have HW : Hid (∀ w', Calls Tryz.prog 109 #[.int .u64 (s : Int), .int .i64 head] w' fun e w'' => e = .returned (.int .u64 ((s ||| bitN head : Nat) : Int)) ∧ w'' = w') := fun w' => fwith_any s head HS.out (HO.out.head (.inl rfl)).1 (HO.out.head (.inl rfl)).2 w'
    have HQ : Hid (∀ w', Below W1.heap.size W1 w' → DeedDone q s (OpD.p ⟨2, ⟨rh, rf⟩, head, e, es⟩) w (.returned (.bool true)) (w'.setCell ⟨q, 2, none⟩ (.int .u64 ((s ||| bitN head : Nat) : Int)))) := fun w' h => HST.out w' h rfl
    clear HST HSM HO HEE HS c1 c4
    generalize s ||| bitN head = R at *
    go_enter Tryz.func136, Tryz.ntmps136
    go_wp2_with fail
    rw [← EW.out, ← EB.out]
    clear EW EB
    go_region_with (go_at_call 109; refine (HW.out _).mono ?_; rintro e w' ⟨rfl, rfl⟩)
    all_goals
      go_wp2
      go_ret
      exact HQ.out _ (Below.refl _ _).drew
  · have HW : Hid (∀ w', Calls Tryz.prog 110 #[.int .u64 (s : Int), .int .i64 head] w' fun e w'' => e = .returned (.int .u64 ((s - (s &&& bitN head) : Nat) : Int)) ∧ w'' = w') := fun w' => fwithout_any s head HS.out (HO.out.head (.inr (.inl rfl))).1 (HO.out.head (.inr (.inl rfl))).2 w'
    have HQ : Hid (∀ w', Below W1.heap.size W1 w' → DeedDone q s (OpD.p ⟨3, ⟨rh, rf⟩, head, e, es⟩) w (.returned (.bool true)) (w'.setCell ⟨q, 2, none⟩ (.int .u64 ((s - (s &&& bitN head) : Nat) : Int)))) := fun w' h => HST.out w' h rfl
    clear HST HSM HO HEE HS c1 c4
    generalize s - (s &&& bitN head) = R at *
    go_enter Tryz.func136, Tryz.ntmps136
    go_wp2_with fail
    rw [← EW.out, ← EB.out]
    clear EW EB
    go_region_with (go_at_call 110; refine (HW.out _).mono ?_; rintro e w' ⟨rfl, rfl⟩)
    all_goals
      go_wp2
      go_ret
      exact HQ.out _ (Below.refl _ _).drew
  · clear HST HO HEE HS c1 c3 c4
    go_enter Tryz.func136, Tryz.ntmps136
    go_wp2
    go_ret
    rw [← EW.out]
    exact HSM.out _ _ (Below.refl _ _) rfl rfl
  · have HT : Hid (∀ p : BelowBy W1, Calls Tryz.prog 108 #[.int .u64 (s : Int), .slice e.a e.n e.c] p.to fun q w' => q = .returned (.bool (treeN s es)) ∧ Below p.to.heap.size p.to w') := fun p => ftree_any s e es p.to HS.out (HEE.out.step PushD.keeps p.h) (HO.out.tree (.inr rfl)) (by have := HO.out.few (.inr rfl); have h2 := HEE.out.1; simp only [OpD.p] at this h2; omega)
    have HV : Hid (deedOk s (OpD.p ⟨5, ⟨rh, rf⟩, head, e, es⟩) = treeN s es) := by show deedOk s _ = _; unfold deedOk; rfl
    have z' := cell_by z
    have c4' := cell_by c4
    generalize treeN s es = B1 at *
    clear HST HO HEE
    go_enter Tryz.func136, Tryz.ntmps136
    go_wp2_with fail
    rw [← EW.out, ← EB.out]
    clear EW EB
    haveI inhB : ∀ w : World, Inhabited (BelowBy w) := fun w => ⟨⟨w, Below.refl _ _⟩⟩
    refine wp_region_quiet_below (by kernel_rfl) (by kernel_rfl) ?_
    repeat (go_big_quiet_step (first | (go_at_call 108; exact calls_below _ (HT.out _))))
    refine wpQuiet_nil ?_
    intro wq hw'
    obtain ⟨⟨_, hwq⟩, hw''⟩ := hw'
    subst hw''
    go_wp2
    go_ret
    exact HSM.out _ _ hwq HV.out.symm rfl
  · have HH : Hid (∀ w', Calls Tryz.prog 137 #[.int .u64 (s : Int), .int .i64 rh] w' fun e w'' => e = .returned (.bool (hasN s rh)) ∧ w'' = w') := fun w' => fhas_any s rh HS.out (HO.out.ref (.inr rfl)) w'
    have HH2 : Hid (∀ w', Calls Tryz.prog 137 #[.int .u64 (s : Int), .int .i64 head] w' fun e w'' => e = .returned (.bool (hasN s head)) ∧ w'' = w') := fun w' => fhas_any s head HS.out (HO.out.head (.inr (.inr rfl))).2 w'
    have HV : Hid (deedOk s (OpD.p ⟨6, ⟨rh, rf⟩, head, e, es⟩) = (hasN s rh && hasN s head)) := by show deedOk s _ = _; unfold deedOk; rfl
    have z' := cell_by z
    have c1' := cell_by c1
    have c3' := cell_by c3
    generalize hasN s rh = B1 at *
    generalize hasN s head = B2 at *
    clear HST HO HEE
    cases B1 with
    | true =>
      go_enter Tryz.func136, Tryz.ntmps136
      go_wp2_with fail
      rw [← EW.out, ← EB.out]
      clear EW EB
      haveI inhB : ∀ w : World, Inhabited (BelowBy w) := fun w => ⟨⟨w, Below.refl _ _⟩⟩
      refine wp_region_quiet_below (by kernel_rfl) (by kernel_rfl) ?_
      repeat (go_big_quiet_step (first | (go_at_call 137; with_reducible exact calls_same _ (HH.out _)) | (go_at_call 137; exact calls_same _ (HH2.out _))))
      refine wpQuiet_nil ?_
      intro wq hw'
      obtain ⟨⟨_, hwq⟩, hw''⟩ := hw'
      subst hw''
      go_wp2
      go_ret
      exact HSM.out _ _ hwq (by rw [HV.out, Bool.true_and]) rfl
    | false =>
      go_enter Tryz.func136, Tryz.ntmps136
      go_wp2_with fail
      rw [← EW.out, ← EB.out]
      clear EW EB
      haveI inhB : ∀ w : World, Inhabited (BelowBy w) := fun w => ⟨⟨w, Below.refl _ _⟩⟩
      refine wp_region_quiet_below (by kernel_rfl) (by kernel_rfl) ?_
      repeat (go_big_quiet_step (first | (go_at_call 137; exact calls_same _ (HH.out _))))
      refine wpQuiet_nil ?_
      intro wq hw'
      obtain ⟨⟨_, hwq⟩, hw''⟩ := hw'
      subst hw''
      go_wp2
      go_ret
      exact HSM.out _ _ hwq (by rw [HV.out, Bool.false_and]) rfl
end Go.Proofs.YtajelgjbgehahaaGreat

namespace Go.Proofs.YtajelgjbgehahaaGreat
open Go.RowKit

/-- the value of a visit of a node -/
@[reducible] def fvisV (d : PlanD) (g m : Nat) (x : NodeD) (s : Nat) : Value := .agg #[.slice d.heads.a d.heads.n d.heads.c, .slice d.mta.a d.mta.n d.mta.c, .slice d.states.a d.states.n d.states.c, .slice d.acts.a d.acts.n d.acts.c, .slice d.tabs.a d.tabs.n d.tabs.c, .slice d.nodes.a d.nodes.n d.nodes.c, .slice d.out.a d.out.n d.out.c, .slice (some ⟨g, 0, none⟩) m m, .int .i64 x.kind, .int .i64 x.n, .slice x.e.a x.e.n x.e.c, .int .i64 x.yes, .int .i64 x.no, .int .u64 (s : Int)]

@[reducible] def fvisA (d : PlanD) (g m : Nat) (x : NodeD) (s : Nat) : Array Value := #[.slice d.heads.a d.heads.n d.heads.c, .slice d.mta.a d.mta.n d.mta.c, .slice d.states.a d.states.n d.states.c, .slice d.acts.a d.acts.n d.acts.c, .slice d.tabs.a d.tabs.n d.tabs.c, .slice d.nodes.a d.nodes.n d.nodes.c, .slice d.out.a d.out.n d.out.c, .slice (some ⟨g, 0, none⟩) m m, .int .i64 x.kind, .int .i64 x.n, .slice x.e.a x.e.n x.e.c, .int .i64 x.yes, .int .i64 x.no, .int .u64 (s : Int)]

/-- the visit as it lies -/
def VisF (d : PlanD) (g m : Nat) (x : NodeD) (s : Nat) (b : Nat) (w : World) : Prop := ∀ i v, (fvisA d g m x s)[i]? = some v → w.cell? ⟨b, i, none⟩ = some v

theorem visF_new (d : PlanD) (g m : Nat) (x : NodeD) (s : Nat) (w : World) : VisF d g m x s w.heap.size (w.alloc (.cells (fvisA d g m x s) 177)) := fun _ _ h => (World.cell?_alloc_at _ _ _ _ rfl).trans h

theorem VisF.step {d : PlanD} {g m : Nat} {x : NodeD} {s b : Nat} {w w' : World} (h : VisF d g m x s b w) (hb : Below w.heap.size w w') : VisF d g m x s b w' := fun i v hv => cell_keep (h i v hv) hb

theorem VisF.but {d : PlanD} {g m : Nat} {x : NodeD} {s b q : Nat} {w w' : World} (h : VisF d g m x s b w) (hb : But q w w') (hn : b ≠ q) : VisF d g m x s b w' := fun i v hv => hb.cell hn (h i v hv)

theorem VisF.all {d : PlanD} {g m : Nat} {x : NodeD} {s b : Nat} {w : World} (h : VisF d g m x s b w) :
    (w.cell? ⟨b, 0, none⟩ = some (.slice d.heads.a d.heads.n d.heads.c) ∧ w.cell? ⟨b, 1, none⟩ = some (.slice d.mta.a d.mta.n d.mta.c) ∧ w.cell? ⟨b, 2, none⟩ = some (.slice d.states.a d.states.n d.states.c) ∧ w.cell? ⟨b, 3, none⟩ = some (.slice d.acts.a d.acts.n d.acts.c) ∧ w.cell? ⟨b, 4, none⟩ = some (.slice d.tabs.a d.tabs.n d.tabs.c) ∧ w.cell? ⟨b, 5, none⟩ = some (.slice d.nodes.a d.nodes.n d.nodes.c) ∧ w.cell? ⟨b, 6, none⟩ = some (.slice d.out.a d.out.n d.out.c) ∧ w.cell? ⟨b, 7, none⟩ = some (.slice (some ⟨g, 0, none⟩) m m)) ∧
    (w.cell? ⟨b, 8, none⟩ = some (.int .i64 x.kind) ∧ w.cell? ⟨b, 9, none⟩ = some (.int .i64 x.n) ∧ w.cell? ⟨b, 10, none⟩ = some (.slice x.e.a x.e.n x.e.c) ∧ w.cell? ⟨b, 11, none⟩ = some (.int .i64 x.yes) ∧ w.cell? ⟨b, 12, none⟩ = some (.int .i64 x.no) ∧ w.cell? ⟨b, 13, none⟩ = some (.int .u64 (s : Int))) :=
  ⟨⟨h 0 _ rfl, h 1 _ rfl, h 2 _ rfl, h 3 _ rfl, h 4 _ rfl, h 5 _ rfl, h 6 _ rfl, h 7 _ rfl⟩, h 8 _ rfl, h 9 _ rfl, h 10 _ rfl, h 11 _ rfl, h 12 _ rfl, h 13 _ rfl⟩

def DoF (g : Nat) (ok : Bool) (A : List Nat) (w : World) (e : Ending) (w' : World) : Prop := e = .returned (.bool ok) ∧ But g w w' ∧ (ok = true → AhU g A w')

theorem dkeep {w w' : World} {b ag ao : Nat} {v0 v1 u0 u1 : Value} (h : w.cell? ⟨b, 3, none⟩ = some v0 ∧ w.cell? ⟨b, 13, none⟩ = some v1 ∧ w.cell? ⟨ag, ao, none⟩ = some u0 ∧ w.cell? ⟨ag, ao + 1, none⟩ = some u1) (k : Below w.heap.size w w') : w'.cell? ⟨b, 3, none⟩ = some v0 ∧ w'.cell? ⟨b, 13, none⟩ = some v1 ∧ w'.cell? ⟨ag, ao, none⟩ = some u0 ∧ w'.cell? ⟨ag, ao + 1, none⟩ = some u1 :=
  ⟨cell_keep h.1 k, cell_keep h.2.1 k, cell_keep h.2.2.1 k, cell_keep h.2.2.2 k⟩

set_option maxHeartbeats 16000000 in
set_option maxRecDepth 20000 in
theorem fdo_any (d : PlanD) (x : NodeD) (s k y c : Nat) (a : ActD) {g m : Nat} {A : List Nat} {w : World} (hl : d.lie w) (ha : AhU g A w) (hy : x.yes = (y : Int)) (hym : y < m) (hA : A[y]? = some c) (hcl : c < 2 ^ 64) (hs : s < 2 ^ 64) (hk : k < d.acts.n) (hx : d.al[k]? = some a) (ho : ∀ o ∈ a.p.os, DeedSix o) (hlen : a.p.os.length ≤ 5) :
    Calls Tryz.prog 107 #[fvisV d g m x s, .int .i64 (k : Int)] w (DoF g (actOk s a.p.os) (A.set y (c &&& actTo s a.p.os)) w) := by
  obtain ⟨ag, ao, a', ea, hx', hp⟩ := row_at hl.al hk
  obtain rfl : a = a' := by rw [hx] at hx'; exact Option.some.inj hx'
  obtain ⟨⟨k0, _⟩, ⟨k1, _⟩, _, hops⟩ := hp
  have hon : a.ops.n ≤ 5 := by have h1 := hops.1; simp only [ActD.p, List.length_map] at hlen; omega
  obtain ⟨W1, hW⟩ : ∃ W1, W1 = w.alloc (.cells (fvisA d g m x s) 177) := ⟨_, rfl⟩
  obtain ⟨b, hb⟩ : ∃ b, b = w.heap.size := ⟨_, rfl⟩
  have b1 : Below w.heap.size w W1 := by rw [hW]; exact bl_alloc (Below.refl _ _)
  have hv1 : VisF d g m x s b W1 := by rw [hW, hb]; exact visF_new d g m x s w
  obtain ⟨⟨_, _, _, z3, _, _, _, _⟩, _, _, _, _, _, z13⟩ := hv1.all
  rw [ea] at z3
  have q0 := cell_keep k0 b1
  have q1 := cell_keep k1 b1
  have hki : (k : Int) < (d.acts.n : Int) := by omega
  have hk0 : (0 : Int) ≤ (k : Int) := by omega
  have HV1 := hid hv1
  have HB1 := hid b1
  have HA := hid ha
  have HL := hid hl
  have HOP := hid hops
  have HO := hid ho
  have HS := hid hs
  have HLE := hid hlen
  have HAC := hid hA
  have EW := hid hW
  have EB := hid hb
  have HY := hid hy
  have hbl : b < W1.heap.size := World.block_lt_of_cell? _ _ z13
  have hgl : g < w.heap.size := ha.lt
  have HBW : Hid (w.heap.size ≤ b ∧ g < w.heap.size) := ⟨by omega, ha.lt⟩
  have HAE : Hid (d.acts.a = some ⟨ag, ao, none⟩) := ea
  clear hl ha hs hx hx' ho hlen hops hW hb b1 hv1 k0 k1 ea hA hy hk hgl
  go_enter Tryz.func107, Tryz.ntmps107
  go_wp2_with fail
  rw [← EW.out, ← EB.out]
  go_region_held3 (fun w' => w'.cell? ⟨b, 3, none⟩ = some (.slice (some ⟨ag, ao, none⟩) d.acts.n d.acts.c) ∧ w'.cell? ⟨b, 13, none⟩ = some (.int .u64 (s : Int)) ∧ w'.cell? ⟨ag, ao + k * 2, none⟩ = some (.slice a.w.a a.w.n a.w.c) ∧ w'.cell? ⟨ag, ao + k * 2 + 1, none⟩ = some (.slice a.ops.a a.ops.n a.ops.c))
    (first
      | (go_split_ands; with_reducible exact dkeep ⟨by assumption, by assumption, by assumption, by assumption⟩ (bl_alloc (Below.refl _ _)))
      | go_keep)
    (fail)
  obtain ⟨W2, hW2⟩ : ∃ W2, W2 = (W1.alloc (.cells #[.slice a.w.a a.w.n a.w.c, .slice a.ops.a a.ops.n a.ops.c, .int .u64 (s : Int)] 252)).drew := ⟨_, rfl⟩
  obtain ⟨q, hq⟩ : ∃ q, q = W1.heap.size := ⟨_, rfl⟩
  rw [← hW2, ← hq]
  have b2 : Below W1.heap.size W1 W2 := by rw [hW2]; exact (bl_alloc (Below.refl _ _)).drew
  have d1 : W2.cell? ⟨q, 1, none⟩ = some (.slice a.ops.a a.ops.n a.ops.c) := by rw [hW2, hq]; exact (World.cell?_alloc_at _ _ _ _ rfl).trans rfl
  have d2 : W2.cell? ⟨q, 2, none⟩ = some (.int .u64 (s : Int)) := by rw [hW2, hq]; exact (World.cell?_alloc_at _ _ _ _ rfl).trans rfl
  have d3 : W2.frozen? ⟨q, 2, none⟩ = false := by rw [hW2, hq]; exact World.frozen?_alloc_at _ _ _ _ rfl
  have HV2 := hid (HV1.out.step b2)
  have HB2 := hid (bl_step HB1.out b2)
  have hbq : b ≠ q := by omega
  have HQ : Hid (w.heap.size ≤ q) := by have := HBW.out.1; show w.heap.size ≤ q; omega
  have HD23 : Hid (W2.cell? ⟨q, 2, none⟩ = some (.int .u64 (s : Int)) ∧ W2.frozen? ⟨q, 2, none⟩ = false) := ⟨d2, d3⟩
  have HST : Hid (∀ j, actTo s (a.p.os.take j) < 2 ^ 64) := fun j => actTo_lt HS.out fun o h e => by
    have := (HO.out o (List.mem_of_mem_take h)).head (by omega)
    omega
  obtain ⟨ea2, ee2⟩ : ∃ ea2, a.ops.a = ea2 := ⟨_, rfl⟩
  have EE := hid ee2
  rw [ee2] at d1
  rename_i hHeld
  clear hHeld hW2 hq b2 z3 z13 q0 q1 HB1 HV1 d2 d3 EW EB hbl hki hk0 ee2 HAE
  go_wp2
  go_loopw [22, 7] (fun qv _ wr => ∃ j t : Nat, j ≤ a.ops.n ∧ qv = .int .i64 j ∧ Hid (t = actTo s (a.p.os.take j)) ∧ Hid (actOk s a.p.os = actOk t (a.p.os.drop j)) ∧ Hid (wr.cell? ⟨q, 2, none⟩ = some (.int .u64 (t : Int)) ∧ wr.frozen? ⟨q, 2, none⟩ = false) ∧ Hid (But q W2 wr)) (fun qv _ _ => a.ops.n - (intOf qv).toNat)
  case atStart => exact ⟨0, s, Nat.zero_le _, rfl, rfl, rfl, HD23, But.refl _ _⟩
  case round =>
    obtain ⟨j, t, hj, rfl, HT, HG, HC, HBJ⟩ := hrel
    clear HD23
    have HBW2 : Hid (Below w.heap.size w wr) := HB2.out.trans (HBJ.out.low.mono HQ.out)
    by_cases hlt : j < a.ops.n
    · obtain ⟨og, oo, o, ea', hxo, hpo⟩ := row_at (HOP.out.step OpD.keeps HBW2.out) hlt
      obtain rfl : ea2 = some ⟨og, oo, none⟩ := by rw [← EE.out]; exact ea'
      obtain ⟨⟨c0, _⟩, ⟨c1, _⟩, ⟨c2, _⟩, ⟨c3, _⟩, ⟨c4, _⟩, hes⟩ := hpo
      have hji : (j : Int) < (a.ops.n : Int) := by omega
      have hj0 : (0 : Int) ≤ (j : Int) := by omega
      have hxp : a.p.os[j]? = some o.p := by show (a.os.map OpD.p)[j]? = _; rw [List.getElem?_map, hxo]; rfl
      have hql : q < wr.heap.size := World.block_lt_of_cell? _ _ HC.out.1
      have HDE : Hid (∀ ob, Calls Tryz.prog 136 #[.pointer (some ⟨q, 0, none⟩), .agg #[.int .i64 o.kind, .int .i64 o.r.h, .int .i64 o.r.f, .int .i64 o.head, .slice o.e.a o.e.n o.e.c]] (wr.alloc ob) (DeedDone q t o.p (wr.alloc ob))) := fun ob => by
        have bo : Below wr.heap.size wr (wr.alloc ob) := bl_alloc (Below.refl _ _)
        exact fdeed_any q t o _ (cell_keep HC.out.1 bo) ((bo.frozen (p := ⟨q, 2, none⟩) hql).trans HC.out.2) (by rw [HT.out]; exact HST.out j) (HO.out _ (List.mem_of_getElem? hxp)) (hes.step PushD.keeps bo)
      have HTN : Hid (deedTo t o.p = actTo s (a.p.os.take (j + 1))) := by show _ = _; rw [actTo_take hxp, ← HT.out]
      have HGN : Hid (actOk s a.p.os = (deedOk t o.p && actOk (deedTo t o.p) (a.p.os.drop (j + 1)))) := by show _ = _; rw [HG.out, actOk_drop hxp]
      have HBN : Hid (∀ ob, But q W2 (wr.alloc ob)) := fun ob => HBJ.out.trans (But.of (bl_alloc (Below.refl _ _)) (Nat.le_of_lt hql))
      clear hxo hxp hes ea' HG HT HC HBJ HBW2
      go_wp2_with fail
      refine (HDE.out _).mono ?_
      rintro e w1 ⟨rfl, hb1, hc1, hf1⟩
      have HB3 := hid ((HBN.out _).trans hb1)
      have HC3 : Hid (w1.cell? ⟨q, 2, none⟩ = some (.int .u64 (deedTo t o.p : Nat)) ∧ w1.frozen? ⟨q, 2, none⟩ = false) := ⟨hc1, hf1⟩
      clear HDE HBN hb1 hc1 hf1 c0 c1 c2 c3 c4 hql
      generalize deedTo t o.p = t' at *
      generalize deedOk t o.p = B at *
      cases B with
      | true =>
        have HG2 : Hid (actOk s a.p.os = actOk t' (a.p.os.drop (j + 1))) := by show _ = _; rw [HGN.out, Bool.true_and]
        clear HGN
        go_wp2
        go_roundw
        case rel => exact ⟨j + 1, t', by omega, by go_num, HTN, HG2, HC3, HB3⟩
        case measure => simp [intOf]; omega
      | false =>
        have HE : Hid (DoF g (actOk s a.p.os) (A.set y (c &&& actTo s a.p.os)) w (.returned (.bool false)) w1) := by
          have e : actOk s a.p.os = false := by rw [HGN.out, Bool.false_and]
          refine ⟨by rw [e], But.of (HB2.out.trans (HB3.out.low.mono HQ.out)) (Nat.le_of_lt HBW.out.2), fun h => ?_⟩
          rw [e] at h; cases h
        clear HGN HTN HC3 HB3
        go_wp2
        go_ret
        exact HE.out
    · have hji : ¬ (j : Int) < (a.ops.n : Int) := by omega
      have ej : a.p.os.length = a.ops.n := by simp only [ActD.p, List.length_map]; exact HOP.out.1
      have HT2 : Hid (t = actTo s a.p.os) := by show _ = _; rw [HT.out, List.take_of_length_le (by omega)]
      have HG2 : Hid (actOk s a.p.os = true) := by
        show _ = _
        rw [HG.out, List.drop_of_length_le (by omega)]
        rfl
      obtain ⟨⟨y0, y1, y2, y3, y4, y5, y6, y7⟩, _, _, _, y11, _, _⟩ := (HV2.out.but HBJ.out hbq).all
      have z2 := HC.out.1
      have HLD : Hid (Calls Tryz.prog 44 #[fwkV d g m, .int .i64 x.yes, .int .u64 (t : Int)] wr (LeadF g (A.set y (c &&& t)) wr)) := by
        have := flead_any d y t c (HA.out.step HBW2.out) hym HAC.out (by rw [HT2.out]; have := HST.out a.p.os.length; rwa [List.take_length] at this) hcl
        rw [← HY.out] at this
        exact this
      have HED : Hid (∀ w', LeadF g (A.set y (c &&& t)) wr (.returned (.tuple #[])) w' → DoF g (actOk s a.p.os) (A.set y (c &&& actTo s a.p.os)) w (.returned (.bool true)) w') := fun w' h => by
        refine ⟨by rw [HG2.out], (But.of HBW2.out (Nat.le_of_lt HBW.out.2)).trans h.2.2, fun _ => ?_⟩
        rw [← HT2.out]
        exact h.2.1
      clear HT HG HC HBJ HBW2 HT2 HG2 HST
      unfold fwkV at HLD
      go_wp2_with fail
      refine HLD.out.mono ?_
      rintro e w1 ⟨rfl, h1, h2⟩
      have HE := hid (HED.out w1 ⟨rfl, h1, h2⟩)
      clear HLD HED h1 h2 y0 y1 y2 y3 y4 y5 y6 y7 y11 z2
      go_wp2
      go_ret
      exact HE.out
end Go.Proofs.YtajelgjbgehahaaGreat

namespace Go.Proofs.YtajelgjbgehahaaGreat
open Go.RowKit

set_option maxHeartbeats 4000000 in
set_option maxRecDepth 20000 in
theorem mul64_one (m : Nat) (h : m ≤ 11) (w : World) : Calls Tryz.prog 105 #[.int .u64 1, .int .u64 (m : Int)] w fun e w' => e = .returned (.tuple #[.int .u64 0, .int .u64 (m : Int)]) ∧ w' = w := by
  rcases (show m = 0 ∨ m = 1 ∨ m = 2 ∨ m = 3 ∨ m = 4 ∨ m = 5 ∨ m = 6 ∨ m = 7 ∨ m = 8 ∨ m = 9 ∨ m = 10 ∨ m = 11 by omega) with rfl | rfl | rfl | rfl | rfl | rfl | rfl | rfl | rfl | rfl | rfl | rfl
  all_goals
    clear h
    go_enter Tryz.func105, Tryz.ntmps105
    go_wp2
    go_ret2
    exact ⟨rfl, rfl⟩

set_option maxHeartbeats 4000000 in
set_option maxRecDepth 20000 in
theorem mul_one (m : Nat) (h : m ≤ 11) (w : World) : Calls Tryz.prog 75 #[.int .u64 1, .int .u64 (m : Int)] w fun e w' => e = .returned (.tuple #[.int .u64 0, .int .u64 (m : Int)]) ∧ w' = w := by
  have HM := hid (mul64_one m h)
  clear h
  go_enter Tryz.func75, Tryz.ntmps75
  go_wp2_with (go_at_call 105; refine (HM.out _).mono ?_; rintro e w' ⟨rfl, rfl⟩)
  go_ret2
  exact ⟨rfl, rfl⟩

theorem heap_last (w : World) (o : Obj) : (w.alloc o).heap[w.heap.size]? = some o := by
  show (w.heap.push o)[w.heap.size]? = some o
  simp

/-- a row of numbers that is written in place -/
def RowU (w : World) (g : Nat) (cur : List Value) : Prop := w.heap[g]? = some (.cells cur.toArray 22 (0, 0))

theorem RowU.cell {w : World} {g : Nat} {cur : List Value} (h : RowU w g cur) (j : Nat) : w.cell? ⟨g, j, none⟩ = cur[j]? := by
  unfold RowU at h
  simp [World.cell?, h]

theorem Tryz.szU64 : (Tryz.prog.info? 22).map (·.size) = some 1 := by kernel_rfl
theorem Tryz.infoU64 : (Tryz.prog.info? 22).map (fun i => (i.zero, i.size, i.bytes)) = some (some (.int .u64 0), 1, 8) := by kernel_rfl

theorem run_copyU {w : World} {g : Nat} {cur : List Value} (hg : RowU w g cur) (ty : TypeId) (o dLen dCap : Nat) (a : Addr) (sLen sCap : Nat) (cs : List Value) (hn : cs.length = Nat.min sLen dLen)
    (hsrc : ∀ j v, cs[j]? = some v → w.cell? (a.add j) = some v) (hfit : o + cs.length ≤ cur.length) (h1 : ∀ v ∈ cs, v.oneCell' = true) :
    (Builtin.copy_ #[53, 53] ty #[.slice (some ⟨g, o, none⟩) dLen dCap, .slice (some a) sLen sCap]).run Tryz.prog w = .ok (goInt cs.length) (w.setRow g (cur.take o ++ cs ++ cur.drop (o + cs.length)).toArray) := by
  have := run_copy_row (P := Tryz.prog) w 53 53 ty 22 g o dLen dCap a sLen sCap cur.toArray 22 cs Tryz.underlying53 Tryz.szU64 hg hn hsrc (by simpa using hfit) h1
  simpa using this

/-- the same as one step of a region that draws -/
theorem step_copyU {ops : Array Oper} {o : Oper} {a : Act} {w : World} {K : Act → World → Prop} {Q : Exit → Act → World → Prop} {E : Prop} (hgd : o.guard = none) (d x : Operand)
    (hop : o.op = Op.call { callee := Callee.builtin Builtin.copy, args := #[d, x], argTypes := #[53, 53] })
    {g : Nat} {cur : List Value} (hg : RowU w g cur) (of dLen dCap : Nat) (ad : Addr) (sLen sCap : Nat) (cs : List Value) (hd : a.eval d = .slice (some ⟨g, of, none⟩) dLen dCap) (hx : a.eval x = .slice (some ad) sLen sCap) (hn : cs.length = Nat.min sLen dLen)
    (hsrc : ∀ j v, cs[j]? = some v → w.cell? (ad.add j) = some v) (hfit : of + cs.length ≤ cur.length) (h1 : ∀ v ∈ cs, v.oneCell' = true)
    (h : ∀ w', RowU w' g (cur.take of ++ cs ++ cur.drop (of + cs.length)) → w.grownBy w' (some g) → K (a.put o.dst (goInt cs.length)) w') :
    if Region.wanted o (yielded ops a.tmps) = true then Oper.wp Tryz.prog o a w K Q else E := by
  have hw : Region.wanted o (yielded ops a.tmps) = true := by simp [Region.wanted, hgd]
  rw [if_pos hw]
  have hr := run_copyU hg o.type of dLen dCap ad sLen sCap cs hn hsrc hfit h1
  unfold Oper.wp execOp
  simp only [hop, resolve, invoke, builtin, Sem.run_bind, Sem.run_pure, Result.andThen_ok, List.map_toArray, List.map_cons, List.map_nil, hd, hx, hr]
  exact h _ (setRow_heap w g _ _ _ _ hg) ⟨rfl, rfl, rfl, by rw [setRow_size]; exact Nat.le_refl _, fun k _ hk => setRow_other w g k _ (fun e => hk (by rw [e]))⟩

/-- n numbers are there, the others are 0 -/
def repL (n m : Nat) : List Value := List.replicate n (.int .u64 18446744073709551615) ++ List.replicate (m - n) (.int .u64 0)

theorem repL_one (n m : Nat) : ∀ v ∈ repL n m, v.oneCell' = true := by
  intro v hv
  rcases List.mem_append.1 hv with h | h
  · rw [(List.mem_replicate.1 h).2]; rfl
  · rw [(List.mem_replicate.1 h).2]; rfl

theorem repL_more (n m c : Nat) (h : n + c ≤ m) : (repL n m).take n ++ List.replicate c (.int .u64 18446744073709551615) ++ (repL n m).drop (n + c) = repL (n + c) m := by
  unfold repL
  rw [List.take_append_of_le_length (by simp), List.take_of_length_le (by simp), List.drop_append, List.drop_of_length_le (by simp), List.nil_append, List.drop_replicate, List.length_replicate, List.replicate_append_replicate]
  congr 2
  omega

theorem repL_len (n m : Nat) (h : n ≤ m) : (repL n m).length = m := by unfold repL; simp; omega

theorem repL_at (n m j : Nat) (h : j < n) : (repL n m)[j]? = some (.int .u64 18446744073709551615) := by
  unfold repL
  rw [List.getElem?_append_left (by simpa using h), List.getElem?_replicate, if_pos h]

def RepDone (m : Nat) (w : World) (e : Ending) (w' : World) : Prop := ∃ g, e = .returned (.slice (some ⟨g, 0, none⟩) m m) ∧ w.heap.size ≤ g ∧ AhU g (List.replicate m onesN) w' ∧ Below w.heap.size w w'

theorem rep_end {m g : Nat} {w w' : World} (hr : RowU w' g (repL m m)) (hg : w.heap.size ≤ g) (hb : Below w.heap.size w w') : RepDone m w (.returned (.slice (some ⟨g, 0, none⟩) m m)) w' := by
  refine ⟨g, rfl, hg, ⟨fun i s hs => ?_, fun o => ?_, ?_⟩, hb⟩
  · rw [List.getElem?_replicate] at hs
    by_cases h : i < m
    · rw [if_pos h] at hs
      cases hs
      rw [hr.cell, repL_at m m i h]
      rfl
    · rw [if_neg h] at hs; cases hs
  · unfold RowU at hr
    simp [World.frozen?, hr]
  · exact (Array.getElem?_eq_some_iff.1 hr).1

set_option maxHeartbeats 8000000 in
set_option maxRecDepth 20000 in
theorem repeat_any (xb m : Nat) (w : World) (hx : w.cell? ⟨xb, 0, none⟩ = some (.int .u64 18446744073709551615)) (h1 : 1 ≤ m) (hm : m ≤ 11) :
    Calls Tryz.prog 43 #[.slice (some ⟨xb, 0, none⟩) 1 1, .int .i64 (m : Int)] w (RepDone m w) := by
  obtain ⟨i0, hi, hz0, hz1, hz2⟩ := info_parts Tryz.infoU64
  have hmk : ∀ W : World, (Instr.makeSlice 53 (.int .i64 (m : Int)) (.int .i64 (m : Int))).run Tryz.prog W = .ok (.slice (some ⟨W.heap.size, 0, none⟩) m m) (W.alloc (.cells (Array.replicate m (.int .u64 0)) 22)) := fun W => by
    have h := run_make (P := Tryz.prog) W 53 22 i0 _ Tryz.underlying53 hi hz0 .i64 .i64 (m : Int) (m : Int) (by omega) (by omega) (by rw [hz2]; omega) (by omega)
    rw [show ((m : Int)).toNat = m by omega, hz1] at h
    have emk : madeCells #[Value.int .u64 0] m = Array.replicate m (Value.int .u64 0) := Array.ext' (by rw [toList_madeCells_one]; simp)
    rw [← emk]
    rw [Nat.mul_one] at h
    exact h
  obtain ⟨W1, hW⟩ : ∃ W1, W1 = w.alloc (.cells (Array.replicate m (.int .u64 0)) 22) := ⟨_, rfl⟩
  obtain ⟨g, hg⟩ : ∃ g, g = w.heap.size := ⟨_, rfl⟩
  have b1 : Below w.heap.size w W1 := by rw [hW]; exact bl_alloc (Below.refl _ _)
  have R0 : RowU W1 g (List.replicate m (.int .u64 0)) := by
    unfold RowU
    rw [hW, hg, heap_last w _]
    simp
  have hcp := run_copyU R0 3 0 m m ⟨xb, 0, none⟩ 1 1 [.int .u64 18446744073709551615] (by simp [Nat.min_def]; omega) (fun j v hj => by
    obtain rfl : j = 0 := by
      have := (List.getElem?_eq_some_iff.1 hj).1
      simpa using this
    simp only [List.getElem?_cons_zero, Option.some.injEq] at hj
    subst hj
    exact cell_keep hx b1) (by simp; omega) (by simp [Value.oneCell'])
  obtain ⟨W2, hW2⟩ : ∃ W2, W2 = W1.setRow g (repL 1 m).toArray := ⟨_, rfl⟩
  have e1 : List.take 0 (List.replicate m (Value.int .u64 0)) ++ [Value.int .u64 18446744073709551615] ++ List.drop (0 + [Value.int .u64 18446744073709551615].length) (List.replicate m (Value.int .u64 0)) = repL 1 m := by
    simp [repL]
  rw [e1, ← hW2] at hcp
  have hcp2 : (Builtin.copy_ #[53, 53] 3 #[.slice (some ⟨g, 0, none⟩) m m, .slice (some ⟨xb, 0, none⟩) 1 1]).run Tryz.prog W1 = .ok (.int .i64 1) W2 := hcp
  clear hcp
  have R2 : RowU W2 g (repL 1 m) := by rw [hW2]; exact setRow_heap W1 g _ _ _ _ R0
  have b2 : Below w.heap.size w W2 := by
    rw [hW2]
    exact b1.grown ⟨rfl, rfl, rfl, by rw [setRow_size]; exact Nat.le_refl _, fun k _ hk => setRow_other W1 g k _ (fun e => hk (by rw [e]))⟩ b1.size (by intro k hk; simp only [Option.some.injEq] at hk; omega)
  have HR2 := hid R2
  have HB2 := hid b2
  have HGW : Hid (w.heap.size ≤ g) := by show w.heap.size ≤ g; omega
  have HMU := hid (mul_one m hm)
  have EW := hid hW
  have EG := hid hg
  have hm0 : ¬ (m : Int) < 0 := by omega
  have hcv : IntKind.u64.wrap (m : Int) = (m : Int) := by simp [IntKind.wrap, IntKind.bits, IntKind.signed]; omega
  have hcw : IntKind.i64.wrap (m : Int) = (m : Int) := wrap_small _ (by omega) (by omega)
  have hgt : ¬ (9223372036854775807 : Int) < (m : Int) := by omega
  rw [hW, hg] at hcp2
  clear hi hz0 hz1 hz2 hW hg b1 R0 e1 hW2 R2 b2 hx
  go_enter Tryz.func43, Tryz.ntmps43
  go_wp2_with (go_at_call 75; refine (HMU.out _).mono ?_; rintro e w' ⟨rfl, rfl⟩)
  rw [← EG.out]
  clear HMU hmk EW EG hm0 hcv hcw hcp2
  go_loopw [8] (fun q wr => ∃ n : Nat, 1 ≤ n ∧ n ≤ m ∧ q = .int .i64 n ∧ Hid (RowU wr g (repL n m)) ∧ Hid (Below w'.heap.size w' wr)) (fun q _ => m - (intOf q).toNat)
  case atStart => exact ⟨1, Nat.le_refl _, h1, rfl, HR2, HB2⟩
  case round =>
    obtain ⟨n, hn1, hn, rfl, HR, HB⟩ := hrel
    clear HR2 HB2
    by_cases hlt : n < m
    · obtain ⟨k, hk⟩ : ∃ k, k = Nat.min n (m - n) := ⟨_, rfl⟩
      have hnk : n + k ≤ m := by have : k ≤ m - n := by rw [hk]; exact Nat.min_le_right _ _
                                 omega
      have hk0 : 0 < k := by rw [hk]; exact Nat.lt_min.2 ⟨by omega, by omega⟩
      have R1 : RowU wr.drew g (repL n m) := HR.out
      have hni : (n : Int) < (m : Int) := by omega
      have hni2 : (n : Int) ≤ (m : Int) := by omega
      have hn0 : (0 : Int) ≤ (n : Int) := by omega
      have hmn : ¬ m = n := by omega
      have hwk : IntKind.i64.wrap ((n : Int) + (k : Int)) = ((n + k : Nat) : Int) := by rw [wrap_small _ (by omega) (by omega)]; omega
      have hcl : (List.replicate k (Value.int .u64 18446744073709551615)).length = Nat.min n (m - n) := by rw [List.length_replicate, hk]
      have HCL := hid hcl
      have hsrc : ∀ j v, (List.replicate k (Value.int .u64 18446744073709551615))[j]? = some v → wr.drew.cell? ((⟨g, 0, none⟩ : Addr).add j) = some v := fun j v hj => by
        rw [List.getElem?_replicate] at hj
        by_cases e : j < k
        · rw [if_pos e] at hj
          cases hj
          rw [Addr.add_lit, Nat.zero_add, R1.cell, repL_at n m j (by have : k ≤ n := by rw [hk]; exact Nat.min_le_left _ _
                                                                     omega)]
        · rw [if_neg e] at hj; cases hj
      have HSR := hid hsrc
      have hfit : n + (List.replicate k (Value.int .u64 18446744073709551615)).length ≤ (repL n m).length := by rw [List.length_replicate, repL_len n m hn]; exact hnk
      have HFT := hid hfit
      have hone : ∀ v ∈ List.replicate k (Value.int .u64 18446744073709551615), v.oneCell' = true := fun v hv => by rw [(List.mem_replicate.1 hv).2]; rfl
      have hrn : (repL n m).take n ++ List.replicate k (.int .u64 18446744073709551615) ++ (repL n m).drop (n + (List.replicate k (Value.int .u64 18446744073709551615)).length) = repL (n + k) m := by rw [List.length_replicate]; exact repL_more n m k hnk
      have hcy := run_copyU R1 3 n (m - n) (m - n) ⟨g, 0, none⟩ n m (List.replicate k (Value.int .u64 18446744073709551615)) hcl hsrc hfit hone
      rw [hrn, List.length_replicate] at hcy
      obtain ⟨W3, hW3⟩ : ∃ W3, W3 = wr.drew.setRow g (repL (n + k) m).toArray := ⟨_, rfl⟩
      have HR3 : Hid (RowU W3 g (repL (n + k) m)) := by rw [hW3]; exact setRow_heap wr.drew g _ _ _ _ R1
      have HB3 : Hid (Below w'.heap.size w' W3) := by
        rw [hW3]
        exact (HB.out.drew).grown ⟨rfl, rfl, rfl, by rw [setRow_size]; exact Nat.le_refl _, fun j _ hj => setRow_other wr.drew g j _ (fun e => hj (by rw [e]))⟩ HB.out.size (by intro j hj; simp only [Option.some.injEq] at hj; have := HGW.out; omega)
      rw [← hW3] at hcy
      have hcz : (Builtin.copy_ #[53, 53] 3 #[.slice (some ⟨g, n, none⟩) (m - n) (m - n), .slice (some ⟨g, 0, none⟩) n m]).run Tryz.prog wr.drew = .ok (.int .i64 (k : Int)) W3 := hcy
      clear hk hcl hsrc hfit HR hcy hrn hW3 R1 hone HB HCL HSR HFT
      go_wp2_with fail
      go_region_held3 (fun _ => 1 ≤ n) (exact hn1) (fail)
      all_goals
        clear hcz
        go_wp2
        go_roundw
        case rel => exact ⟨n + k, by omega, hnk, by go_num, HR3, HB3⟩
        case measure => simp [intOf]; omega
    · have e : n = m := by omega
      subst e
      have HE := hid (rep_end HR.out HGW.out HB.out)
      clear HR HB
      go_wp2
      go_ret
      exact HE.out
end Go.Proofs.YtajelgjbgehahaaGreat
