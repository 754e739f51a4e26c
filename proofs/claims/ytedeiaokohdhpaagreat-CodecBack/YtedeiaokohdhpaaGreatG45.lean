/- Texts of one chain, joined: WMath, WPar, ZLen. -/
import Derived.Test.YtedeiaokohdhpaaGreatG0
import Derived.Test.YtedeiaokohdhpaaGreatG39
import Derived.Test.YtedeiaokohdhpaaGreatG17
import Derived.Test.YtedeiaokohdhpaaGreatG42
namespace Go.Proofs.YtedeiaokohdhpaaGreat.Wk
structure Sets where
  must : Nat
  may : Nat
  least : Nat
  most : Nat
  there : Bool
def zero : Sets := ⟨0, 0, 0, 0, false⟩
structure IsAgg (P : Nat → Nat → Prop) (s : Sets) : Prop where
  th : s.there = true ↔ ∃ t b, P t b
  no : s.there = false → s = zero
  mu : s.there = true → ∀ k, s.must.testBit k = true ↔ ∀ t b, P t b → t.testBit k = true
  ma : s.there = true → ∀ k, s.may.testBit k = true ↔ ∃ t b, P t b ∧ t.testBit k = true
  bd : ∀ t b, P t b → s.least ≤ b ∧ b ≤ s.most
  le : s.there = true → ∃ t, P t s.least
  mo : s.there = true → ∃ t, P t s.most
theorem IsAgg.congr {P Q : Nat → Nat → Prop} {s : Sets} (h : IsAgg P s) (e : ∀ t b, P t b ↔ Q t b) : IsAgg Q s := by
  have : P = Q := by funext t b; exact propext (e t b)
  rw [← this]; exact h
theorem IsAgg.one {P : Nat → Nat → Prop} {s s' : Sets} (h : IsAgg P s) (h' : IsAgg P s') : s = s' := by
  cases ht : s.there with
  | false =>
    have h2 : s'.there = false := by
      cases h2 : s'.there with
      | false => rfl
      | true =>
        have := h.th.2 (h'.th.1 h2)
        rw [ht] at this; exact this.symm
    rw [h.no ht, h'.no h2]
  | true =>
    have h2 := h'.th.2 (h.th.1 ht)
    have e1 : s.must = s'.must := Nat.eq_of_testBit_eq fun k => Bool.eq_iff_iff.2 ((h.mu ht k).trans (h'.mu h2 k).symm)
    have e2 : s.may = s'.may := Nat.eq_of_testBit_eq fun k => Bool.eq_iff_iff.2 ((h.ma ht k).trans (h'.ma h2 k).symm)
    obtain ⟨t1, l1⟩ := h.le ht
    obtain ⟨t2, l2⟩ := h'.le h2
    obtain ⟨t3, l3⟩ := h.mo ht
    obtain ⟨t4, l4⟩ := h'.mo h2
    have a1 := (h.bd _ _ l2).1
    have a2 := (h'.bd _ _ l1).1
    have a3 := (h.bd _ _ l4).2
    have a4 := (h'.bd _ _ l3).2
    obtain ⟨a, b, c, d, e⟩ := s
    obtain ⟨a', b', c', d', e'⟩ := s'
    simp only at *
    simp only [Sets.mk.injEq]
    exact ⟨e1, e2, by omega, by omega, by rw [ht, h2]⟩
theorem IsAgg.none {P : Nat → Nat → Prop} (h : ∀ t b, ¬ P t b) : IsAgg P zero :=
  ⟨⟨fun e => absurd e (by decide), fun ⟨t, b, e⟩ => absurd e (h t b)⟩, fun _ => rfl, fun e => absurd e (by decide), fun e => absurd e (by decide), fun t b e => absurd e (h t b), fun e => absurd e (by decide), fun e => absurd e (by decide)⟩
structure Par where
  n : Nat
  hb : Nat → Nat
  sz : Nat → Nat
  lead : Nat → List Nat
  on : ∀ i j, i < n → j ∈ lead i → i < j ∧ j ≤ n
def Wy (p : Par) (j t b : Nat) : Prop := ∀ R : Nat → Nat → Nat → Prop, R 0 0 0 → (∀ i j t b, R i t b → i < p.n → j ∈ p.lead i → R j (t ||| p.hb i) (b + p.sz i)) → R j t b
theorem Wy.nil {p : Par} : Wy p 0 0 0 := fun _ h _ => h
theorem Wy.step {p : Par} {i j t b : Nat} (h : Wy p i t b) (hi : i < p.n) (hj : j ∈ p.lead i) : Wy p j (t ||| p.hb i) (b + p.sz i) := fun R h0 hs => hs i j t b (h R h0 hs) hi hj
def start (n : Nat) : List Sets := (List.replicate (n + 1) zero).set 0 ⟨0, 0, 0, 0, true⟩
theorem getD_set {A : List Sets} {i j : Nat} {x : Sets} (hi : i < A.length) : (A.set i x).getD j zero = if i = j then x else A.getD j zero := by
  simp only [List.getD_eq_getElem?_getD, List.getElem?_set]
  by_cases e : i = j
  · subst e
    simp [hi]
  · simp [e]
structure Way where
  st : Nat
  tk : Nat
  by_ : Nat
def succW (p : Par) (ld : Nat → List Nat) (w : Way) : List Way := if w.st = p.n then [] else (ld w.st).map fun j => ⟨j, w.tk ||| p.hb w.st, w.by_ + p.sz w.st⟩
def SameLead (p : Par) (ld : Nat → List Nat) : Prop := ∀ i, i < p.n → ∀ j, j ∈ ld i ↔ j ∈ p.lead i
def pot (n : Nat) (L : List Way) : Nat := (L.map fun w => 2 ^ (n + 1 - w.st)).sum
theorem pot_nodup : ∀ (k s : Nat) (l : List Nat), l.Nodup → (∀ j ∈ l, s < j ∧ j ≤ s + k) → (l.map fun j => 2 ^ (s + k + 1 - j)).sum + 2 ≤ 2 ^ (k + 1)
  | 0, s, l, _, h => by
    have : l = [] := List.eq_nil_iff_forall_not_mem.2 fun j hj => by have := h j hj; omega
    subst this
    exact Nat.le_refl 2
  | k + 1, s, l, hn, h => by
    have e2 : 2 ^ (k + 1 + 1) = 2 ^ (k + 1) + 2 ^ (k + 1) := by rw [Nat.pow_succ (n := 2) (m := k + 1)]; omega
    by_cases hs : s + 1 ∈ l
    · have hp := List.perm_cons_erase hs
      have hne := hn.erase (s + 1)
      have ih := pot_nodup k (s + 1) (l.erase (s + 1)) hne fun j hj => by
        have h1 := (hn.mem_erase_iff).1 hj
        have := h j h1.2
        have := h1.1
        omega
      have hsum := (hp.map fun j => 2 ^ (s + (k + 1) + 1 - j)).sum_nat
      rw [hsum, List.map_cons, List.sum_cons, show s + (k + 1) + 1 - (s + 1) = k + 1 by omega]
      rw [show s + 1 + k + 1 = s + (k + 1) + 1 by omega] at ih
      omega
    · have ih := pot_nodup k (s + 1) l hn fun j hj => by
        have := h j hj
        have : j ≠ s + 1 := fun e => hs (e ▸ hj)
        omega
      rw [show s + 1 + k + 1 = s + (k + 1) + 1 by omega] at ih
      omega
theorem pot_append (n : Nat) (L M : List Way) : pot n (L ++ M) = pot n L + pot n M := by simp [pot]
theorem pot_len {n : Nat} {L : List Way} (h : ∀ w ∈ L, w.st ≤ n) : L.length ≤ pot n L := by
  induction L with
  | nil => exact Nat.le_refl _
  | cons w L ih =>
    have h1 := ih fun v hv => h v (List.mem_cons_of_mem _ hv)
    have h2 : 0 < 2 ^ (n + 1 - w.st) := Nat.pos_of_ne_zero (by simp)
    simp only [pot, List.map_cons, List.sum_cons, List.length_cons] at h1 ⊢
    omega
theorem pot_succ {p : Par} {ld : Nat → List Nat} (hld : SameLead p ld) (hnd : ∀ i, (ld i).Nodup) {w : Way} (hw : w.st ≤ p.n) : pot p.n (succW p ld w) + 2 ≤ 2 ^ (p.n + 1 - w.st) := by
  unfold succW
  by_cases e : w.st = p.n
  · rw [if_pos e, e, show p.n + 1 - p.n = 1 by omega]
    exact Nat.le_refl 2
  · rw [if_neg e]
    have := pot_nodup (p.n - w.st) w.st (ld w.st) (hnd _) fun j hj => by
      have := p.on w.st j (by omega) ((hld w.st (by omega) j).1 hj)
      omega
    rw [show w.st + (p.n - w.st) + 1 = p.n + 1 by omega, show p.n - w.st + 1 = p.n + 1 - w.st by omega] at this
    simpa [pot, List.map_map, Function.comp_def] using this
structure Gone (p : Par) (ld : Nat → List Nat) (i : Nat) (L : List Way) : Prop where
  le : i ≤ L.length
  eq : L = ⟨0, 0, 0⟩ :: (L.take i).flatMap (succW p ld)
  st : ∀ w ∈ L, w.st ≤ p.n
  po : i + pot p.n (L.drop i) ≤ 2 ^ (p.n + 1)
theorem Gone.start (p : Par) (ld : Nat → List Nat) : Gone p ld 0 [⟨0, 0, 0⟩] :=
  ⟨Nat.zero_le _, rfl, fun w hw => by simp at hw; rw [hw]; exact Nat.zero_le _, by simp [pot]⟩
theorem Gone.len {p : Par} {ld : Nat → List Nat} {i : Nat} {L : List Way} (h : Gone p ld i L) : L.length ≤ 2 ^ (p.n + 1) := by
  have h1 := pot_len (n := p.n) (L := L.drop i) fun w hw => h.st w (List.mem_of_mem_drop hw)
  have h2 := h.po
  have h3 := h.le
  rw [List.length_drop] at h1
  omega
theorem Gone.next {p : Par} {ld : Nat → List Nat} (hld : SameLead p ld) (hnd : ∀ i, (ld i).Nodup) {i : Nat} {L : List Way} {w : Way} (h : Gone p ld i L) (hw : L[i]? = some w) : Gone p ld (i + 1) (L ++ succW p ld w) := by
  have hi : i < L.length := (List.getElem?_eq_some_iff.1 hw).1
  have hwe : L[i] = w := (List.getElem?_eq_some_iff.1 hw).2
  have hm : w ∈ L := hwe ▸ List.getElem_mem hi
  refine ⟨by simp; omega, ?_, fun v hv => ?_, ?_⟩
  · rw [List.take_append_of_le_length (by omega), List.take_add_one, hw]
    simp only [Option.toList_some, List.flatMap_append, List.flatMap_cons, List.flatMap_nil, List.append_nil]
    have := h.eq
    rw [← List.cons_append, ← this]
  · rcases List.mem_append.1 hv with hv | hv
    · exact h.st v hv
    · unfold succW at hv
      by_cases e : w.st = p.n
      · rw [if_pos e] at hv; simp at hv
      · rw [if_neg e, List.mem_map] at hv
        obtain ⟨j, hj, rfl⟩ := hv
        have := h.st w hm
        exact (p.on w.st j (by omega) ((hld w.st (by omega) j).1 hj)).2
  · have h1 := pot_succ hld hnd (h.st w hm)
    have h2 := h.po
    have e : L.drop i = w :: L.drop (i + 1) := by rw [List.drop_eq_getElem_cons hi, hwe]
    rw [e] at h2
    rw [List.drop_append_of_le_length (by omega), pot_append]
    simp only [pot, List.map_cons, List.sum_cons] at h2 h1 ⊢
    omega
theorem Gone.done {p : Par} {ld : Nat → List Nat} {i : Nat} {L : List Way} (h : Gone p ld i L) (e : i = L.length) : L = ⟨0, 0, 0⟩ :: L.flatMap (succW p ld) := by
  have := h.eq
  rwa [e, List.take_length] at this
theorem IsAgg.small {P : Nat → Nat → Prop} {s : Sets} {K B : Nat} (h : IsAgg P s) (hP : ∀ t b, P t b → t < 2 ^ K ∧ b ≤ B) : s.must < 2 ^ K ∧ s.may < 2 ^ K ∧ s.least ≤ B ∧ s.most ≤ B := by
  cases ht : s.there with
  | false =>
    rw [h.no ht]
    have : 0 < 2 ^ K := Nat.pos_of_ne_zero (by simp)
    exact ⟨this, this, Nat.zero_le _, Nat.zero_le _⟩
  | true =>
    obtain ⟨t0, b0, h0⟩ := h.th.1 ht
    obtain ⟨t1, h1⟩ := h.le ht
    obtain ⟨t2, h2⟩ := h.mo ht
    refine ⟨?_, ?_, (hP _ _ h1).2, (hP _ _ h2).2⟩
    · refine Nat.lt_pow_two_of_testBit _ fun k hk => ?_
      cases hb : s.must.testBit k with
      | false => rfl
      | true =>
        have := (h.mu ht k).1 hb t0 b0 h0
        rw [Nat.testBit_lt_two_pow (Nat.lt_of_lt_of_le (hP _ _ h0).1 (Nat.pow_le_pow_right (by decide) hk))] at this
        cases this
    · refine Nat.lt_pow_two_of_testBit _ fun k hk => ?_
      cases hb : s.may.testBit k with
      | false => rfl
      | true =>
        obtain ⟨t, b, hp, hx⟩ := (h.ma ht k).1 hb
        rw [Nat.testBit_lt_two_pow (Nat.lt_of_lt_of_le (hP _ _ hp).1 (Nat.pow_le_pow_right (by decide) hk))] at hx
        cases hx
end Go.Proofs.YtedeiaokohdhpaaGreat.Wk

namespace Go.Proofs.YtedeiaokohdhpaaGreat
open Go.RowKit
theorem partF_zero {num : Int} {many : Nat} {least most : Int} {c : Nat → Int} (h : (partF num many least most c).1 = 0) : least ≤ (many : Int) ∧ (many : Int) ≤ most ∧ ∀ n, n < many → c n = 0 := by
  have hf := partF_is num many least most c
  rw [h] at hf
  rcases hf with ⟨_, h2, _⟩ | ⟨h1, ⟨n, _, hc, _, h2, _⟩ | ⟨h2, _⟩⟩
  · exact absurd h2 (by decide)
  · exact absurd h2.symm hc
  · exact ⟨by omega, by omega, h2⟩
theorem chkGo_zero {p : PPlan} {cs : Nat → Nat → Int} : ∀ m, m ≤ 7 → (chkGo p cs m).1 = 0 → ∀ j, 7 - m ≤ j → j < 7 → (partF ((j : Int) + 1) (manyP p j) (leastOf j) (mostOf j) (cs j)).1 = 0
  | 0, _, _, j, h1, h2 => absurd h1 (by omega)
  | m + 1, hm, h, j, h1, h2 => by
    unfold chkGo at h
    by_cases hc : (partF (((6 - m : Nat) : Int) + 1) (manyP p (6 - m)) (leastOf (6 - m)) (mostOf (6 - m)) (cs (6 - m))).1 = 0
    · rw [if_neg (fun h => h hc)] at h
      by_cases e : j = 6 - m
      · subst e; exact hc
      · exact chkGo_zero m (by omega) h j (by omega) h2
    · rw [if_pos hc] at h
      exact absurd h hc
theorem chk_zero {p : PPlan} (h : (chkP p).1 = 0) (j : Nat) (hj : j < 7) : leastOf j ≤ (manyP p j : Int) ∧ (manyP p j : Int) ≤ mostOf j ∧ ∀ n, n < manyP p j → codeP p j n = 0 := partF_zero (chkGo_zero 7 (Nat.le_refl _) h j (by omega) hj)
theorem firstC_zero : ∀ {l : List Int}, firstC l = 0 → ∀ x ∈ l, x = 0
  | [], _, x, hx => absurd hx List.not_mem_nil
  | y :: l, h, x, hx => by
    unfold firstC at h
    by_cases e : y = 0
    · rw [if_neg (fun h => h e)] at h
      rcases List.mem_cons.1 hx with rfl | hx
      · exact e
      · exact firstC_zero h x hx
    · rw [if_pos e] at h
      exact absurd h e
theorem or2_zero {x y : Int} (h : or2 x y = 0) : x = 0 ∧ y = 0 := by
  unfold or2 at h
  by_cases e : x = 0
  · rw [if_neg (fun h => h e)] at h
    exact ⟨e, h⟩
  · rw [if_pos e] at h
    exact absurd h e
end Go.Proofs.YtedeiaokohdhpaaGreat

namespace Go.Proofs.YtedeiaokohdhpaaGreat
open Go.RowKit
theorem plain_len : ∀ (k n : Nat), n < 128 ^ (k + 1) → (plainL n).length ≤ k + 1
  | 0, n, h => by rw [plain_small (by simpa using h)]; simp
  | k + 1, n, h => by
    by_cases hn : n < 128
    · rw [plain_small hn]; simp
    · rw [plain_great hn, List.length_cons]
      have := plain_len k (n / 128) (Nat.div_lt_of_lt_mul (by rw [Nat.mul_comm, ← Nat.pow_succ]; exact h))
      omega
theorem plain_ten {n : Nat} (h : n < 18446744073709551616) : (plainL n).length ≤ 10 := plain_len 9 n (Nat.lt_of_lt_of_le h (by decide))
theorem num_ten {n : Int} (h : wfI n) : (numL n).length ≤ 10 := plain_ten (fold_lt h)
theorem wf_nat {n : Nat} (h : n ≤ 100000) : wfI (n : Int) := by
  unfold wfI
  simp [Lit.wf, IntKind.min, IntKind.max, IntKind.bits, IntKind.signed]
  omega
theorem cnt_ten {n : Nat} (h : n ≤ 100000) : (numL (n : Int)).length ≤ 10 := num_ten (wf_nat h)
theorem flatL_len {α : Type} {f : α → List Int} {b : Nat} : ∀ {L : List α}, (∀ x ∈ L, (f x).length ≤ b) → (L.flatMap f).length ≤ L.length * b
  | [], _ => by simp
  | x :: L, h => by
    have ih := flatL_len (L := L) fun y hy => h y (List.mem_cons_of_mem _ hy)
    have h1 := h x List.mem_cons_self
    rw [List.flatMap_cons, List.length_append, List.length_cons, Nat.add_mul, Nat.one_mul]
    omega
theorem ints_len {ns : List Int} (h : ∀ x ∈ ns, wfI x) {k : Nat} (hk : ns.length ≤ k) (k5 : k ≤ 100000) : (intsL ns).length ≤ 10 + k * 10 := by
  unfold intsL
  have h1 := cnt_ten (show ns.length ≤ 100000 by omega)
  have h2 := flatL_len (f := numL) (b := 10) fun x hx => num_ten (h x hx)
  have h3 : ns.length * 10 ≤ k * 10 := Nat.mul_le_mul_right _ hk
  rw [List.length_append]
  omega
theorem nums_len {zs : List Int} (h : ∀ x ∈ zs, (Lit.int .u64 x).wf = true) {k : Nat} (hk : zs.length ≤ k) (k5 : k ≤ 100000) : (numsL zs).length ≤ 10 + k * 10 := by
  unfold numsL
  have h1 := cnt_ten (show zs.length ≤ 100000 by omega)
  have h2 := flatL_len (f := fun z : Int => plainL z.toNat) (b := 10) (L := zs) fun x hx => plain_ten (by have := bounds_u64 (h x hx); omega)
  have h3 : zs.length * 10 ≤ k * 10 := Nat.mul_le_mul_right _ hk
  rw [List.length_append]
  omega
theorem ref_len {r : RefD} (h1 : wfI r.h) (h2 : wfI r.f) : (refL r).length ≤ 20 := by
  have := num_ten h1
  have := num_ten h2
  unfold refL
  rw [List.length_append]
  omega
theorem step_len {x : PushD} (h : wfI x.op ∧ wfI x.r.h ∧ wfI x.r.f ∧ (Lit.int .u64 x.n).wf = true) : (stepL x).length ≤ 30 := by
  have h1 := num_ten h.1
  have h2 := ref_len h.2.1 h.2.2.1
  have h3 := plain_ten (n := x.n.toNat) (by have := bounds_u64 h.2.2.2; omega)
  unfold stepL
  rw [List.length_append]
  split
  · omega
  · split
    · omega
    · simp; omega
theorem tree_len {es : List PushD} (h : ∀ x ∈ es, wfI x.op ∧ wfI x.r.h ∧ wfI x.r.f ∧ (Lit.int .u64 x.n).wf = true) (hk : es.length ≤ 500) : (treeL es).length ≤ 15010 := by
  unfold treeL
  have h1 := cnt_ten (show es.length ≤ 100000 by omega)
  have h2 := flatL_len (f := stepL) (b := 30) fun x hx => step_len (h x hx)
  rw [List.length_append]
  omega
theorem push_wf {w : World} {s : QSl} {S : List PushD} (h : QRow 4 PushD.lie w s S) : ∀ x ∈ S, wfI x.op ∧ wfI x.r.h ∧ wfI x.r.f ∧ (Lit.int .u64 x.n).wf = true := fun x hx => by
  obtain ⟨i, hi, rfl⟩ := List.getElem_of_mem hx
  obtain ⟨g, off, _, hp⟩ := h.2 i _ (List.getElem?_eq_getElem hi)
  exact ⟨hp.1.2, hp.2.1.2, hp.2.2.1.2, hp.2.2.2.2⟩
theorem lrow_mem {α : Type} {k : Nat} {P : α → World → Nat → Nat → Prop} {w : World} {s : QSl} {S : List α} (h : QRow k P w s S) : ∀ y ∈ S, ∃ g o, P y w g o := fun y hy => by
  obtain ⟨i, hi, rfl⟩ := List.getElem_of_mem hy
  obtain ⟨g, off, _, hp⟩ := h.2 i _ (List.getElem?_eq_getElem hi)
  exact ⟨g, _, hp⟩
theorem head_len {w : World} {g o : Nat} {x : HeadD} (h : x.lie w g o) (hk : x.ws.length ≤ 500) : (headL x).length ≤ 5010 := ints_len h.2.2.1 hk (by decide)
theorem case_len {w : World} {g o : Nat} {x : CaseD} (h : x.lie w g o) : (caseL x).length ≤ 30 := by
  have h1 := plain_ten (n := x.value.toNat) (by have := bounds_u64 h.1.2; omega)
  have h2 := plain_ten (n := x.mask.toNat) (by have := bounds_u64 h.2.1.2; omega)
  have h3 := num_ten h.2.2.2
  unfold caseL
  simp only [List.length_append]
  omega
theorem state_len {w : World} {g o : Nat} {x : StateD} (h : x.lie w g o) (hk : x.cs.length ≤ 500) : (stateL x).length ≤ 15100 := by
  have h1 := num_ten h.1.2
  have h2 := cnt_ten (n := x.cases.n) (by have := h.2.2.2.2.2.1; omega)
  have h3 := ref_len h.2.1.2 h.2.2.1.2
  have h4 := flatL_len (f := caseL) (b := 30) (L := x.cs) fun y hy => by obtain ⟨g', o', hp⟩ := lrow_mem h.2.2.2.2.2 y hy; exact case_len hp
  have h5 := num_ten h.2.2.2.2.1.2
  unfold stateL
  simp only [List.length_append]
  split
  · simp only [List.length_nil]; omega
  · omega
theorem op_len {w : World} {g o : Nat} {x : OpD} (h : x.lie w g o) (hk : x.es.length ≤ 500) : (opL x).length ≤ 15100 := by
  have h1 := num_ten h.1.2
  have h2 := ref_len h.2.1.2 h.2.2.1.2
  have h3 := num_ten h.2.2.2.1.2
  have h4 := tree_len (push_wf h.2.2.2.2.2) hk
  unfold opL
  rw [List.length_append]
  (repeat' split) <;> first | omega | (simp only [List.length_append]; omega) | (simp only [List.length_nil]; omega)
theorem act_len {w : World} {g o : Nat} {x : ActD} (h : x.lie w g o) (hw : x.ws.length ≤ 500) (ho : x.os.length ≤ 50) (hk : ∀ y ∈ x.os, y.es.length ≤ 500) : (actL x).length ≤ 770000 := by
  have h1 := ints_len h.2.2.1.2.1 hw (by decide)
  have h2 := cnt_ten (n := x.ops.n) (by have := h.2.2.2.1; omega)
  have h3 := flatL_len (f := opL) (b := 15100) (L := x.os) fun y hy => by obtain ⟨g', o', hp⟩ := lrow_mem h.2.2.2 y hy; exact op_len hp (hk y hy)
  unfold actL
  simp only [List.length_append]
  omega
theorem tab_len {w : World} {g o : Nat} {x : TabD} (h : x.lie w g o) (hk : x.ks.length ≤ 500) (ha : x.al.length ≤ 500) (hz : x.zs.length ≤ 500) : (tabL x).length ≤ 30000 := by
  have h1 := num_ten h.1.2
  have h2 := cnt_ten (n := x.keys.n) (by have := h.2.2.2.2.2.2.1.1; omega)
  have h3 := flatL_len (f := refL) (b := 20) (L := x.ks) fun y hy => by obtain ⟨g', o', hp⟩ := lrow_mem h.2.2.2.2.2.2.1 y hy; exact ref_len hp.1.2 hp.2.2
  have h4 := ints_len h.2.2.2.2.2.2.2.1.2.1 ha (by decide)
  have h5 := num_ten h.2.2.2.1.2
  have h6 := num_ten h.2.2.2.2.1.2
  have h7 := nums_len h.2.2.2.2.2.2.2.2.2.1 hz (by decide)
  unfold tabL
  simp only [List.length_append]
  omega
theorem node_len {w : World} {g o : Nat} {x : NodeD} (h : x.lie w g o) (hk : x.es.length ≤ 500) : (nodeL x).length ≤ 15100 := by
  have h1 := num_ten h.1.2
  have h2 := num_ten h.2.1.2
  have h3 := num_ten h.2.2.2.1.2
  have h4 := num_ten h.2.2.2.2.1.2
  have h5 := tree_len (push_wf h.2.2.2.2.2) hk
  unfold nodeL
  rw [List.length_append]
  (repeat' split) <;> first | omega | (simp only [List.length_append]; omega)
theorem body_len {d : PlanD} {w : World} (hl : d.lie w) (hm : d.p.little) (hc : (chkP d.p).1 = 0) : (bodyL d).length ≤ 9000000 := by
  have mem : ∀ {α β : Type} {L : List α} {f : α → β} {x : α}, x ∈ L → f x ∈ L.map f := fun hx => List.mem_map.2 ⟨_, hx, rfl⟩
  have n0 : (d.p.hs.length : Int) ≤ 6 := (chk_zero hc 0 (by decide)).2.1
  have n2 : (d.p.ss.length : Int) ≤ 8 := (chk_zero hc 2 (by decide)).2.1
  have n3 : (d.p.al.length : Int) ≤ 8 := (chk_zero hc 3 (by decide)).2.1
  have n4 : (d.p.ts.length : Int) ≤ 5 := (chk_zero hc 4 (by decide)).2.1
  have n5 : (d.p.ns.length : Int) ≤ 10 := (chk_zero hc 5 (by decide)).2.1
  have m1 := hm.ms
  have m6 := hm.os
  simp only [PlanD.p, List.length_map] at n0 n2 n3 n4 n5 m1 m6
  have e0 := hl.hs.1
  have e2 := hl.ss.1
  have e3 := hl.al.1
  have e4 := hl.ts.1
  have e5 := hl.ns.1
  have a0 := flatL_len (f := headL) (b := 5010) (L := d.hs) fun y hy => by obtain ⟨g, o, hp⟩ := lrow_mem hl.hs y hy; exact head_len hp (hm.hw _ (mem hy))
  have a1 := ints_len hl.ms.2.1 m1 (by decide)
  have a2 := flatL_len (f := stateL) (b := 15100) (L := d.ss) fun y hy => by obtain ⟨g, o, hp⟩ := lrow_mem hl.ss y hy; exact state_len hp (hm.sc _ (mem hy))
  have a3 := flatL_len (f := actL) (b := 770000) (L := d.al) fun y hy => by
    obtain ⟨g, o, hp⟩ := lrow_mem hl.al y hy
    have h1 := hm.aw _ (mem hy)
    have h3 : (y.os.map OpD.p).length ≤ 50 := h1.2
    rw [List.length_map] at h3
    exact act_len hp h1.1 h3 fun z hz => hm.ae _ (mem hy) _ (mem hz)
  have a4 := flatL_len (f := tabL) (b := 30000) (L := d.ts) fun y hy => by
    obtain ⟨g, o, hp⟩ := lrow_mem hl.ts y hy
    have h1 := hm.tl _ (mem hy)
    exact tab_len hp h1.1 h1.2.1 h1.2.2
  have a5 := flatL_len (f := nodeL) (b := 15100) (L := d.ns) fun y hy => by obtain ⟨g, o, hp⟩ := lrow_mem hl.ns y hy; exact node_len hp (hm.ne _ (mem hy))
  have a6 := ints_len hl.os.2.1 m6 (by decide)
  have c0 := cnt_ten (n := d.heads.n) (by omega)
  have c2 := cnt_ten (n := d.states.n) (by omega)
  have c3 := cnt_ten (n := d.acts.n) (by omega)
  have c4 := cnt_ten (n := d.tabs.n) (by omega)
  have c5 := cnt_ten (n := d.nodes.n) (by omega)
  unfold bodyL planL
  simp only [List.length_append, List.length_cons, List.length_nil]
  omega
theorem wfew_of {d : PlanD} {w : World} (hl : d.lie w) (h : d.p.little) : d.wfew := by
  have mem : ∀ {α β : Type} {L : List α} {f : α → β} {x : α}, x ∈ L → f x ∈ L.map f := fun hx => List.mem_map.2 ⟨_, hx, rfl⟩
  refine ⟨⟨?_, fun x hx => ?_⟩, ?_, ⟨?_, fun x hx => ?_⟩, ⟨?_, fun x hx => ?_⟩, ⟨?_, fun x hx => ?_⟩, ⟨?_, fun x hx => ?_⟩, ?_⟩
  · have := h.hs; simp [PlanD.p, hl.hs.1] at this; omega
  · obtain ⟨g, o, hp⟩ := lrow_mem hl.hs x hx
    have : x.ws.length ≤ 500 := h.hw _ (mem hx)
    have e := hp.2.1
    omega
  · have := h.ms; simp [PlanD.p, hl.ms.1] at this; omega
  · have := h.ss; simp [PlanD.p, hl.ss.1] at this; omega
  · obtain ⟨g, o, hp⟩ := lrow_mem hl.ss x hx
    have : x.cs.length ≤ 500 := h.sc _ (mem hx)
    have e := hp.2.2.2.2.2.1
    omega
  · have := h.al; simp [PlanD.p, hl.al.1] at this; omega
  · obtain ⟨g, o, hp⟩ := lrow_mem hl.al x hx
    have h1 := h.aw _ (mem hx)
    have h2 : x.ws.length ≤ 500 := h1.1
    have h3 : (x.os.map OpD.p).length ≤ 50 := h1.2
    rw [List.length_map] at h3
    have e := hp.2.2.1.1
    have e2 := hp.2.2.2.1
    refine ⟨by omega, by omega, fun y hy => ?_⟩
    obtain ⟨g', o', hp'⟩ := lrow_mem hp.2.2.2 y hy
    have : y.es.length ≤ 500 := h.ae _ (mem hx) _ (mem hy)
    have e3 := hp'.2.2.2.2.2.1
    omega
  · have := h.ts; simp [PlanD.p, hl.ts.1] at this; omega
  · obtain ⟨g, o, hp⟩ := lrow_mem hl.ts x hx
    have h1 := h.tl _ (mem hx)
    have h2 : x.ks.length ≤ 500 := h1.1
    have h3 : x.al.length ≤ 500 := h1.2.1
    have h4 : x.zs.length ≤ 500 := h1.2.2
    have e := hp.2.2.2.2.2.2.1.1
    have e2 := hp.2.2.2.2.2.2.2.1.1
    have e3 := hp.2.2.2.2.2.2.2.2.1
    omega
  · have := h.ns; simp [PlanD.p, hl.ns.1] at this; omega
  · obtain ⟨g, o, hp⟩ := lrow_mem hl.ns x hx
    have : x.es.length ≤ 500 := h.ne _ (mem hx)
    have e := hp.2.2.2.2.2.1
    omega
  · have := h.os; simp [PlanD.p, hl.os.1] at this; omega
theorem encode_little (d : PlanD) (w : World) (hl : d.lie w) (hm : d.p.little) : Calls Tryz.prog 8 #[d.v] w (EncDone d w) := by
  by_cases hc : (chkP d.p).1 = 0
  · exact enc_good d w hl (small_of hl hm) (wfew_of hl hm) (body_len hl hm hc) hc
  · exact enc_bad d w hl (small_of hl hm) hc
end Go.Proofs.YtedeiaokohdhpaaGreat
