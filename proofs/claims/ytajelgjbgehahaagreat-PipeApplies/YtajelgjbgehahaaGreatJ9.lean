/- Texts of one chain, joined: WMath, WDef. -/
import Derived.Test.YtajelgjbgehahaaGreatJ1
import Derived.Test.YtajelgjbgehahaaGreatVQPure
namespace Go.Proofs.YtajelgjbgehahaaGreat.Wk

/-- what was taken on the ways that come to a place -/
structure Sets where
  must : Nat
  may : Nat
  least : Nat
  most : Nat
  there : Bool

def zero : Sets := ⟨0, 0, 0, 0, false⟩

/-- s tells what is so of all of P (what was taken, how many bytes) -/
structure IsAgg (P : Nat → Nat → Prop) (s : Sets) : Prop where
  th : s.there = true ↔ ∃ t b, P t b
  no : s.there = false → s = zero
  mu : s.there = true → ∀ k, s.must.testBit k = true ↔ ∀ t b, P t b → t.testBit k = true
  ma : s.there = true → ∀ k, s.may.testBit k = true ↔ ∃ t b, P t b ∧ t.testBit k = true
  bd : ∀ t b, P t b → s.least ≤ b ∧ b ≤ s.most
  le : s.there = true → ∃ t, P t s.least
  mo : s.there = true → ∃ t, P t s.most

theorem IsAgg.congr {P Q : Nat → Nat → Prop} {s : Sets} (h : IsAgg P s) (e : ∀ t b, P t b ↔ Q t b) : IsAgg Q s := by
  have : P = Q := by funext t b; exact propext (e t b)
  rw [← this]; exact h

theorem IsAgg.one {P : Nat → Nat → Prop} {s s' : Sets} (h : IsAgg P s) (h' : IsAgg P s') : s = s' := by
  cases ht : s.there with
  | false =>
    have h2 : s'.there = false := by
      cases h2 : s'.there with
      | false => rfl
      | true =>
        have := h.th.2 (h'.th.1 h2)
        rw [ht] at this; exact this.symm
    rw [h.no ht, h'.no h2]
  | true =>
    have h2 := h'.th.2 (h.th.1 ht)
    have e1 : s.must = s'.must := Nat.eq_of_testBit_eq fun k => Bool.eq_iff_iff.2 ((h.mu ht k).trans (h'.mu h2 k).symm)
    have e2 : s.may = s'.may := Nat.eq_of_testBit_eq fun k => Bool.eq_iff_iff.2 ((h.ma ht k).trans (h'.ma h2 k).symm)
    obtain ⟨t1, l1⟩ := h.le ht
    obtain ⟨t2, l2⟩ := h'.le h2
    obtain ⟨t3, l3⟩ := h.mo ht
    obtain ⟨t4, l4⟩ := h'.mo h2
    have a1 := (h.bd _ _ l2).1
    have a2 := (h'.bd _ _ l1).1
    have a3 := (h.bd _ _ l4).2
    have a4 := (h'.bd _ _ l3).2
    obtain ⟨a, b, c, d, e⟩ := s
    obtain ⟨a', b', c', d', e'⟩ := s'
    simp only at *
    simp only [Sets.mk.injEq]
    exact ⟨e1, e2, by omega, by omega, by rw [ht, h2]⟩

theorem IsAgg.none {P : Nat → Nat → Prop} (h : ∀ t b, ¬ P t b) : IsAgg P zero :=
  ⟨⟨fun e => absurd e (by decide), fun ⟨t, b, e⟩ => absurd e (h t b)⟩, fun _ => rfl, fun e => absurd e (by decide), fun e => absurd e (by decide), fun t b e => absurd e (h t b), fun e => absurd e (by decide), fun e => absurd e (by decide)⟩

def joinS (s t : Sets) : Sets := if s.there = true then ⟨s.must &&& t.must, s.may ||| t.may, min s.least t.least, max s.most t.most, true⟩ else t

theorem IsAgg.join {P Q : Nat → Nat → Prop} {s t : Sets} (h : IsAgg P s) (k : IsAgg Q t) (ht : t.there = true) : IsAgg (fun a b => P a b ∨ Q a b) (joinS s t) := by
  unfold joinS
  cases hs : s.there with
  | false =>
    have hn : ∀ a b, ¬ P a b := fun a b e => by
      have := h.th.2 ⟨a, b, e⟩
      rw [hs] at this; cases this
    simp only [Bool.false_eq_true, if_false]
    exact k.congr fun a b => ⟨.inr, fun e => e.resolve_left (hn a b)⟩
  | true =>
    simp only [if_true]
    refine ⟨⟨fun _ => ?_, fun _ => rfl⟩, fun e => by simp at e, fun _ i => ?_, fun _ i => ?_, fun a b e => ?_, fun _ => ?_, fun _ => ?_⟩
    · obtain ⟨a, b, e⟩ := h.th.1 hs
      exact ⟨a, b, .inl e⟩
    · simp only [Nat.testBit_and, Bool.and_eq_true]
      rw [h.mu hs i, k.mu ht i]
      exact ⟨fun ⟨h1, h2⟩ a b e => e.elim (h1 a b) (h2 a b), fun e => ⟨fun a b x => e a b (.inl x), fun a b x => e a b (.inr x)⟩⟩
    · simp only [Nat.testBit_or, Bool.or_eq_true]
      rw [h.ma hs i, k.ma ht i]
      constructor
      · rintro (⟨a, b, x, y⟩ | ⟨a, b, x, y⟩)
        · exact ⟨a, b, .inl x, y⟩
        · exact ⟨a, b, .inr x, y⟩
      · rintro ⟨a, b, x | x, y⟩
        · exact .inl ⟨a, b, x, y⟩
        · exact .inr ⟨a, b, x, y⟩
    · rcases e with e | e
      · have := h.bd a b e; simp only; omega
      · have := k.bd a b e; simp only; omega
    · obtain ⟨t1, l1⟩ := h.le hs
      obtain ⟨t2, l2⟩ := k.le ht
      simp only
      by_cases c : s.least ≤ t.least
      · rw [Nat.min_eq_left c]; exact ⟨t1, .inl l1⟩
      · rw [Nat.min_eq_right (by omega)]; exact ⟨t2, .inr l2⟩
    · obtain ⟨t1, l1⟩ := h.mo hs
      obtain ⟨t2, l2⟩ := k.mo ht
      simp only
      by_cases c : s.most ≤ t.most
      · rw [Nat.max_eq_right c]; exact ⟨t2, .inr l2⟩
      · rw [Nat.max_eq_left (by omega)]; exact ⟨t1, .inl l1⟩

/-- all ways with a header more -/
def shiftS (m z : Nat) (s : Sets) : Sets := ⟨s.must ||| m, s.may ||| m, s.least + z, s.most + z, s.there⟩

theorem IsAgg.shift {P : Nat → Nat → Prop} {s : Sets} (h : IsAgg P s) (hs : s.there = true) (m z : Nat) : IsAgg (fun a b => ∃ a' b', P a' b' ∧ a = a' ||| m ∧ b = b' + z) (shiftS m z s) := by
  obtain ⟨a0, b0, e0⟩ := h.th.1 hs
  refine ⟨⟨fun _ => ⟨_, _, a0, b0, e0, rfl, rfl⟩, fun _ => hs⟩, fun e => ?_, fun _ i => ?_, fun _ i => ?_, ?_, fun _ => ?_, fun _ => ?_⟩
  · have : s.there = false := e
    rw [hs] at this; cases this
  · simp only [shiftS, Nat.testBit_or, Bool.or_eq_true]
    rw [h.mu hs i]
    constructor
    · rintro (h1 | h1) a b ⟨a', b', x, rfl, rfl⟩
      · rw [Nat.testBit_or, h1 a' b' x]; rfl
      · rw [Nat.testBit_or, h1]; simp
    · intro h1
      by_cases hm : m.testBit i = true
      · exact .inr hm
      · refine .inl fun a b x => ?_
        have := h1 _ _ ⟨a, b, x, rfl, rfl⟩
        rw [Nat.testBit_or, Bool.or_eq_true] at this
        exact this.resolve_right hm
  · simp only [shiftS, Nat.testBit_or, Bool.or_eq_true]
    rw [h.ma hs i]
    constructor
    · rintro (⟨a, b, x, y⟩ | hm)
      · exact ⟨_, _, ⟨a, b, x, rfl, rfl⟩, by rw [Nat.testBit_or, y]; rfl⟩
      · exact ⟨_, _, ⟨a0, b0, e0, rfl, rfl⟩, by rw [Nat.testBit_or, hm]; simp⟩
    · rintro ⟨a, b, ⟨a', b', x, rfl, rfl⟩, y⟩
      rw [Nat.testBit_or, Bool.or_eq_true] at y
      exact y.elim (fun y => .inl ⟨a', b', x, y⟩) .inr
  · rintro a b ⟨a', b', x, rfl, rfl⟩
    have := h.bd _ _ x
    simp only [shiftS]; omega
  · obtain ⟨t1, l1⟩ := h.le hs
    exact ⟨_, t1, _, l1, rfl, rfl⟩
  · obtain ⟨t1, l1⟩ := h.mo hs
    exact ⟨_, t1, _, l1, rfl, rfl⟩

theorem IsAgg.single (t z : Nat) : IsAgg (fun a b => a = t ∧ b = z) ⟨t, t, z, z, true⟩ :=
  ⟨⟨fun _ => ⟨t, z, rfl, rfl⟩, fun _ => rfl⟩, fun e => by simp at e, fun _ k => ⟨fun h a b e => e.1 ▸ h, fun h => h t z ⟨rfl, rfl⟩⟩, fun _ k => ⟨fun h => ⟨t, z, ⟨rfl, rfl⟩, h⟩, fun ⟨a, b, e, h⟩ => e.1 ▸ h⟩, fun a b e => by simp only; omega, fun _ => ⟨t, rfl, rfl⟩, fun _ => ⟨t, rfl, rfl⟩⟩

/-- a parser: of each state the bits and bytes of its header, and where it leads (a number of a state, or how many there are: Accept) -/
structure Par where
  n : Nat
  hb : Nat → Nat
  sz : Nat → Nat
  lead : Nat → List Nat
  on : ∀ i j, i < n → j ∈ lead i → i < j ∧ j ≤ n

/-- a way: what it has taken, and how many bytes, when it comes to a state -/
def Wy (p : Par) (j t b : Nat) : Prop := ∀ R : Nat → Nat → Nat → Prop, R 0 0 0 → (∀ i j t b, R i t b → i < p.n → j ∈ p.lead i → R j (t ||| p.hb i) (b + p.sz i)) → R j t b

theorem Wy.nil {p : Par} : Wy p 0 0 0 := fun _ h _ => h

theorem Wy.step {p : Par} {i j t b : Nat} (h : Wy p i t b) (hi : i < p.n) (hj : j ∈ p.lead i) : Wy p j (t ||| p.hb i) (b + p.sz i) := fun R h0 hs => hs i j t b (h R h0 hs) hi hj

theorem Wy.inv {p : Par} {j t b : Nat} (h : Wy p j t b) : (j = 0 ∧ t = 0 ∧ b = 0) ∨ ∃ i t' b', Wy p i t' b' ∧ i < p.n ∧ j ∈ p.lead i ∧ t = t' ||| p.hb i ∧ b = b' + p.sz i :=
  (h (fun j t b => Wy p j t b ∧ ((j = 0 ∧ t = 0 ∧ b = 0) ∨ ∃ i t' b', Wy p i t' b' ∧ i < p.n ∧ j ∈ p.lead i ∧ t = t' ||| p.hb i ∧ b = b' + p.sz i)) ⟨.nil, .inl ⟨rfl, rfl, rfl⟩⟩ fun i _ t b h hi hj => ⟨h.1.step hi hj, .inr ⟨i, t, b, h.1, hi, hj, rfl, rfl⟩⟩).2

/-- those that come from one of the first m states -/
def WyN (p : Par) (m j t b : Nat) : Prop := (j = 0 ∧ t = 0 ∧ b = 0) ∨ ∃ i, i < m ∧ j ∈ p.lead i ∧ ∃ t' b', Wy p i t' b' ∧ t = t' ||| p.hb i ∧ b = b' + p.sz i

theorem wyN_all {p : Par} {m j : Nat} (hm : m ≤ p.n) (hj : j ≤ m) (t b : Nat) : WyN p m j t b ↔ Wy p j t b := by
  constructor
  · rintro (⟨rfl, rfl, rfl⟩ | ⟨i, hi, hl, t', b', hw, rfl, rfl⟩)
    · exact .nil
    · exact .step hw (by omega) hl
  · intro h
    rcases h.inv with ⟨rfl, rfl, rfl⟩ | ⟨i, t', b', hw, hi, hl, rfl, rfl⟩
    · exact .inl ⟨rfl, rfl, rfl⟩
    · have := (p.on _ _ hi hl).1
      exact .inr ⟨_, by omega, hl, _, _, hw, rfl, rfl⟩

/-- the program, state by state -/
def leadTo (A : List Sets) (s : Sets) (l : List Nat) : List Sets := l.foldl (fun A j => A.set j (joinS (A.getD j zero) s)) A

def goOver (p : Par) (A : List Sets) (i : Nat) : List Sets := if (A.getD i zero).there = true then leadTo A (shiftS (p.hb i) (p.sz i) (A.getD i zero)) (p.lead i) else A

def start (n : Nat) : List Sets := (List.replicate (n + 1) zero).set 0 ⟨0, 0, 0, 0, true⟩

def AP (p : Par) : Nat → List Sets
  | 0 => start p.n
  | m + 1 => goOver p (AP p m) m

def Inv (p : Par) (m : Nat) (A : List Sets) : Prop := A.length = p.n + 1 ∧ ∀ j, j ≤ p.n → IsAgg (WyN p m j) (A.getD j zero)

theorem getD_set {A : List Sets} {i j : Nat} {x : Sets} (hi : i < A.length) : (A.set i x).getD j zero = if i = j then x else A.getD j zero := by
  simp only [List.getD_eq_getElem?_getD, List.getElem?_set]
  by_cases e : i = j
  · subst e
    simp [hi]
  · simp [e]

theorem inv_start (p : Par) : Inv p 0 (start p.n) := by
  refine ⟨by simp [start], fun j hj => ?_⟩
  unfold start
  rw [getD_set (by simp)]
  by_cases e : 0 = j
  · subst e
    rw [if_pos rfl]
    exact (IsAgg.single 0 0).congr fun t b => ⟨fun ⟨h1, h2⟩ => .inl ⟨rfl, h1, h2⟩, fun h => h.elim (fun h => h.2) (fun ⟨i, h, _⟩ => absurd h (Nat.not_lt_zero _))⟩
  · rw [if_neg e]
    have : (List.replicate (p.n + 1) zero).getD j zero = zero := by
      simp only [List.getD_eq_getElem?_getD, List.getElem?_replicate]
      split <;> rfl
    rw [this]
    exact .none fun t b h => h.elim (fun h => e h.1.symm) (fun ⟨i, h, _⟩ => absurd h (Nat.not_lt_zero _))

theorem leadTo_agg {l : List Nat} {s : Sets} {Q : Nat → Nat → Prop} (hs : IsAgg Q s) (ht : s.there = true) : ∀ {A : List Sets} {n : Nat} {P : Nat → Nat → Nat → Prop}, A.length = n + 1 → (∀ j ∈ l, j ≤ n) → (∀ j, j ≤ n → IsAgg (P j) (A.getD j zero)) →
    (leadTo A s l).length = n + 1 ∧ ∀ j, j ≤ n → IsAgg (fun t b => P j t b ∨ j ∈ l ∧ Q t b) ((leadTo A s l).getD j zero) := by
  induction l with
  | nil => exact fun hA _ h => ⟨hA, fun j hj => (h j hj).congr fun t b => by simp⟩
  | cons x l ih =>
    intro A n P hA hl h
    have hx : x ≤ n := hl x List.mem_cons_self
    have := ih (A := A.set x (joinS (A.getD x zero) s)) (n := n) (P := fun j t b => P j t b ∨ x = j ∧ Q t b) (by simpa using hA) (fun j hj => hl j (List.mem_cons_of_mem _ hj)) (fun j hj => by
      rw [getD_set (by omega)]
      by_cases e : x = j
      · subst e
        rw [if_pos rfl]
        exact ((h x hx).join hs ht).congr fun t b => by simp
      · rw [if_neg e]
        exact (h j hj).congr fun t b => by simp [e])
    refine ⟨this.1, fun j hj => (this.2 j hj).congr fun t b => ?_⟩
    simp only [List.mem_cons]
    constructor
    · rintro ((h | ⟨rfl, h⟩) | ⟨h1, h2⟩)
      · exact .inl h
      · exact .inr ⟨.inl rfl, h⟩
      · exact .inr ⟨.inr h1, h2⟩
    · rintro (h | ⟨rfl | h1, h2⟩)
      · exact .inl (.inl h)
      · exact .inl (.inr ⟨rfl, h2⟩)
      · exact .inr ⟨h1, h2⟩

theorem inv_step {p : Par} {m : Nat} {A : List Sets} (hm : m < p.n) (h : Inv p m A) : Inv p (m + 1) (goOver p A m) := by
  have ha := (h.2 m (by omega)).congr (wyN_all (Nat.le_of_lt hm) (Nat.le_refl m))
  have split : ∀ j t b, WyN p (m + 1) j t b ↔ (WyN p m j t b ∨ j ∈ p.lead m ∧ ∃ t' b', Wy p m t' b' ∧ t = t' ||| p.hb m ∧ b = b' + p.sz m) := by
    intro j t b
    constructor
    · rintro (h | ⟨i, hi, h1, h2⟩)
      · exact .inl (.inl h)
      · by_cases e : i = m
        · subst e; exact .inr ⟨h1, h2⟩
        · exact .inl (.inr ⟨i, by omega, h1, h2⟩)
    · rintro ((h | ⟨i, hi, h1, h2⟩) | ⟨h1, h2⟩)
      · exact .inl h
      · exact .inr ⟨i, by omega, h1, h2⟩
      · exact .inr ⟨m, by omega, h1, h2⟩
  unfold goOver
  by_cases ht : (A.getD m zero).there = true
  · rw [if_pos ht]
    have := leadTo_agg (l := p.lead m) (ha.shift ht (p.hb m) (p.sz m)) ht h.1 (fun j hj => (p.on m j hm hj).2) h.2
    exact ⟨this.1, fun j hj => (this.2 j hj).congr fun t b => (split j t b).symm⟩
  · rw [if_neg ht]
    refine ⟨h.1, fun j hj => (h.2 j hj).congr fun t b => ?_⟩
    rw [split]
    exact ⟨.inl, fun h => h.elim id fun ⟨_, t', b', hw, _⟩ => absurd (ha.th.2 ⟨t', b', hw⟩) ht⟩

theorem inv_AP (p : Par) : ∀ m, m ≤ p.n → Inv p m (AP p m)
  | 0, _ => inv_start p
  | m + 1, h => inv_step (by omega) (inv_AP p m (by omega))

/-- a way as the document has it -/
structure Way where
  st : Nat
  tk : Nat
  by_ : Nat

def succW (p : Par) (ld : Nat → List Nat) (w : Way) : List Way := if w.st = p.n then [] else (ld w.st).map fun j => ⟨j, w.tk ||| p.hb w.st, w.by_ + p.sz w.st⟩

/-- the same places, in some order -/
def SameLead (p : Par) (ld : Nat → List Nat) : Prop := ∀ i, i < p.n → ∀ j, j ∈ ld i ↔ j ∈ p.lead i

theorem ways_are {p : Par} {L : List Way} {ld : Nat → List Nat} (hld : SameLead p ld) (h : L = ⟨0, 0, 0⟩ :: L.flatMap (succW p ld)) (hn : ∀ w ∈ L, w.st ≤ p.n) : ∀ j t b, (⟨j, t, b⟩ : Way) ∈ L ↔ Wy p j t b := by
  have mem : ∀ w, w ∈ L ↔ w = ⟨0, 0, 0⟩ ∨ ∃ v ∈ L, w ∈ succW p ld v := fun w => by
    constructor
    · intro hw
      rw [h] at hw
      simpa using hw
    · intro hw
      rw [h]
      simpa using hw
  intro j t b
  constructor
  · intro hw
    induction j using Nat.strongRecOn generalizing t b with
    | ind j ih =>
      rcases (mem _).1 hw with e | ⟨v, hv, hs⟩
      · simp only [Way.mk.injEq] at e
        obtain ⟨rfl, rfl, rfl⟩ := e
        exact .nil
      · have hvn := hn v hv
        unfold succW at hs
        by_cases e : v.st = p.n
        · rw [if_pos e] at hs; simp at hs
        · rw [if_neg e, List.mem_map] at hs
          obtain ⟨j', hj', e2⟩ := hs
          simp only [Way.mk.injEq] at e2
          obtain ⟨rfl, rfl, rfl⟩ := e2
          have hj' := (hld v.st (by omega) j').1 hj'
          have := (p.on v.st j' (by omega) hj').1
          exact .step (ih v.st this _ _ hv) (by omega) hj'
  · intro hw
    refine hw (fun j t b => (⟨j, t, b⟩ : Way) ∈ L) ((mem _).2 (.inl rfl)) fun i j t b ih hi hl => (mem _).2 (.inr ⟨_, ih, ?_⟩)
    unfold succW
    rw [if_neg (by simp only; omega), List.mem_map]
    exact ⟨j, (hld i hi j).2 hl, rfl⟩

/-- the document: way by way -/
def addW (A : List Sets) (w : Way) : List Sets := A.set w.st (joinS (A.getD w.st zero) ⟨w.tk, w.tk, w.by_, w.by_, true⟩)

def sumW (n : Nat) (L : List Way) : List Sets := L.foldl addW (List.replicate (n + 1) zero)

theorem addW_agg {n : Nat} : ∀ {L : List Way} {A : List Sets} {P : Nat → Nat → Nat → Prop}, (∀ w ∈ L, w.st ≤ n) → A.length = n + 1 → (∀ j, j ≤ n → IsAgg (P j) (A.getD j zero)) →
    (L.foldl addW A).length = n + 1 ∧ ∀ j, j ≤ n → IsAgg (fun t b => P j t b ∨ (⟨j, t, b⟩ : Way) ∈ L) ((L.foldl addW A).getD j zero)
  | [], A, P, _, hA, h => ⟨hA, fun j hj => (h j hj).congr fun t b => by simp⟩
  | x :: L, A, P, hl, hA, h => by
    have hx : x.st ≤ n := hl x List.mem_cons_self
    have := addW_agg (L := L) (A := addW A x) (P := fun j t b => P j t b ∨ (⟨j, t, b⟩ : Way) = x) (fun w hw => hl w (List.mem_cons_of_mem _ hw)) (by simpa [addW] using hA) (fun j hj => by
      unfold addW
      rw [getD_set (by omega)]
      by_cases e : x.st = j
      · subst e
        rw [if_pos rfl]
        refine ((h _ hx).join (IsAgg.single x.tk x.by_) rfl).congr fun t b => ?_
        obtain ⟨a, c, d⟩ := x
        simp
      · rw [if_neg e]
        refine (h j hj).congr fun t b => ⟨.inl, fun h => h.elim id fun h => absurd (by rw [← h]) e⟩)
    refine ⟨this.1, fun j hj => (this.2 j hj).congr fun t b => ?_⟩
    simp only [List.mem_cons, or_assoc]

theorem sumW_is {p : Par} {L : List Way} {ld : Nat → List Nat} (hld : SameLead p ld) (h : L = ⟨0, 0, 0⟩ :: L.flatMap (succW p ld)) (hn : ∀ w ∈ L, w.st ≤ p.n) : (sumW p.n L).length = p.n + 1 ∧ ∀ j, j ≤ p.n → IsAgg (Wy p j) ((sumW p.n L).getD j zero) := by
  have := addW_agg (n := p.n) (L := L) (A := List.replicate (p.n + 1) zero) (P := fun _ _ _ => False) hn (by simp) (fun j hj => by
    have : (List.replicate (p.n + 1) zero).getD j zero = zero := by
      simp only [List.getD_eq_getElem?_getD, List.getElem?_replicate]
      split <;> rfl
    rw [this]
    exact .none fun _ _ h => h)
  exact ⟨this.1, fun j hj => (this.2 j hj).congr fun t b => by rw [ways_are hld h hn]; simp⟩

/-- both are one, at each state when the program comes to it -/
theorem both_at {p : Par} {L : List Way} {ld : Nat → List Nat} (hld : SameLead p ld) (h : L = ⟨0, 0, 0⟩ :: L.flatMap (succW p ld)) (hn : ∀ w ∈ L, w.st ≤ p.n) {m j : Nat} (hm : m ≤ p.n) (hj : j ≤ m) : (AP p m).getD j zero = (sumW p.n L).getD j zero :=
  (((inv_AP p m hm).2 j (by omega)).congr (wyN_all hm hj)).one ((sumW_is hld h hn).2 j (by omega))

theorem both_end {p : Par} {L : List Way} {ld : Nat → List Nat} (hld : SameLead p ld) (h : L = ⟨0, 0, 0⟩ :: L.flatMap (succW p ld)) (hn : ∀ w ∈ L, w.st ≤ p.n) : AP p p.n = sumW p.n L := by
  have h1 := (inv_AP p p.n (Nat.le_refl _)).1
  have h2 := (sumW_is hld h hn).1
  refine List.ext_getElem? fun j => ?_
  by_cases hj : j ≤ p.n
  · have := both_at hld h hn (Nat.le_refl _) hj
    simp only [List.getD_eq_getElem?_getD] at this
    rw [List.getElem?_eq_getElem (by omega), List.getElem?_eq_getElem (by omega)] at this ⊢
    simpa using this
  · rw [List.getElem?_eq_none (by omega), List.getElem?_eq_none (by omega)]

/-- what is left to be gone: it falls with each way -/
def pot (n : Nat) (L : List Way) : Nat := (L.map fun w => 2 ^ (n + 1 - w.st)).sum

theorem pot_nodup : ∀ (k s : Nat) (l : List Nat), l.Nodup → (∀ j ∈ l, s < j ∧ j ≤ s + k) → (l.map fun j => 2 ^ (s + k + 1 - j)).sum + 2 ≤ 2 ^ (k + 1)
  | 0, s, l, _, h => by
    have : l = [] := List.eq_nil_iff_forall_not_mem.2 fun j hj => by have := h j hj; omega
    subst this
    exact Nat.le_refl 2
  | k + 1, s, l, hn, h => by
    have e2 : 2 ^ (k + 1 + 1) = 2 ^ (k + 1) + 2 ^ (k + 1) := by rw [Nat.pow_succ (n := 2) (m := k + 1)]; omega
    by_cases hs : s + 1 ∈ l
    · have hp := List.perm_cons_erase hs
      have hne := hn.erase (s + 1)
      have ih := pot_nodup k (s + 1) (l.erase (s + 1)) hne fun j hj => by
        have h1 := (hn.mem_erase_iff).1 hj
        have := h j h1.2
        have := h1.1
        omega
      have hsum := (hp.map fun j => 2 ^ (s + (k + 1) + 1 - j)).sum_nat
      rw [hsum, List.map_cons, List.sum_cons, show s + (k + 1) + 1 - (s + 1) = k + 1 by omega]
      rw [show s + 1 + k + 1 = s + (k + 1) + 1 by omega] at ih
      omega
    · have ih := pot_nodup k (s + 1) l hn fun j hj => by
        have := h j hj
        have : j ≠ s + 1 := fun e => hs (e ▸ hj)
        omega
      rw [show s + 1 + k + 1 = s + (k + 1) + 1 by omega] at ih
      omega

theorem pot_append (n : Nat) (L M : List Way) : pot n (L ++ M) = pot n L + pot n M := by simp [pot]

theorem pot_len {n : Nat} {L : List Way} (h : ∀ w ∈ L, w.st ≤ n) : L.length ≤ pot n L := by
  induction L with
  | nil => exact Nat.le_refl _
  | cons w L ih =>
    have h1 := ih fun v hv => h v (List.mem_cons_of_mem _ hv)
    have h2 : 0 < 2 ^ (n + 1 - w.st) := Nat.pos_of_ne_zero (by simp)
    simp only [pot, List.map_cons, List.sum_cons, List.length_cons] at h1 ⊢
    omega

theorem pot_succ {p : Par} {ld : Nat → List Nat} (hld : SameLead p ld) (hnd : ∀ i, (ld i).Nodup) {w : Way} (hw : w.st ≤ p.n) : pot p.n (succW p ld w) + 2 ≤ 2 ^ (p.n + 1 - w.st) := by
  unfold succW
  by_cases e : w.st = p.n
  · rw [if_pos e, e, show p.n + 1 - p.n = 1 by omega]
    exact Nat.le_refl 2
  · rw [if_neg e]
    have := pot_nodup (p.n - w.st) w.st (ld w.st) (hnd _) fun j hj => by
      have := p.on w.st j (by omega) ((hld w.st (by omega) j).1 hj)
      omega
    rw [show w.st + (p.n - w.st) + 1 = p.n + 1 by omega, show p.n - w.st + 1 = p.n + 1 - w.st by omega] at this
    simpa [pot, List.map_map, Function.comp_def] using this

/-- where the document's list of ways stands when so many of them have been gone on from -/
structure Gone (p : Par) (ld : Nat → List Nat) (i : Nat) (L : List Way) : Prop where
  le : i ≤ L.length
  eq : L = ⟨0, 0, 0⟩ :: (L.take i).flatMap (succW p ld)
  st : ∀ w ∈ L, w.st ≤ p.n
  po : i + pot p.n (L.drop i) ≤ 2 ^ (p.n + 1)

theorem Gone.start (p : Par) (ld : Nat → List Nat) : Gone p ld 0 [⟨0, 0, 0⟩] :=
  ⟨Nat.zero_le _, rfl, fun w hw => by simp at hw; rw [hw]; exact Nat.zero_le _, by simp [pot]⟩

theorem Gone.len {p : Par} {ld : Nat → List Nat} {i : Nat} {L : List Way} (h : Gone p ld i L) : L.length ≤ 2 ^ (p.n + 1) := by
  have h1 := pot_len (n := p.n) (L := L.drop i) fun w hw => h.st w (List.mem_of_mem_drop hw)
  have h2 := h.po
  have h3 := h.le
  rw [List.length_drop] at h1
  omega

theorem Gone.next {p : Par} {ld : Nat → List Nat} (hld : SameLead p ld) (hnd : ∀ i, (ld i).Nodup) {i : Nat} {L : List Way} {w : Way} (h : Gone p ld i L) (hw : L[i]? = some w) : Gone p ld (i + 1) (L ++ succW p ld w) := by
  have hi : i < L.length := (List.getElem?_eq_some_iff.1 hw).1
  have hwe : L[i] = w := (List.getElem?_eq_some_iff.1 hw).2
  have hm : w ∈ L := hwe ▸ List.getElem_mem hi
  refine ⟨by simp; omega, ?_, fun v hv => ?_, ?_⟩
  · rw [List.take_append_of_le_length (by omega), List.take_add_one, hw]
    simp only [Option.toList_some, List.flatMap_append, List.flatMap_cons, List.flatMap_nil, List.append_nil]
    have := h.eq
    rw [← List.cons_append, ← this]
  · rcases List.mem_append.1 hv with hv | hv
    · exact h.st v hv
    · unfold succW at hv
      by_cases e : w.st = p.n
      · rw [if_pos e] at hv; simp at hv
      · rw [if_neg e, List.mem_map] at hv
        obtain ⟨j, hj, rfl⟩ := hv
        have := h.st w hm
        exact (p.on w.st j (by omega) ((hld w.st (by omega) j).1 hj)).2
  · have h1 := pot_succ hld hnd (h.st w hm)
    have h2 := h.po
    have e : L.drop i = w :: L.drop (i + 1) := by rw [List.drop_eq_getElem_cons hi, hwe]
    rw [e] at h2
    rw [List.drop_append_of_le_length (by omega), pot_append]
    simp only [pot, List.map_cons, List.sum_cons] at h2 h1 ⊢
    omega

theorem Gone.done {p : Par} {ld : Nat → List Nat} {i : Nat} {L : List Way} (h : Gone p ld i L) (e : i = L.length) : L = ⟨0, 0, 0⟩ :: L.flatMap (succW p ld) := by
  have := h.eq
  rwa [e, List.take_length] at this

/-- what all ways have in common binds what is told of them -/
theorem IsAgg.small {P : Nat → Nat → Prop} {s : Sets} {K B : Nat} (h : IsAgg P s) (hP : ∀ t b, P t b → t < 2 ^ K ∧ b ≤ B) : s.must < 2 ^ K ∧ s.may < 2 ^ K ∧ s.least ≤ B ∧ s.most ≤ B := by
  cases ht : s.there with
  | false =>
    rw [h.no ht]
    have : 0 < 2 ^ K := Nat.pos_of_ne_zero (by simp)
    exact ⟨this, this, Nat.zero_le _, Nat.zero_le _⟩
  | true =>
    obtain ⟨t0, b0, h0⟩ := h.th.1 ht
    obtain ⟨t1, h1⟩ := h.le ht
    obtain ⟨t2, h2⟩ := h.mo ht
    refine ⟨?_, ?_, (hP _ _ h1).2, (hP _ _ h2).2⟩
    · refine Nat.lt_pow_two_of_testBit _ fun k hk => ?_
      cases hb : s.must.testBit k with
      | false => rfl
      | true =>
        have := (h.mu ht k).1 hb t0 b0 h0
        rw [Nat.testBit_lt_two_pow (Nat.lt_of_lt_of_le (hP _ _ h0).1 (Nat.pow_le_pow_right (by decide) hk))] at this
        cases this
    · refine Nat.lt_pow_two_of_testBit _ fun k hk => ?_
      cases hb : s.may.testBit k with
      | false => rfl
      | true =>
        obtain ⟨t, b, hp, hx⟩ := (h.ma ht k).1 hb
        rw [Nat.testBit_lt_two_pow (Nat.lt_of_lt_of_le (hP _ _ hp).1 (Nat.pow_le_pow_right (by decide) hk))] at hx
        cases hx

theorem wy_small {p : Par} {K Z : Nat} (hb : ∀ i, p.hb i < 2 ^ K) (hz : ∀ i, p.sz i ≤ Z) {j t b : Nat} (h : Wy p j t b) : t < 2 ^ K ∧ b ≤ Z * j :=
  h (fun j t b => t < 2 ^ K ∧ b ≤ Z * j) ⟨Nat.pos_of_ne_zero (by simp), Nat.zero_le _⟩ fun i j t b ⟨h1, h2⟩ hi hj => ⟨Nat.or_lt_two_pow h1 (hb i), by
    have h3 := (p.on i j hi hj).1
    have h4 := hz i
    have h5 : Z * (i + 1) ≤ Z * j := Nat.mul_le_mul_left Z h3
    rw [Nat.mul_add, Nat.mul_one] at h5
    omega⟩

theorem wyN_small {p : Par} {K Z : Nat} (hb : ∀ i, p.hb i < 2 ^ K) (hz : ∀ i, p.sz i ≤ Z) {m j t b : Nat} (hm : m ≤ p.n) (h : WyN p m j t b) : t < 2 ^ K ∧ b ≤ Z * j := by
  rcases h with ⟨rfl, rfl, rfl⟩ | ⟨i, hi, hl, t', b', hw, rfl, rfl⟩
  · exact ⟨Nat.pos_of_ne_zero (by simp), Nat.zero_le _⟩
  · exact wy_small hb hz (hw.step (by omega) hl)
end Go.Proofs.YtajelgjbgehahaaGreat.Wk

namespace Go.Proofs.YtajelgjbgehahaaGreat
open Go.RowKit

/-- where a state leads -/
def outsP (x : PState) : List Int := x.cs.map CaseD.to ++ [x.els]

/-- the bit of a header -/
def bitN (h : Int) : Nat := if h < 0 then 0 else 2 ^ h.toNat

/-- the bytes of a header -/
def sizeN (ws : List Int) : Nat := Mth.off ws ws.length / 8

def szP (p : PPlan) (x : PState) : Nat := if x.head < 0 then 0 else sizeN (p.hs.getD x.head.toNat [])

def tgtN (n : Nat) (to : Int) : Nat := if to = 1000 then n else to.toNat

/-- where the program goes, one behind the other -/
def leadP (n : Nat) (l : List Int) : List Nat := l.filterMap fun to => if to = 1001 then none else some (tgtN n to)

/-- what the document goes to: each place once -/
def addL (n : Nat) (acc : List Nat) (to : Int) : List Nat := if tgtN n to ≤ n ∧ tgtN n to ∉ acc then acc ++ [tgtN n to] else acc

def leadR (n : Nat) (l : List Int) : List Nat := l.foldl (addL n) []

/-- the code of what is wrong with a state -/
def wrongN (x : PState) (s : Wk.Sets) : Int :=
  if 0 ≤ x.head ∧ s.may.testBit x.head.toNat = true then 7 else if 0 < x.cs.length ∧ 0 ≤ x.r.h ∧ x.r.h ≠ x.head ∧ s.must.testBit x.r.h.toNat = false then 12 else 0

def codeW (p : PPlan) (S : List Wk.Sets) (i : Nat) : Int := if (S.getD i Wk.zero).there = true then wrongN (p.ss.getD i PState.z) (S.getD i Wk.zero) else 0

/-- the fault of the ways: the first state that has one -/
def FirstW (p : PPlan) (S : List Wk.Sets) (C A : Int) : Prop :=
  (∃ i, i < p.ss.length ∧ codeW p S i ≠ 0 ∧ (∀ j, j < i → codeW p S j = 0) ∧ C = codeW p S i ∧ A = 3000 + i) ∨ ((∀ j, j < p.ss.length → codeW p S j = 0) ∧ C = 0 ∧ A = 0)
end Go.Proofs.YtajelgjbgehahaaGreat
