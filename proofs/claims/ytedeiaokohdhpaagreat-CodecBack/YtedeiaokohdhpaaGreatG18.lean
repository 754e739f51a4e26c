/- Texts of one chain, joined: QCopy, QOwn1, QEach. -/
import Derived.Test.YtedeiaokohdhpaaGreatG17
import Derived.Test.YtedeiaokohdhpaaGreatG0
namespace Go.Proofs.YtedeiaokohdhpaaGreat
open Go.RowKit
def kInt : Kd Int where
  k := 1
  cells x := [.int .i64 x]
  lie x w g o := CI w g o x
  inn x _ := wfI x
  pos := by decide
  len _ := rfl
  lay h i := ⟨h 0 _ rfl, i⟩
  cell h j u hu := by
    match j, hu with
    | 0, hu => cases hu; exact h.1
    | j + 1, hu => simp at hu
  out h := h.2
  cov i _ := i
  step i _ := i
  one x u hu := by simp at hu; subst hu; rfl
def CopyDone {α : Type} (K : Kd α) (T : TypeId) (S : List α) (n : Nat) (w : World) (e : Ending) (w' : World) : Prop :=
  ∃ a c, e = .returned (.slice a n c) ∧ w'.ownsRow w.heap.size T K.k (.slice a n c) n (S.flatMap K.cells) ∧ Below w.heap.size w w'
abbrev old (w : World) : Nat → Prop := fun b => b < w.heap.size
theorem fresh_row {α : Type} (K : Kd α) {T : TypeId} {w w' : World} {n c : Nat} {a : Option Addr} {S : List α} (h : w'.ownsRow w.heap.size T K.k (.slice a n c) n (S.flatMap K.cells)) (hi : ∀ s ∈ S, K.inn s (mask (old w) (fun _ => Classical.propDecidable _) w')) : QRow K.k K.lie (mask (old w) (fun _ => Classical.propDecidable _) w') ⟨a, n, c⟩ S := by
  refine K.row (base := w.heap.size) (T := T) ⟨h.1, ?_⟩ hi
  rcases h.2 with h2 | ⟨g, cap, cur, e, hb, hh, r⟩
  · exact .inl h2
  · exact .inr ⟨g, cap, cur, e, hb, (mask_off (F := old w) (k := g) (show ¬ g < w.heap.size by omega)).trans hh, r⟩
theorem CopyDone.row {α : Type} {K : Kd α} {T : TypeId} {S : List α} {n : Nat} {w : World} {e : Ending} {w' : World} (h : CopyDone K T S n w e w') (hi : ∀ s ∈ S, K.inn s (mask (old w) (fun _ => Classical.propDecidable _) w')) : ∃ a c, e = .returned (.slice a n c) ∧ QRow K.k K.lie (mask (old w) (fun _ => Classical.propDecidable _) w') ⟨a, n, c⟩ S ∧ QSl.nil0 ⟨a, n, c⟩ ∧ Below w.heap.size w w' := by
  obtain ⟨a, c, e, h1, h2⟩ := h
  exact ⟨a, c, e, fresh_row K h1 hi, Kd.own_nil0 h1, h2⟩
end Go.Proofs.YtedeiaokohdhpaaGreat

namespace Go.Proofs.YtedeiaokohdhpaaGreat
open Go.RowKit
theorem Kd.keeps {α : Type} (K : Kd α) : Keeps K.lie := fun h b => K.lay (fun j u hu => cell_keep (K.cell h j u hu) b) (K.step (K.out h) b)
theorem Kd.covs {α : Type} (K : Kd α) : Covs K.lie := fun h c => K.lay (fun j u hu => c.2 _ _ _ (K.cell h j u hu)) (K.cov (K.out h) c)
structure Abv (B : Nat) (w w' : World) : Prop where
  os : w'.os = w.os
  tape : w'.tape = w.tape
  output : w'.output = w.output
  size : w'.heap.size = w.heap.size
  block : ∀ k, B ≤ k → w'.heap[k]? = w.heap[k]?
theorem Abv.refl (B : Nat) (w : World) : Abv B w w := ⟨rfl, rfl, rfl, rfl, fun _ _ => rfl⟩
theorem Abv.put {B : Nat} {a w : World} (h : Abv B a w) {p : Addr} (hp : p.block < B) (u : Value) : Abv B a (w.setCell p u) :=
  ⟨h.os, h.tape, h.output, by rw [World.size_setCell]; exact h.size, fun k hk => (Below.heap_setCell _ _ _ _ (by omega)).trans (h.block k hk)⟩
end Go.Proofs.YtedeiaokohdhpaaGreat

namespace Go.Proofs.YtedeiaokohdhpaaGreat
open Go.RowKit
def setsAt (w : World) (g : Nat) : Nat → List Value → World
  | _, [] => w
  | o, u :: us => setsAt (w.setCell ⟨g, o, none⟩ u) g (o + 1) us
def setAll (xs : List Value) : Nat → List Value → List Value
  | _, [] => xs
  | o, u :: us => setAll (xs.set o u) (o + 1) us
theorem sets_owns {base n cap k g : Nat} {T : TypeId} {us : List Value} : ∀ {w : World} {xs : List Value} {o : Nat}, w.ownsRow base T k (.slice (some ⟨g, 0, none⟩) n cap) n xs → (setsAt w g o us).ownsRow base T k (.slice (some ⟨g, 0, none⟩) n cap) n (setAll xs o us) ∧ w.grownBy (setsAt w g o us) (some g) := by
  induction us with
  | nil => intro w xs o h; exact ⟨h, rfl, rfl, rfl, Nat.le_refl _, fun _ _ _ => rfl⟩
  | cons u us ih =>
    intro w xs o h
    obtain ⟨h1, h2⟩ := h.stored o u
    obtain ⟨h3, h4⟩ := ih h1 (o := o + 1)
    refine ⟨h3, h4.os.trans h2.os, h4.tape.trans h2.tape, h4.output.trans h2.output, Nat.le_trans h2.size h4.size, fun j hj hne => ?_⟩
    exact (h4.block j (Nat.lt_of_lt_of_le hj h2.size) hne).trans (h2.block j hj hne)
theorem setAll_at (us : List Value) : ∀ (xs : List Value) (o j : Nat), o + us.length ≤ xs.length → (setAll xs o us)[j]? = if o ≤ j ∧ j < o + us.length then us[j - o]? else xs[j]? := by
  induction us with
  | nil => intro xs o j _; rw [if_neg (by simp only [List.length_nil]; omega)]; rfl
  | cons u us ih =>
    intro xs o j h
    simp only [List.length_cons] at h
    show (setAll (xs.set o u) (o + 1) us)[j]? = _
    rw [ih _ _ _ (by rw [List.length_set]; omega), List.getElem?_set]
    by_cases h1 : o + 1 ≤ j ∧ j < o + 1 + us.length
    · rw [if_pos h1, if_pos ⟨by omega, by simp only [List.length_cons]; omega⟩, show j - o = (j - (o + 1)) + 1 by omega]
      rfl
    · rw [if_neg h1]
      by_cases h2 : o = j
      · subst h2
        rw [if_pos rfl, if_pos (show o < xs.length by omega), if_pos (show o ≤ o ∧ o < o + (u :: us).length from ⟨Nat.le_refl _, by simp only [List.length_cons]; omega⟩), Nat.sub_self]
        rfl
      · rw [if_neg h2, if_neg (by simp only [List.length_cons]; omega)]
theorem Kd.flat_set {α : Type} (K : Kd α) {L : List α} {i : Nat} (x' : α) (hi : i < L.length) : setAll (L.flatMap K.cells) (i * K.k) (K.cells x') = (L.set i x').flatMap K.cells := by
  have hle : i * K.k + K.k ≤ L.length * K.k := by
    have : (i + 1) * K.k ≤ L.length * K.k := Nat.mul_le_mul_right _ hi
    rw [Nat.add_mul] at this
    omega
  apply List.ext_getElem?
  intro j
  rw [setAll_at _ _ _ _ (by rw [K.len, K.flat_len]; exact hle), K.len]
  by_cases h : i * K.k ≤ j ∧ j < i * K.k + K.k
  · rw [if_pos h]
    have hr : j - i * K.k < (K.cells x').length := by rw [K.len]; omega
    rw [List.getElem?_eq_getElem hr]
    have := K.flat_at (S := L.set i x') (i := i) (r := j - i * K.k) (s := x') (by rw [List.getElem?_set_self hi]) (List.getElem?_eq_getElem hr)
    rw [← this]
    congr 1
    omega
  · rw [if_neg h]
    by_cases hj : j < L.length * K.k
    · have hjl : j < (L.flatMap K.cells).length := by rw [K.flat_len]; exact hj
      obtain ⟨i', r, s, h1, h2, h3⟩ := K.flat_of (List.getElem?_eq_getElem hjl)
      have hrk : r < K.k := by have := (List.getElem?_eq_some_iff.1 h2).1; rwa [K.len] at this
      have hne : i ≠ i' := by
        rintro rfl
        exact h ⟨by omega, by omega⟩
      subst h3
      rw [List.getElem?_eq_getElem hjl]
      exact (K.flat_at (S := L.set i x') (by rw [List.getElem?_set_ne hne]; exact h1) h2).symm
    · rw [List.getElem?_eq_none (by rw [K.flat_len]; omega), List.getElem?_eq_none (by rw [K.flat_len, List.length_set]; omega)]
abbrev rowF (w : World) (a : Option Addr) : Nat → Prop := fun b => b < w.heap.size ∨ (Value.slice a 0 0).ownBlock = some b
structure EachAt {α β : Type} (K : Kd α) (f : α → β) (T : TypeId) (S : List α) (n : Nat) (w : World) (a : Option Addr) (c i : Nat) (L : List α) (wr : World) : Prop where
  own : wr.ownsRow w.heap.size T K.k (.slice a n c) n (L.flatMap K.cells)
  len : L.length = n
  done : ∀ (j : Nat) (x : α), j < i → L[j]? = some x → K.inn x (mask (rowF w a) (fun _ => Classical.propDecidable _) wr)
  eqv : L.map f = S.map f
  rest : ∀ j, i ≤ j → L[j]? = S[j]?
  bel : Below w.heap.size w wr
theorem owns_belowK {w w' : World} {base n k : Nat} {T : TypeId} {v : Value} {xs : List Value} (h : w.ownsRow base T k v n xs) (b : Below w.heap.size w w') : w'.ownsRow base T k v n xs :=
  h.kept (row := none) ⟨b.os, b.tape, b.output, b.size, fun k hk _ => b.block k hk⟩ (by cases v.ownBlock <;> simp)
theorem EachAt.next {α β : Type} {K : Kd α} {f : α → β} {T : TypeId} {S : List α} {n : Nat} {w : World} {g c i : Nat} {L : List α} {wr W w1 : World} {x x' : α} (h : EachAt K f T S n w (some ⟨g, 0, none⟩) c i L wr) (hi : i < n) (hx : L[i]? = some x)
    (hW : Below wr.heap.size wr W) (hb : Below W.heap.size W w1) (hf : f x' = f x) (hin : K.inn x' (mask (old W) (fun _ => Classical.propDecidable _) w1)) : EachAt K f T S n w (some ⟨g, 0, none⟩) c (i + 1) (L.set i x') (setsAt w1 g (i * K.k) (K.cells x')) := by
  have hg := h.own.lt g rfl
  have hbb : Below wr.heap.size wr w1 := bl_step hW hb
  have h1 := owns_belowK h.own hbb
  obtain ⟨h2, h3⟩ := sets_owns (o := i * K.k) (us := K.cells x') h1
  rw [K.flat_set x' (by rw [h.len]; exact hi)] at h2
  have hkeep : Below (mask (rowF w (some ⟨g, 0, none⟩)) (fun _ => Classical.propDecidable _) wr).heap.size (mask (rowF w (some ⟨g, 0, none⟩)) (fun _ => Classical.propDecidable _) wr) (mask (rowF w (some ⟨g, 0, none⟩)) (fun _ => Classical.propDecidable _) (setsAt w1 g (i * K.k) (K.cells x'))) :=
    mask_below (h3.os.trans hbb.os) (h3.tape.trans hbb.tape) (h3.output.trans hbb.output) (Nat.le_trans hbb.size h3.size) (fun _ h => h) fun k hk hF => ⟨hF, (h3.block k (Nat.lt_of_lt_of_le hk hbb.size) (fun e => hF (.inr e.symm))).trans (hbb.block k hk)⟩
  refine ⟨h2, by rw [List.length_set]; exact h.len, fun j y hj hy => ?_, ?_, fun j hj => ?_, ?_⟩
  · by_cases e : j = i
    · subst e
      rw [List.getElem?_set_self (by rw [h.len]; exact hi)] at hy
      cases hy
      have hnew : Below (mask (old W) (fun _ => Classical.propDecidable _) w1).heap.size (mask (old W) (fun _ => Classical.propDecidable _) w1) (mask (old W) (fun _ => Classical.propDecidable _) (setsAt w1 g (j * K.k) (K.cells x'))) :=
        mask_below h3.os h3.tape h3.output h3.size (fun _ h => h) fun k hk hF => ⟨hF, h3.block k hk (fun e => hF (by
          have e' : k = g := Option.some.inj e
          have := hW.size
          show k < W.heap.size
          omega))⟩
      refine K.cov (K.step hin hnew) (cov_less _ fun b hb => ?_)
      have := hW.size
      have := h.bel.size
      rcases hb with hb | hb
      · show b < W.heap.size
        omega
      · have e' : g = b := Option.some.inj hb
        show b < W.heap.size
        omega
    · rw [List.getElem?_set_ne (by omega)] at hy
      exact K.step (h.done j y (by omega) hy) hkeep
  · rw [List.map_set, hf, ← h.eqv]
    apply List.ext_getElem?
    intro j
    rw [List.getElem?_set]
    by_cases e : i = j
    · subst e
      rw [if_pos rfl, List.getElem?_map, hx]
      simp [h.len, hi]
    · rw [if_neg e]
  · rw [List.getElem?_set_ne (by omega)]
    exact h.rest j (by omega)
  · exact (h.bel.trans (hbb.mono h.bel.size)).grown h3 (Nat.le_trans h.bel.size hbb.size) fun k hk => by cases hk; exact hg.1
theorem EachAt.start {α β : Type} {K : Kd α} {f : α → β} {T : TypeId} {S : List α} {n : Nat} {w : World} {a : Option Addr} {c : Nat} {w1 : World} (ho : w1.ownsRow w.heap.size T K.k (.slice a n c) n (S.flatMap K.cells)) (hl : S.length = n) (hb : Below w.heap.size w w1) : EachAt K f T S n w a c 0 S w1 :=
  ⟨ho, hl, fun _ _ hj => absurd hj (Nat.not_lt_zero _), rfl, fun _ _ => rfl, hb⟩
theorem EachAt.at {α β : Type} {K : Kd α} {f : α → β} {T : TypeId} {S : List α} {n : Nat} {w : World} {a : Option Addr} {c i : Nat} {L : List α} {wr : World} (h : EachAt K f T S n w a c i L wr) (hi : i < n) : ∃ g x, a = some ⟨g, 0, none⟩ ∧ L[i]? = some x ∧ S[i]? = some x ∧ w.heap.size ≤ g ∧ g < wr.heap.size ∧ (∀ j u, (K.cells x)[j]? = some u → wr.cell? ⟨g, i * K.k + j, none⟩ = some u) ∧ ∀ j, wr.frozen? ⟨g, j, none⟩ = false := by
  have hl : i < L.length := by rw [h.len]; exact hi
  rcases h.own.2 with ⟨_, e⟩ | ⟨g, cap, cur, e, _⟩
  · omega
  · simp only [Value.slice.injEq] at e
    obtain ⟨rfl, _, rfl⟩ := e
    obtain ⟨h1, h2⟩ := h.own.lt g rfl
    have hx := List.getElem?_eq_getElem hl
    refine ⟨g, _, rfl, hx, by rw [← h.rest i (Nat.le_refl _)]; exact hx, h1, h2, fun j u hu => ?_, fun j => h.own.frozenAt j⟩
    have hr : j < K.k := by have := (List.getElem?_eq_some_iff.1 hu).1; rwa [K.len] at this
    rw [h.own.cellAt _ ?_, K.flat_at hx hu]
    have : (i + 1) * K.k ≤ n * K.k := Nat.mul_le_mul_right _ (by omega)
    rw [Nat.add_mul] at this
    omega
end Go.Proofs.YtedeiaokohdhpaaGreat
