/- Tables by masks: the sorted list and the list as it came are permutations of each other. -/
import Derived.Test.YtlnkfgdepddmlacMChg
namespace Go.Proofs.Ytlnkfgdepddmlac
open Go.RowKit Mth

theorem perm_ex {α : Type} {T E : List α} (h : T.Perm E) (P : α → Prop) : (∃ x ∈ T, P x) ↔ ∃ x ∈ E, P x :=
  ⟨fun ⟨x, hx, hp⟩ => ⟨x, h.mem_iff.1 hx, hp⟩, fun ⟨x, hx, hp⟩ => ⟨x, h.mem_iff.2 hx, hp⟩⟩

theorem addC_perm {T E : List TE} (h : T.Perm E) (keys most : Int) (e : TE) : addCM keys most T e = addCM keys most E e := by
  have h1 := perm_ex h fun x => SameP x e
  have h2 : ClashM T e ↔ ClashM E e := perm_ex h fun x => x.pr = e.pr ∧ Meets x e
  unfold addCM
  simp only [h1, h2, h.length_eq]

theorem hasC_perm {T E : List TE} (h : T.Perm E) (keys : Int) (e : TE) : hasCM keys T e = hasCM keys E e := by
  have h1 := perm_ex h fun x => SameP x e
  unfold hasCM
  simp only [h1]

theorem add_perm {T E : List TE} (h : T.Perm E) (i : Nat) (e : TE) : (T.take i ++ e :: T.drop i).Perm (E ++ [e]) := by
  refine List.perm_middle.trans ?_
  rw [List.take_append_drop]
  exact (h.cons e).trans (List.perm_append_singleton e E).symm

theorem erase_perm {α : Type} {l : List α} {i : Nat} {x : α} (h : l[i]? = some x) : l.Perm (x :: l.eraseIdx i) := by
  obtain ⟨hi, rfl⟩ := List.getElem?_eq_some_iff.1 h
  rw [erase_parts]
  refine List.Perm.trans (.of_eq ?_) List.perm_middle
  rw [← List.drop_eq_getElem_cons hi, List.take_append_drop]

theorem set_perm {α : Type} {l : List α} {i : Nat} (h : i < l.length) (x : α) : (l.set i x).Perm (x :: l.eraseIdx i) := by
  have h1 : (l.set i x)[i]? = some x := List.getElem?_set_self h
  have h2 := erase_perm h1
  rwa [erase_parts, List.take_set_of_le (Nat.le_refl i), List.drop_set_of_lt (Nat.lt_succ_self i), ← erase_parts] at h2

/-- where an entry's place is -/
theorem cut_ex {T : List TE} (h : SortedM T) (e : TE) : ∃ i, Cut T e i := by
  induction T with
  | nil => exact ⟨0, Nat.le_refl _, fun t x ht => absurd ht (Nat.not_lt_zero _), fun t x _ hx => by simp at hx⟩
  | cons a T ih =>
    rw [SortedM, List.pairwise_cons] at h
    by_cases ha : cmpE a e < 0
    · obtain ⟨i, c⟩ := ih h.2
      refine ⟨i + 1, by simpa using c.le, fun t x ht hx => ?_, fun t x ht hx => ?_⟩
      · cases t with
        | zero => simp at hx; subst hx; exact ha
        | succ t => exact c.lo t x (by omega) (by simpa using hx)
      · cases t with
        | zero => omega
        | succ t => exact c.hi t x (by omega) (by simpa using hx)
    · refine ⟨0, Nat.zero_le _, fun t x ht => absurd ht (Nat.not_lt_zero _), fun t x _ hx hc => ha ?_⟩
      cases t with
      | zero => simp at hx; subst hx; exact hc
      | succ t => exact cmpE_trans (h.1 x (List.mem_of_getElem? (by simpa using hx))) hc

theorem sorted_same {T : List TE} (h : SortedM T) {x y : TE} (hx : x ∈ T) (hy : y ∈ T) (hs : SameP x y) : x = y := by
  obtain ⟨i, hi, rfl⟩ := List.getElem_of_mem hx
  obtain ⟨j, hj, rfl⟩ := List.getElem_of_mem hy
  have h0 := (cmpE_eq _ _).2 hs
  rcases Nat.lt_trichotomy i j with q | q | q
  · have := sorted_at h q (List.getElem?_eq_getElem hi) (List.getElem?_eq_getElem hj)
    omega
  · subst q; rfl
  · have := sorted_at h q (List.getElem?_eq_getElem hj) (List.getElem?_eq_getElem hi)
    rw [cmpE_flip] at this
    omega

/-- the one of that place in the sorted list -/
theorem cut_at {T E : List TE} (h : SortedM T) (hp : T.Perm E) {e x : TE} {j : Nat} (hx : E[j]? = some x) (hs : SameP x e) : T[cutI T e]? = some x := by
  obtain ⟨i, c⟩ := cut_ex h e
  rw [cut_is c]
  have hxT : x ∈ T := hp.mem_iff.2 (List.mem_of_getElem? hx)
  obtain ⟨y, hy, h0⟩ := (cut_found h c).2 ⟨x, hxT, hs⟩
  have hye := (cmpE_eq _ _).1 h0
  rw [hy, sorted_same h (List.mem_of_getElem? hy) hxT ⟨hye.1.trans hs.1.symm, hye.2.1.trans hs.2.1.symm, hye.2.2.trans hs.2.2.symm⟩]

theorem drop_perm {T E : List TE} (h : SortedM T) (hp : T.Perm E) {e x : TE} {j : Nat} (hx : E[j]? = some x) (hs : SameP x e) : (T.eraseIdx (cutI T e)).Perm (E.eraseIdx j) := by
  have h1 := erase_perm (cut_at h hp hx hs)
  have h2 := erase_perm hx
  exact List.Perm.cons_inv (h1.symm.trans (hp.trans h2))

theorem chg_perm {T E : List TE} (h : SortedM T) (hp : T.Perm E) {e x : TE} {j : Nat} (hx : E[j]? = some x) (hs : SameP x e) : (T.set (cutI T e) e).Perm (E.set j e) := by
  have h1 := (List.getElem?_eq_some_iff.1 (cut_at h hp hx hs)).1
  have h2 := (List.getElem?_eq_some_iff.1 hx).1
  exact (set_perm h1 e).trans (((drop_perm h hp hx hs).cons e).trans (set_perm h2 e).symm)
end Go.Proofs.Ytlnkfgdepddmlac
