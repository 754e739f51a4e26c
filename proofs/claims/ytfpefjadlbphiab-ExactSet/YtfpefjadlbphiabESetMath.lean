/- What ExactSet stands on: the same entries in another order. -/
import Derived.Test.YtfpefjadlbphiabEAll
namespace Go.Proofs.Ytfpefjadlbphiab
open Go.RowKit Go.Maps Go.Sort

/-- the same, turned round -/
def turned (zs : List (List UInt8)) (c : Nat) : List (List UInt8) := zs.drop c ++ zs.take c

theorem turned_length (zs : List (List UInt8)) (c : Nat) (h : c ≤ zs.length) : (turned zs c).length = zs.length := by
  simp [turned]; omega

theorem turned_perm (zs : List (List UInt8)) (c : Nat) : (turned zs c).Perm zs := by
  unfold turned
  exact List.perm_append_comm.trans (List.Perm.of_eq (List.take_append_drop c zs))

theorem turned_at (zs : List (List UInt8)) (c k : Nat) (h : c < zs.length) (hk : k < zs.length) : (turned zs c)[k]? = zs[(k + c) % zs.length]? := by
  unfold turned
  by_cases hc : k < zs.length - c
  · rw [List.getElem?_append_left (by simpa using hc), List.getElem?_drop, Nat.mod_eq_of_lt (by omega), Nat.add_comm]
  · rw [List.getElem?_append_right (by simp; omega), List.length_drop, List.getElem?_take, if_pos (by omega)]
    congr 1
    rw [Nat.mod_eq_sub_mod (by omega), Nat.mod_eq_of_lt (by omega)]
    omega

/-- what is said for some of the names -/
def part (C : List UInt8 → Option (Int × List Int)) (l : List (List UInt8)) : List UInt8 → Option (Int × List Int) := fun x => if x ∈ l then C x else none

theorem part_snoc {C : List UInt8 → Option (Int × List Int)} {l : List (List UInt8)} {x : List UInt8} {h : Int × List Int} (hx : C x = some h) : upd (part C l) x (some h) = part C (l ++ [x]) := by
  funext y
  unfold upd part
  by_cases e : y = x
  · subst e; simp [hx]
  · simp [e]

theorem part_all {C : List UInt8 → Option (Int × List Int)} {l : List (List UInt8)} (h : ∀ x, x ∈ l ↔ (C x).isSome = true) : part C l = C := by
  funext y
  unfold part
  by_cases e : y ∈ l
  · rw [if_pos e]
  · rw [if_neg e]
    cases hy : C y with
    | none => rfl
    | some z => exact absurd ((h y).2 (by rw [hy]; rfl)) e

theorem part_none (C : List UInt8 → Option (Int × List Int)) : part C [] = fun _ => none := by
  funext y; simp [part]

theorem rising_perm (ss : List (List UInt8)) : (rising ss).Perm ss := List.mergeSort_perm _ _

theorem rising_same {l m : List (List UInt8)} (h : l.Perm m) : rising l = rising m := mergeSort_of_perm h

/-- the next name -/
theorem turned_next {zs : List (List UInt8)} {c k : Nat} (nd : zs.Nodup) (h : c < zs.length) (hk : k < zs.length) : ∃ x, zs[(k + c) % zs.length]? = some x ∧ x ∈ zs ∧ x ∉ (turned zs c).take k ∧ (turned zs c).take (k + 1) = (turned zs c).take k ++ [x] := by
  have hl := turned_length zs c (Nat.le_of_lt h)
  have hk' : k < (turned zs c).length := by omega
  have e := turned_at zs c k h hk
  have nd' : (turned zs c).Nodup := (turned_perm zs c).nodup_iff.2 nd
  refine ⟨(turned zs c)[k], by rw [← e]; exact List.getElem?_eq_getElem hk', (turned_perm zs c).mem_iff.1 (List.getElem_mem hk'), ?_, List.take_succ_eq_append_getElem hk'⟩
  intro hx
  obtain ⟨j, hj, e2⟩ := List.getElem_of_mem hx
  rw [List.getElem_take] at e2
  have hjk : j < k := by simp at hj; omega
  exact (List.pairwise_iff_getElem.1 nd') j k (by omega) hk' hjk e2
end Go.Proofs.Ytfpefjadlbphiab
