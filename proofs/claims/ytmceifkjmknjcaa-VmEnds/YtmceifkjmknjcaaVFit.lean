/- A right program's instructions are fit for the machine. -/
import Derived.Test.YtmceifkjmknjcaaVRun
namespace Go.Proofs.Ytmceifkjmknjcaa
open Go.RowKit

theorem inss_at {slots : Int} {ts : List ShapeD} {m : Int} : ∀ {cs : List InsD} {i : Int}, (inssN slots ts m cs i).1 = 0 → ∀ (j : Nat) x, cs[j]? = some x → insN slots ts m (i + j) x = 0 := by
  intro cs
  induction cs with
  | nil => intro i _ j x hx; simp at hx
  | cons y r ih =>
    intro i h j x hx
    rw [inssN] at h
    by_cases hy : insN slots ts m i y = 0
    · rw [if_pos hy] at h
      cases j with
      | zero =>
        simp only [List.getElem?_cons_zero, Option.some.injEq] at hx
        subst hx
        simpa using hy
      | succ j =>
        have := ih h j x (by simpa using hx)
        rw [← this]
        congr 1
        omega
    · rw [if_neg hy] at h
      exact absurd h hy

theorem vfit {slots : Int} {ts : List ShapeD} {cs : List InsD} (hw : ∀ x ∈ cs, x.wf) (h : (chkW slots ts cs).1 = 0) : CFit cs ∧ (ts = [] → ∀ x ∈ cs, x.op ≠ 13) := by
  unfold chkW at h
  by_cases h1 : (sizesN slots ts cs.length).1 ≠ 0
  · rw [if_pos h1] at h; exact absurd h h1
  rw [if_neg h1] at h
  by_cases h2 : (inssN slots ts cs.length cs 0).1 ≠ 0
  · rw [if_pos h2] at h; exact absurd h h2
  rw [if_neg h2] at h
  have h1 : (sizesN slots ts cs.length).1 = 0 := by simpa using h1
  have h2 : (inssN slots ts cs.length cs 0).1 = 0 := by simpa using h2
  unfold sizesN at h1
  by_cases a1 : inB slots 0 96 = false
  · rw [if_pos a1] at h1; exact absurd h1 (by decide)
  rw [if_neg a1] at h1
  have a1' := inB_iff.1 (by simpa using a1 : inB slots 0 96 = true)
  by_cases a2 : (decide (5 < (ts.length : Int)) || !inB cs.length 1 60000) = true
  · rw [if_pos a2] at h1; exact absurd h1 (by decide)
  simp only [Bool.or_eq_true, decide_eq_true_eq, Bool.not_eq_true', not_or, Bool.not_eq_false] at a2
  have a3 := inB_iff.1 a2.2
  have key : ∀ (i : Nat) (x : InsD), cs[i]? = some x → (formB x && fitsB slots ts x) = true ∧ (hasT x.op && decide ((cs.length : Int) - 1 - i ≤ x.to)) = false := fun i x hx => by
    have := inss_at h2 i x hx
    rw [Int.zero_add] at this
    unfold insN at this
    by_cases e1 : (formB x && fitsB slots ts x) = false
    · rw [if_pos e1] at this; exact absurd this (by decide)
    rw [if_neg e1] at this
    by_cases e2 : (hasT x.op && decide ((cs.length : Int) - 1 - i ≤ x.to)) = true
    · rw [if_pos e2] at this; exact absurd this (by decide)
    exact ⟨by simpa using e1, by simpa using e2⟩
  refine ⟨⟨fun i x hx => ?_, fun x hx => ?_, by omega, by omega⟩, fun ht x hx => ?_⟩
  · obtain ⟨e1, e2⟩ := key i x hx
    have hi := (List.getElem?_eq_some_iff.1 hx).1
    have hwx := hw x (List.mem_of_getElem? hx)
    have hnb := bounds_u64 hwx.2.2.2.2.2
    unfold formB regsB at e1
    simp only [Bool.and_eq_true, Bool.or_eq_true, decide_eq_true_eq, inB_iff] at e1
    obtain ⟨⟨⟨⟨e3, e4⟩, e5, e6⟩, e7⟩, e8⟩ := e1
    refine ⟨⟨⟨⟨e5.1, by omega⟩, e6.imp (fun h => h) (fun h => ⟨h.1, by omega⟩), fun h7 => ?_, e3⟩, ⟨by omega, by omega⟩, fun h6 => ?_, fun h14 => ?_⟩, e7, fun hT => ?_⟩
    · unfold fitsB at e8
      rw [if_neg (by omega), if_neg (by omega), if_neg (by omega), if_neg (by omega), if_pos h7] at e8
      have : x.n < slots := by simpa using e8
      omega
    · unfold fitsB at e8
      rw [if_neg (by omega), if_pos h6] at e8
      simp only [Bool.and_eq_true, decide_eq_true_eq, inB_iff] at e8
      omega
    · unfold fitsB at e8
      rw [if_neg (by omega), if_neg (by omega), if_pos h14] at e8
      have := inB_iff.1 e8
      omega
    · rw [hT, Bool.true_and] at e2
      have := of_decide_eq_false e2
      omega
  · by_cases e : endsB ((cs[cs.length - 1]?.map InsD.op).getD 0) = true
    · rw [hx] at e
      exact e
    · rw [if_neg e] at h
      exact absurd (show (18 : Int) = 0 from h) (by decide)
  · obtain ⟨i, hi, rfl⟩ := List.getElem_of_mem hx
    intro h13
    obtain ⟨e1, _⟩ := key i _ (List.getElem?_eq_getElem hi)
    simp only [Bool.and_eq_true] at e1
    have e8 := e1.2
    unfold fitsB at e8
    rw [if_neg (by omega), if_neg (by omega), if_neg (by omega), if_neg (by omega), if_neg (by omega), if_pos h13] at e8
    unfold callB at e8
    rw [ht] at e8
    simp at e8
end Go.Proofs.Ytmceifkjmknjcaa
