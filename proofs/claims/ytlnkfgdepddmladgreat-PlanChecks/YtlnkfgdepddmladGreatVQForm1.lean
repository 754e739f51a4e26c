/- What a plan without a fault so far says of its widths; how FormFault comes to its answer. -/
import Derived.Test.YtlnkfgdepddmladGreatVQR7
import Derived.Test.YtlnkfgdepddmladGreatJ3
import Derived.Test.YtlnkfgdepddmladGreatVSizeRef
namespace Go.Proofs.YtlnkfgdepddmladGreat
open Go.RowKit

/-- what SizeOf tells: its code -/
theorem rsize_code (a : Option Addr) (m c : Nat) (ws : List Int) (w : World) (hw : Has .i64 w a m ws) :
    Calls Tryz.prog 55 #[HD a m c] w fun e w' => ∃ x y, e = .returned (.tuple #[.int .i64 x, .agg #[.int .i64 (sizeC ws), .int .i64 y]]) ∧ Below w.heap.size w w' := by
  have hl := hw.1
  by_cases h1 : (m : Int) < 1 ∨ 8 < (m : Int)
  · have e : sizeC ws = 2 := by unfold sizeC; rw [if_pos (by omega)]
    rw [e]
    exact (rsize_many a m c w h1).mono fun _ _ ⟨h2, h3⟩ => ⟨0, -1, h2, h3⟩
  have hn : ¬ (ws.length < 1 ∨ 8 < ws.length) := by omega
  rcases first_of (Mth.Fit ws) m with hall | ⟨i, hi, hbad, hgood⟩
  · have e : sizeC ws = if Mth.off ws m % 8 = 0 ∧ Mth.off ws m ≤ 256 then 0 else 6 := by
      unfold sizeC
      rw [if_neg hn, hl, if_pos hall]
    rw [e]
    refine (rsize_end a m c ws w (by omega) (by omega) hw hall).mono fun q w' ⟨x, h2, h3, h4⟩ => ?_
    by_cases h5 : Mth.off ws m % 8 = 0 ∧ Mth.off ws m ≤ 256
    · rw [if_pos h5]
      exact ⟨_, _, by rw [h2, h3.1 h5], h4⟩
    · rw [if_neg h5]
      exact ⟨_, _, by rw [h2, h3.2 h5], h4⟩
  · have e : sizeC ws = 6 := by
      unfold sizeC
      rw [if_neg hn, if_neg (fun h => hbad (h i (by omega)))]
    rw [e]
    exact (rsize_width a m c i ws w (by omega) (by omega) hw hi hgood hbad).mono fun _ _ ⟨h2, h3⟩ => ⟨0, i, h2, h3⟩

theorem nofault_all {d : PlanD} {cs : Nat → Nat → Int} {k : Nat} (h : NoFault d cs k) : ∀ j, j < manyOf d k → cs k j = 0 := by
  obtain ⟨A, h⟩ := h
  rcases h with ⟨_, h, _⟩ | ⟨_, ⟨n, _, hc, _, h, _⟩ | ⟨h, _, _⟩⟩
  · cases h
  · exact absurd h.symm hc
  · exact h

theorem ex_many {d : PlanD} {cs : Nat → Nat → Int} {k : Nat} (hk : k < 7) (hp : ∀ j, j < k → NoFault d cs j) (h : (manyOf d k : Int) < leastOf k ∨ mostOf k < (manyOf d k : Int)) : CheckIs d cs 2 (-((k : Int) + 1)) :=
  .inl ⟨k, hk, .inl ⟨h, rfl, rfl⟩, by decide, hp⟩

theorem ex_at {d : PlanD} {cs : Nat → Nat → Int} {k n : Nat} {C : Int} (hk : k < 7) (hp : ∀ j, j < k → NoFault d cs j) (h : ¬ ((manyOf d k : Int) < leastOf k ∨ mostOf k < (manyOf d k : Int))) (hn : n < manyOf d k) (hz : ∀ j, j < n → cs k j = 0) (hC : cs k n = C) (h0 : C ≠ 0) : CheckIs d cs C (1000 * ((k : Int) + 1) + n) :=
  .inl ⟨k, hk, .inr ⟨h, .inl ⟨n, hn, by rw [hC]; exact h0, hz, hC.symm, rfl⟩⟩, h0, hp⟩

theorem ex_next {d : PlanD} {cs : Nat → Nat → Int} {k : Nat} (hp : ∀ j, j < k → NoFault d cs j) (h : ¬ ((manyOf d k : Int) < leastOf k ∨ mostOf k < (manyOf d k : Int))) (hz : ∀ j, j < manyOf d k → cs k j = 0) : ∀ j, j < k + 1 → NoFault d cs j := by
  intro j hj
  by_cases e : j = k
  · subst e
    exact ⟨0, .inr ⟨h, .inr ⟨hz, rfl, rfl⟩⟩⟩
  · exact hp j (by omega)

theorem next_zero {c : Nat → Int} {k : Nat} (h : ∀ j, j < k → c j = 0) (hk : c k = 0) : ∀ j, j < k + 1 → c j = 0 := by
  intro j hj
  by_cases e : j = k
  · rw [e]; exact hk
  · exact h j (by omega)

theorem wid_of {x : Int} (h : widC x = 0) : 1 ≤ x ∧ x ≤ 48 := by
  unfold widC at h
  split at h
  · cases h
  · omega

theorem size_wid {ws : List Int} (h : sizeC ws = 0) : ∀ x ∈ ws, 1 ≤ x ∧ x ≤ 48 := by
  intro x hx
  unfold sizeC at h
  split at h
  · cases h
  split at h
  · rename_i _ hf
    obtain ⟨i, hi, rfl⟩ := List.getElem_of_mem hx
    have := hf i hi
    unfold Mth.Fit at this
    rw [List.getD_eq_getElem?_getD, List.getElem?_eq_getElem hi, Option.getD_some] at this
    omega
  · cases h

theorem first_zero {l : List Int} (h : firstC l = 0) : ∀ x ∈ l, x = 0 := by
  induction l with
  | nil => intro x hx; cases hx
  | cons y l ih =>
    unfold firstC at h
    split at h
    · rename_i hy
      exact absurd h hy
    · rename_i hy
      intro x hx
      rcases List.mem_cons.1 hx with rfl | hx
      · omega
      · exact ih h x hx

/-- widths of fields, if headers and Meta have no fault -/
theorem width_ok {d : PlanD} {w : World} (hl : d.lie w) (h : ∀ j, j < 2 → NoFault d (codeP d.p) j) (r : RefD) : 0 ≤ d.p.width r [] ∧ d.p.width r [] ≤ 48 := by
  have h0 := nofault_all (h 0 (by decide))
  have h1 := nofault_all (h 1 (by decide))
  have key : ∀ x ∈ d.p.fields r.h [], 0 ≤ x ∧ x ≤ 48 := by
    intro x hx
    unfold PPlan.fields at hx
    split at hx
    · obtain ⟨i, hi, rfl⟩ := List.getElem_of_mem hx
      have hi' : i < d.ms.length := hi
      have := h1 i (by show i < d.mta.n; rw [← hl.ms.1]; exact hi')
      have e : codeP d.p 1 i = widC (d.p.ms.getD i 0) := rfl
      rw [e, List.getD_eq_getElem?_getD, List.getElem?_eq_getElem hi, Option.getD_some] at this
      have := wid_of this
      omega
    split at hx
    · cases hx
    split at hx
    · simp only [List.mem_cons, List.not_mem_nil, or_false] at hx
      omega
    split at hx
    · cases hx
    · rename_i hh
      have hn : r.h.toNat < d.heads.n := by
        have : d.p.hs.length = d.heads.n := by simp [PlanD.p, hl.hs.1]
        omega
      have := h0 r.h.toNat hn
      have e : codeP d.p 0 r.h.toNat = sizeC (d.p.hs.getD r.h.toNat []) := rfl
      rw [e] at this
      have := size_wid this x hx
      omega
  unfold PPlan.width
  split
  · omega
  · rename_i hh
    have hf : r.f.toNat < (d.p.fields r.h []).length := by omega
    rw [List.getD_eq_getElem?_getD, List.getElem?_eq_getElem hf, Option.getD_some]
    exact key _ (List.getElem_mem hf)

/-- widths of parameters, if actions have no fault -/
theorem param_ok {d : PlanD} {w : World} (hl : d.lie w) (h : NoFault d (codeP d.p) 3) : ∀ x ∈ d.al, ∀ y ∈ x.ws, 1 ≤ y ∧ y ≤ 64 := by
  intro x hx y hy
  obtain ⟨i, hi, rfl⟩ := List.getElem_of_mem hx
  have hi' : i < d.acts.n := by rw [← hl.al.1]; exact hi
  have := nofault_all h i hi'
  have e : codeP d.p 3 i = actC d.p (d.al[i]).p := by
    show actC d.p (d.p.al.getD i PAct.z) = _
    rw [show d.p.al.getD i PAct.z = (d.al[i]).p from map_getD (List.getElem?_eq_getElem hi) _]
  rw [e] at this
  unfold actC at this
  split at this
  · cases this
  · unfold or2 at this
    split at this
    · rename_i hne
      exact absurd this hne
    · rename_i hz
      have h0 : firstC ((d.al[i]).p.ws.map widC) = 0 := by omega
      have := wid_of (first_zero h0 (widC y) (List.mem_map.2 ⟨y, hy, rfl⟩))
      omega
end Go.Proofs.YtlnkfgdepddmladGreat
