/- A right plan's parser, in plain numbers. -/
import Derived.Test.YtajelgjbgehahaaGreatJ3
import Derived.Test.YtajelgjbgehahaaGreatJ9
namespace Go.Proofs.YtajelgjbgehahaaGreat
open Go.RowKit

theorem partF_zero {num : Int} {many : Nat} {least most : Int} {c : Nat → Int} (h : (partF num many least most c).1 = 0) : least ≤ (many : Int) ∧ (many : Int) ≤ most ∧ ∀ n, n < many → c n = 0 := by
  have hf := partF_is num many least most c
  rw [h] at hf
  rcases hf with ⟨_, h2, _⟩ | ⟨h1, ⟨n, _, hc, _, h2, _⟩ | ⟨h2, _⟩⟩
  · exact absurd h2 (by decide)
  · exact absurd h2.symm hc
  · exact ⟨by omega, by omega, h2⟩

theorem chkGo_zero {p : PPlan} {cs : Nat → Nat → Int} : ∀ m, m ≤ 7 → (chkGo p cs m).1 = 0 → ∀ j, 7 - m ≤ j → j < 7 → (partF ((j : Int) + 1) (manyP p j) (leastOf j) (mostOf j) (cs j)).1 = 0
  | 0, _, _, j, h1, h2 => absurd h1 (by omega)
  | m + 1, hm, h, j, h1, h2 => by
    unfold chkGo at h
    by_cases hc : (partF (((6 - m : Nat) : Int) + 1) (manyP p (6 - m)) (leastOf (6 - m)) (mostOf (6 - m)) (cs (6 - m))).1 = 0
    · rw [if_neg (fun h => h hc)] at h
      by_cases e : j = 6 - m
      · subst e; exact hc
      · exact chkGo_zero m (by omega) h j (by omega) h2
    · rw [if_pos hc] at h
      exact absurd h hc

/-- what plan.Check has let by -/
theorem chk_zero {p : PPlan} (h : (chkP p).1 = 0) (j : Nat) (hj : j < 7) : leastOf j ≤ (manyP p j : Int) ∧ (manyP p j : Int) ≤ mostOf j ∧ ∀ n, n < manyP p j → codeP p j n = 0 := partF_zero (chkGo_zero 7 (Nat.le_refl _) h j (by omega) hj)

theorem firstC_zero : ∀ {l : List Int}, firstC l = 0 → ∀ x ∈ l, x = 0
  | [], _, x, hx => absurd hx List.not_mem_nil
  | y :: l, h, x, hx => by
    unfold firstC at h
    by_cases e : y = 0
    · rw [if_neg (fun h => h e)] at h
      rcases List.mem_cons.1 hx with rfl | hx
      · exact e
      · exact firstC_zero h x hx
    · rw [if_pos e] at h
      exact absurd h e

theorem or2_zero {x y : Int} (h : or2 x y = 0) : x = 0 ∧ y = 0 := by
  unfold or2 at h
  by_cases e : x = 0
  · rw [if_neg (fun h => h e)] at h
    exact ⟨e, h⟩
  · rw [if_pos e] at h
    exact absurd h e

structure StateOk (p : PPlan) (i : Nat) (x : PState) : Prop where
  head : x.head = -1 ∨ 0 ≤ x.head ∧ x.head < (p.hs.length : Int)
  few : x.cs.length ≤ 4
  on : 0 < x.cs.length → p.width x.r [] ≠ 0
  out : ∀ to ∈ outsP x, to = 1000 ∨ to = 1001 ∨ ((i : Int) < to ∧ to < (p.ss.length : Int))

theorem way_zero {n : Nat} {i to : Int} (h : wayC n i to = 0) : to = 1000 ∨ to = 1001 ∨ (i < to ∧ to < (n : Int)) := by
  unfold wayC at h
  by_cases h1 : to = 1000 ∨ to = 1001
  · exact h1.elim .inl fun h => .inr (.inl h)
  · rw [if_neg h1] at h
    by_cases h2 : ¬ (0 ≤ to ∧ to < (n : Int))
    · rw [if_pos h2] at h; exact absurd h (by decide)
    · rw [if_neg h2] at h
      by_cases h3 : to ≤ i
      · rw [if_pos h3] at h; exact absurd h (by decide)
      · exact .inr (.inr (by omega))

theorem state_ok {p : PPlan} (h : (chkP p).1 = 0) {i : Nat} (hi : i < p.ss.length) : StateOk p i (p.ss.getD i PState.z) := by
  have hc : stateC p i (p.ss.getD i PState.z) = 0 := (chk_zero h 2 (by decide)).2.2 i hi
  generalize p.ss.getD i PState.z = x at *
  unfold stateC at hc
  by_cases h1 : x.head ≠ -1 ∧ ¬ (0 ≤ x.head ∧ x.head < (p.hs.length : Int))
  · rw [if_pos h1] at hc; exact absurd hc (by decide)
  rw [if_neg h1] at hc
  by_cases h2 : 4 < x.cs.length
  · rw [if_pos h2] at hc; exact absurd hc (by decide)
  rw [if_neg h2] at hc
  by_cases h3 : 0 < x.cs.length ∧ p.width x.r [] = 0
  · rw [if_pos h3] at hc; exact absurd hc (by decide)
  rw [if_neg h3] at hc
  obtain ⟨h4, h5⟩ := or2_zero hc
  refine ⟨by omega, by omega, fun hn hw => h3 ⟨hn, hw⟩, fun to hto => ?_⟩
  rcases List.mem_append.1 hto with ht | ht
  · obtain ⟨c, hcm, rfl⟩ := List.mem_map.1 ht
    have := firstC_zero h4 _ (List.mem_map.2 ⟨c, hcm, rfl⟩)
    unfold caseC at this
    by_cases h6 : p.width x.r [] < blen c.mask ∨ bits .andNot .u64 c.value c.mask ≠ 0
    · rw [if_pos h6] at this; exact absurd this (by decide)
    · rw [if_neg h6] at this
      exact way_zero this
  · simp only [List.mem_cons, List.not_mem_nil, or_false] at ht
    rw [ht]
    exact way_zero h5

theorem mem_leadP {n : Nat} {l : List Int} {j : Nat} : j ∈ leadP n l ↔ ∃ to ∈ l, to ≠ 1001 ∧ tgtN n to = j := by
  unfold leadP
  rw [List.mem_filterMap]
  constructor
  · rintro ⟨to, h1, h2⟩
    by_cases e : to = 1001
    · rw [if_pos e] at h2; cases h2
    · rw [if_neg e] at h2
      exact ⟨to, h1, e, Option.some.inj h2⟩
  · rintro ⟨to, h1, e, h2⟩
    exact ⟨to, h1, by rw [if_neg e, h2]⟩

theorem lead_on {p : PPlan} (h : (chkP p).1 = 0) (i j : Nat) (hi : i < p.ss.length) (hj : j ∈ leadP p.ss.length (outsP (p.ss.getD i PState.z))) : i < j ∧ j ≤ p.ss.length := by
  obtain ⟨to, h1, h2, rfl⟩ := mem_leadP.1 hj
  unfold tgtN
  rcases (state_ok h hi).out to h1 with e | e | e
  · rw [if_pos e]; exact ⟨hi, Nat.le_refl _⟩
  · exact absurd e h2
  · rw [if_neg (by have : (p.ss.length : Int) ≤ 8 := (chk_zero h 2 (by decide)).2.1; omega)]
    omega

def parOf (p : PPlan) (h : (chkP p).1 = 0) : Wk.Par := ⟨p.ss.length, fun i => bitN (p.ss.getD i PState.z).head, fun i => szP p (p.ss.getD i PState.z), fun i => leadP p.ss.length (outsP (p.ss.getD i PState.z)), lead_on h⟩

theorem addL_nodup {n : Nat} {acc : List Nat} {to : Int} (h : acc.Nodup) : (addL n acc to).Nodup := by
  unfold addL
  by_cases e : tgtN n to ≤ n ∧ tgtN n to ∉ acc
  · rw [if_pos e]
    refine List.nodup_append.2 ⟨h, by simp, fun x hx y hy => ?_⟩
    simp only [List.mem_cons, List.not_mem_nil, or_false] at hy
    subst hy
    exact fun e2 => e.2 (e2 ▸ hx)
  · rw [if_neg e]; exact h

theorem addL_mem {n : Nat} {acc : List Nat} {to : Int} {j : Nat} : j ∈ addL n acc to ↔ j ∈ acc ∨ (tgtN n to = j ∧ j ≤ n) := by
  unfold addL
  by_cases e : tgtN n to ≤ n ∧ tgtN n to ∉ acc
  · rw [if_pos e, List.mem_append, List.mem_cons]
    constructor
    · rintro (h | rfl | h)
      · exact .inl h
      · exact .inr ⟨rfl, e.1⟩
      · cases h
    · rintro (h | ⟨rfl, _⟩)
      · exact .inl h
      · exact .inr (.inl rfl)
  · rw [if_neg e]
    refine ⟨.inl, fun h => h.elim id fun ⟨h1, h2⟩ => ?_⟩
    subst h1
    exact Decidable.byContradiction fun hn => e ⟨h2, hn⟩

theorem leadR_go {n : Nat} : ∀ {l : List Int} {acc : List Nat}, acc.Nodup → (l.foldl (addL n) acc).Nodup ∧ ∀ j, j ∈ l.foldl (addL n) acc ↔ j ∈ acc ∨ ∃ to ∈ l, tgtN n to = j ∧ j ≤ n
  | [], acc, h => ⟨h, fun j => by simp⟩
  | x :: l, acc, h => by
    have ih := leadR_go (n := n) (l := l) (addL_nodup (n := n) (to := x) h)
    refine ⟨ih.1, fun j => ?_⟩
    rw [List.foldl_cons, ih.2 j, addL_mem]
    simp only [List.mem_cons, exists_eq_or_imp, or_assoc]

theorem leadR_nodup (n : Nat) (l : List Int) : (leadR n l).Nodup := (leadR_go (n := n) (l := l) List.nodup_nil).1
theorem mem_leadR {n : Nat} {l : List Int} {j : Nat} : j ∈ leadR n l ↔ ∃ to ∈ l, tgtN n to = j ∧ j ≤ n := by
  have := (leadR_go (n := n) (l := l) List.nodup_nil).2 j
  simpa [leadR] using this

theorem leads_same {p : PPlan} (h : (chkP p).1 = 0) : Wk.SameLead (parOf p h) (fun i => leadR p.ss.length (outsP (p.ss.getD i PState.z))) := by
  intro i hi j
  have h8 : (p.ss.length : Int) ≤ 8 := (chk_zero h 2 (by decide)).2.1
  show j ∈ leadR p.ss.length (outsP (p.ss.getD i PState.z)) ↔ j ∈ leadP p.ss.length (outsP (p.ss.getD i PState.z))
  rw [mem_leadR, mem_leadP]
  constructor
  · rintro ⟨to, h1, rfl, h2⟩
    refine ⟨to, h1, fun e => ?_, rfl⟩
    unfold tgtN at h2
    rw [e, if_neg (by decide)] at h2
    have : ((1001 : Int).toNat) = 1001 := rfl
    omega
  · rintro ⟨to, h1, h2, rfl⟩
    exact ⟨to, h1, rfl, ((parOf p h).on i _ hi (mem_leadP.2 ⟨to, h1, h2, rfl⟩)).2⟩

theorem bitN_lt {p : PPlan} (h : (chkP p).1 = 0) (i : Nat) : (parOf p h).hb i < 2 ^ 6 := by
  show bitN (p.ss.getD i PState.z).head < 2 ^ 6
  by_cases hi : i < p.ss.length
  · have h6 : (p.hs.length : Int) ≤ 6 := (chk_zero h 0 (by decide)).2.1
    have := (state_ok h hi).head
    unfold bitN
    split
    · decide
    · exact Nat.pow_lt_pow_right (by decide) (by omega)
  · rw [List.getD_eq_getElem?_getD, List.getElem?_eq_none (by omega)]
    decide

theorem sizeN_le {p : PPlan} (h : (chkP p).1 = 0) (k : Nat) : sizeN (p.hs.getD k []) ≤ 32 := by
  by_cases hk : k < p.hs.length
  · have hc : sizeC (p.hs.getD k []) = 0 := (chk_zero h 0 (by decide)).2.2 k hk
    generalize p.hs.getD k [] = ws at *
    unfold sizeC at hc
    unfold sizeN
    by_cases h1 : ws.length < 1 ∨ 8 < ws.length
    · rw [if_pos h1] at hc; exact absurd hc (by decide)
    rw [if_neg h1] at hc
    by_cases h2 : ∀ j, j < ws.length → Mth.Fit ws j
    · rw [if_pos h2] at hc
      by_cases h3 : Mth.off ws ws.length % 8 = 0 ∧ Mth.off ws ws.length ≤ 256
      · omega
      · rw [if_neg h3] at hc; exact absurd hc (by decide)
    · rw [if_neg h2] at hc; exact absurd hc (by decide)
  · rw [List.getD_eq_getElem?_getD, List.getElem?_eq_none (by omega)]
    decide

theorem szP_le {p : PPlan} (h : (chkP p).1 = 0) (i : Nat) : (parOf p h).sz i ≤ 32 := by
  show szP p (p.ss.getD i PState.z) ≤ 32
  unfold szP
  split
  · exact Nat.zero_le _
  · exact sizeN_le h _

/-- the sets of a right plan -/
def setsP (p : PPlan) (h : (chkP p).1 = 0) : List Wk.Sets := Wk.AP (parOf p h) p.ss.length

theorem firstW_one {p : PPlan} {S : List Wk.Sets} {C A C' A' : Int} (h : FirstW p S C A) (h' : FirstW p S C' A') : C = C' ∧ A = A' := by
  rcases h with ⟨n, hn, hc, hj, rfl, rfl⟩ | ⟨hz, rfl, rfl⟩
  · rcases h' with ⟨n', hn', hc', hj', rfl, rfl⟩ | ⟨hz', rfl, rfl⟩
    · have : n = n' := by
        rcases Nat.lt_trichotomy n n' with h | h | h
        · exact absurd (hj' n h) hc
        · exact h
        · exact absurd (hj n' h) hc'
      subst this
      exact ⟨rfl, rfl⟩
    · exact absurd (hz' n hn) hc
  · rcases h' with ⟨n', hn', hc', hj', rfl, rfl⟩ | ⟨hz', rfl, rfl⟩
    · exact absurd (hz n' hn') hc'
    · exact ⟨rfl, rfl⟩
end Go.Proofs.YtajelgjbgehahaaGreat
