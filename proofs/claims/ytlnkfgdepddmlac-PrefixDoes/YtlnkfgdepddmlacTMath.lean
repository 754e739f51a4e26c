/- Beginnings of keys, as plain numbers: no program. -/
import Derived.Test.YtlnkfgdepddmlacBase
namespace Go.Proofs.Ytlnkfgdepddmlac.Mth

/-- what an entry says -/
abbrev HitM : Type := Int × List Int
/-- what is said for the first n bits, which are the number v -/
abbrev Told2 : Type := Nat → Nat → Option HitM

/-- the longest of the first i beginnings of a key for which something is said -/
def best (C : Told2) (W key : Nat) : Nat → Option (HitM × Nat)
  | 0 => none
  | i + 1 => match C i (key / 2 ^ (W - i)) with
    | some h => some (h, i)
    | none => best C W key i

theorem best_none {C : Told2} {W key i : Nat} (h : C i (key / 2 ^ (W - i)) = none) : best C W key (i + 1) = best C W key i := by
  simp [best, h]

theorem best_some {C : Told2} {W key i : Nat} {h : HitM} (hc : C i (key / 2 ^ (W - i)) = some h) : best C W key (i + 1) = some (h, i) := by
  simp [best, hc]

theorem best_up {C : Told2} {W key i m : Nat} (him : i ≤ m) (h : ∀ j, i ≤ j → j < m → C j (key / 2 ^ (W - j)) = none) : best C W key m = best C W key i := by
  induction m with
  | zero => have : i = 0 := by omega
            subst this; rfl
  | succ m ih =>
    by_cases e : i = m + 1
    · subst e; rfl
    · rw [best_none (h m (by omega) (by omega))]
      exact ih (by omega) (fun j h1 h2 => h j h1 (by omega))

theorem best_is {C : Told2} {W key m : Nat} {h : HitM} {n : Nat} (e : best C W key m = some (h, n)) : n < m ∧ C n (key / 2 ^ (W - n)) = some h ∧ ∀ j, n < j → j < m → C j (key / 2 ^ (W - j)) = none := by
  induction m with
  | zero => simp [best] at e
  | succ m ih =>
    cases hc : C m (key / 2 ^ (W - m)) with
    | none =>
      rw [best_none hc] at e
      obtain ⟨h1, h2, h3⟩ := ih e
      refine ⟨by omega, h2, fun j hj hm => ?_⟩
      by_cases ej : j = m
      · subst ej; exact hc
      · exact h3 j hj (by omega)
    | some g =>
      rw [best_some hc] at e
      simp only [Option.some.injEq, Prod.mk.injEq] at e
      obtain ⟨rfl, rfl⟩ := e
      exact ⟨Nat.lt_succ_self _, hc, fun j h1 h2 => by omega⟩

theorem best_not {C : Told2} {W key m : Nat} (e : best C W key m = none) : ∀ j, j < m → C j (key / 2 ^ (W - j)) = none := by
  induction m with
  | zero => intro j hj; omega
  | succ m ih =>
    cases hc : C m (key / 2 ^ (W - m)) with
    | none =>
      rw [best_none hc] at e
      intro j hj
      by_cases ej : j = m
      · subst ej; exact hc
      · exact ih e j (by omega)
    | some g => rw [best_some hc] at e; cases e

/-- the bit behind the first i ones -/
def bitAt (W key i : Nat) : Nat := if i < W then key / 2 ^ (W - 1 - i) % 2 else 0

theorem bitAt_lt (W key i : Nat) : bitAt W key i < 2 := by
  unfold bitAt
  split
  · exact Nat.mod_lt _ (by decide)
  · decide

theorem way_next (W key i : Nat) (h : i < W) : key / 2 ^ (W - (i + 1)) = 2 * (key / 2 ^ (W - i)) + bitAt W key i := by
  unfold bitAt
  rw [if_pos h, show W - (i + 1) = W - 1 - i from by omega, show W - i = W - 1 - i + 1 from by omega, Nat.pow_succ, ← Nat.div_div_eq_div_mul]
  omega

theorem way_zero (W key : Nat) (h : key < 2 ^ W) : key / 2 ^ (W - 0) = 0 := by
  rw [Nat.sub_zero]; exact Nat.div_eq_of_lt h

theorem way_lt (W key i : Nat) (hk : key < 2 ^ W) (h : i ≤ W) : key / 2 ^ (W - i) < 2 ^ i := by
  rw [Nat.div_lt_iff_lt_mul (Nat.two_pow_pos _), ← Nat.pow_add, show i + (W - i) = W from by omega]
  exact hk

/-- the bit, as a shift up and down tells it -/
theorem bit_shift (W key i : Nat) (hW : W ≤ 64) (hi : i < W) : key * 2 ^ (64 - W + i) % 18446744073709551616 / 9223372036854775808 = bitAt W key i := by
  unfold bitAt
  rw [if_pos hi]
  have e1 : (18446744073709551616 : Nat) = 2 ^ (64 - W + i) * 2 ^ (W - i) := by rw [← Nat.pow_add, show 64 - W + i + (W - i) = 64 from by omega]
  have e2 : (9223372036854775808 : Nat) = 2 ^ (64 - W + i) * 2 ^ (W - 1 - i) := by rw [← Nat.pow_add, show 64 - W + i + (W - 1 - i) = 63 from by omega]
  have e3 : 2 ^ (W - i) = 2 ^ (W - 1 - i) * 2 := by rw [← Nat.pow_succ]; congr 1; omega
  rw [e1, e2, Nat.mul_comm key, Nat.mul_mod_mul_left, Nat.mul_div_mul_left _ _ (Nat.two_pow_pos _), e3, Nat.mod_mul_right_div_self]

/-- the entries from a beginning on, in order -/
def pre (C : Told2) : Nat → Nat → Nat → List (Nat × Nat)
  | 0, _, _ => []
  | d + 1, n, v => (if (C n v).isSome = true then [(n, v)] else []) ++ (pre C d (n + 1) (2 * v) ++ pre C d (n + 1) (2 * v + 1))

theorem half (u v k : Nat) : u / 2 ^ (k + 1) = v ↔ u / 2 ^ k = 2 * v ∨ u / 2 ^ k = 2 * v + 1 := by
  rw [Nat.pow_succ, ← Nat.div_div_eq_div_mul]
  omega

theorem mem_pre (C : Told2) (d n v m u : Nat) : (m, u) ∈ pre C d n v ↔ n ≤ m ∧ m < n + d ∧ u / 2 ^ (m - n) = v ∧ (C m u).isSome = true := by
  induction d generalizing n v with
  | zero => simp [pre]; omega
  | succ d ih =>
    have hhead : (m, u) ∈ (if (C n v).isSome = true then [(n, v)] else []) ↔ m = n ∧ u = v ∧ (C n v).isSome = true := by
      by_cases h : (C n v).isSome = true
      · rw [if_pos h]; simp [h]
      · rw [if_neg h]; simp [h]
    rw [pre, List.mem_append, List.mem_append, ih, ih, hhead]
    constructor
    · rintro (⟨rfl, rfl, h⟩ | ⟨h1, h2, h3, h4⟩ | ⟨h1, h2, h3, h4⟩)
      · exact ⟨Nat.le_refl _, by omega, by simp, h⟩
      · refine ⟨by omega, by omega, ?_, h4⟩
        rw [show m - n = m - (n + 1) + 1 from by omega, half]; exact .inl h3
      · refine ⟨by omega, by omega, ?_, h4⟩
        rw [show m - n = m - (n + 1) + 1 from by omega, half]; exact .inr h3
    · rintro ⟨h1, h2, h3, h4⟩
      by_cases e : m = n
      · subst e
        rw [Nat.sub_self, Nat.pow_zero, Nat.div_one] at h3
        subst h3
        exact .inl ⟨rfl, rfl, h4⟩
      · rw [show m - n = m - (n + 1) + 1 from by omega, half] at h3
        rcases h3 with h3 | h3
        · exact .inr (.inl ⟨by omega, by omega, h3, h4⟩)
        · exact .inr (.inr ⟨by omega, by omega, h3, h4⟩)

theorem pre_nodup (C : Told2) (d n v : Nat) : (pre C d n v).Nodup := by
  induction d generalizing n v with
  | zero => simp [pre]
  | succ d ih =>
    rw [pre, List.nodup_append, List.nodup_append]
    refine ⟨by split <;> simp, ⟨ih _ _, ih _ _, ?_⟩, ?_⟩
    · rintro ⟨m, u⟩ h1 ⟨m', u'⟩ h2 e
      obtain ⟨rfl, rfl⟩ := Prod.mk.inj e
      rw [mem_pre] at h1 h2
      have := h1.2.2.1.symm.trans h2.2.2.1
      omega
    · rintro ⟨m, u⟩ h1 ⟨m', u'⟩ h2 e
      obtain ⟨rfl, rfl⟩ := Prod.mk.inj e
      have hm : m = n := by
        by_cases h : (C n v).isSome = true
        · rw [if_pos h] at h1; simp at h1; exact h1.1
        · rw [if_neg h] at h1; cases h1
      rw [List.mem_append, mem_pre, mem_pre] at h2
      omega

/-- nothing is said below: no entries -/
theorem pre_none (C : Told2) (d n v : Nat) (h : ∀ m u, n ≤ m → u / 2 ^ (m - n) = v → C m u = none) : pre C d n v = [] := by
  cases e : pre C d n v with
  | nil => rfl
  | cons x l =>
    obtain ⟨m, u⟩ := x
    have hm : (m, u) ∈ pre C d n v := by rw [e]; exact List.mem_cons_self ..
    rw [mem_pre] at hm
    rw [h m u hm.1 hm.2.2.1] at hm
    simp at hm

theorem pre_all (C : Told2) (W : Nat) (rng : ∀ n v, (C n v).isSome = true → n ≤ W ∧ v < 2 ^ n) (m u : Nat) : (m, u) ∈ pre C (W + 1) 0 0 ↔ (C m u).isSome = true := by
  rw [mem_pre]
  constructor
  · exact fun h => h.2.2.2
  · intro h
    obtain ⟨h1, h2⟩ := rng m u h
    exact ⟨Nat.zero_le _, by omega, by rw [Nat.sub_zero]; exact Nat.div_eq_of_lt h2, h⟩

theorem perm_of_mem {α : Type} [DecidableEq α] {l k : List α} (hl : l.Nodup) (hk : k.Nodup) (h : ∀ x, x ∈ l ↔ x ∈ k) : l.Perm k :=
  (List.perm_ext_iff_of_nodup hl hk).2 h
end Go.Proofs.Ytlnkfgdepddmlac.Mth
