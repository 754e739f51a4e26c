/- The entries of a table by beginnings, in order: plain numbers. -/
import Derived.Test.YtlnkfgdepddmlacTLongMath
namespace Go.Proofs.Ytlnkfgdepddmlac.Mth

/-- the key of a beginning -/
def keyOf2 (W : Nat) (x : Nat × Nat) : Nat := x.2 * 2 ^ (W - x.1)

/-- one stands ahead of another: by key, then by length -/
abbrev Lt2 (W : Nat) (x y : Nat × Nat) : Prop := keyOf2 W x < keyOf2 W y ∨ (keyOf2 W x = keyOf2 W y ∧ x.1 < y.1)


/-- where the keys behind a beginning lie -/
theorem pre_range {C : Told2} {W d n v m u : Nat} (h : (m, u) ∈ pre C d n v) (hm : m ≤ W) : v * 2 ^ (W - n) ≤ keyOf2 W (m, u) ∧ keyOf2 W (m, u) < (v + 1) * 2 ^ (W - n) := by
  rw [mem_pre] at h
  obtain ⟨h1, _, h3, _⟩ := h
  have e : 2 ^ (W - n) = 2 ^ (m - n) * 2 ^ (W - m) := by rw [← Nat.pow_add]; congr 1; omega
  have hd := Nat.div_add_mod u (2 ^ (m - n))
  have hlt := Nat.mod_lt u (Nat.two_pow_pos (m - n))
  rw [h3] at hd
  unfold keyOf2
  simp only
  rw [e, ← Nat.mul_assoc, ← Nat.mul_assoc]
  constructor
  · exact Nat.mul_le_mul_right _ (by rw [Nat.mul_comm v]; omega)
  · exact Nat.mul_lt_mul_of_pos_right (by rw [Nat.add_mul, Nat.one_mul, Nat.mul_comm v]; omega) (Nat.two_pow_pos _)

theorem pre_sorted (C : Told2) (W d n v : Nat) (h : n + d ≤ W + 1) : (pre C d n v).Pairwise (Lt2 W) := by
  induction d generalizing n v with
  | zero => simp [pre]
  | succ d ih =>
    have key : ∀ m u b, (m, u) ∈ pre C d (n + 1) b → m ≤ W := by
      intro m u b hm
      rw [mem_pre] at hm
      omega
    rw [pre, List.pairwise_append, List.pairwise_append]
    refine ⟨by split <;> simp, ⟨ih _ _ (by omega), ih _ _ (by omega), ?_⟩, ?_⟩
    · rintro ⟨m, u⟩ h1 ⟨m', u'⟩ h2
      have r1 := (pre_range h1 (key m u _ h1)).2
      have r2 := (pre_range h2 (key m' u' _ h2)).1
      exact .inl (Nat.lt_of_lt_of_le r1 r2)
    · rintro x h1 ⟨m', u'⟩ h2
      have hx : x = (n, v) := by
        by_cases hc : (C n v).isSome = true
        · rw [if_pos hc] at h1; simpa using h1
        · rw [if_neg hc] at h1; cases h1
      subst hx
      have hb : v * 2 ^ (W - n) ≤ keyOf2 W (m', u') ∧ n < m' := by
        rw [List.mem_append] at h2
        have hW : n < W := by
          rcases h2 with h2 | h2
          · have := key m' u' _ h2; rw [mem_pre] at h2; omega
          · have := key m' u' _ h2; rw [mem_pre] at h2; omega
        have e : 2 ^ (W - n) = 2 * 2 ^ (W - (n + 1)) := by rw [show W - n = W - (n + 1) + 1 from by omega, Nat.pow_succ, Nat.mul_comm]
        rcases h2 with h2 | h2
        · have r := (pre_range h2 (key m' u' _ h2)).1
          rw [mem_pre] at h2
          refine ⟨?_, by omega⟩
          rw [e, ← Nat.mul_assoc, Nat.mul_comm v 2]
          exact r
        · have r := (pre_range h2 (key m' u' _ h2)).1
          rw [mem_pre] at h2
          refine ⟨?_, by omega⟩
          rw [e, ← Nat.mul_assoc, Nat.mul_comm v 2]
          exact Nat.le_trans (Nat.mul_le_mul_right _ (by omega)) r
      by_cases hk : keyOf2 W (n, v) = keyOf2 W (m', u')
      · exact .inr ⟨hk, hb.2⟩
      · have : keyOf2 W (n, v) = v * 2 ^ (W - n) := rfl
        exact .inl (by omega)
end Go.Proofs.Ytlnkfgdepddmlac.Mth
