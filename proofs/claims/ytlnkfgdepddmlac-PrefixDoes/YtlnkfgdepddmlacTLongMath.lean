/- The longest counts: plain numbers. -/
import Derived.Test.YtlnkfgdepddmlacTBegun
import Derived.Test.YtlnkfgdepddmlacOnes
import Derived.Test.YtlnkfgdepddmlacLSame
namespace Go.Proofs.Ytlnkfgdepddmlac
open Go.RowKit Mth

/-- a key has a beginning -/
abbrev Had (W key : Nat) (x : Nat × Nat) : Prop := key / 2 ^ (W - x.1) = x.2


/-- the longest of the first i beginnings that a key has; -1: none -/
def BestOf (L : List (Nat × Nat)) (W key i : Nat) (b : Int) : Prop :=
  (b = -1 ∧ ∀ j, j < i → ∀ x, L[j]? = some x → ¬ Had W key x) ∨ ∃ (k : Nat) (y : Nat × Nat), b = (k : Int) ∧ k < i ∧ L[k]? = some y ∧ Had W key y ∧ ∀ j, j < i → ∀ x, L[j]? = some x → Had W key x → x.1 ≤ y.1

theorem bestOf_zero (L : List (Nat × Nat)) (W key : Nat) : BestOf L W key 0 (-1) := .inl ⟨rfl, fun _ hj => absurd hj (Nat.not_lt_zero _)⟩

theorem bestOf_skip {L : List (Nat × Nat)} {W key i : Nat} {b : Int} (h : BestOf L W key i b) {y : Nat × Nat} (hy : L[i]? = some y) (hn : ¬ Had W key y) : BestOf L W key (i + 1) b := by
  have key' : ∀ j, j < i + 1 → ∀ x, L[j]? = some x → Had W key x → j < i := by
    intro j hj x hx hm
    by_cases e : j = i
    · subst e; rw [hy] at hx; cases hx; exact absurd hm hn
    · omega
  rcases h with ⟨rfl, h⟩ | ⟨k, z, rfl, hk, hz, hm, h⟩
  · exact .inl ⟨rfl, fun j hj x hx hmx => h j (key' j hj x hx hmx) x hx hmx⟩
  · exact .inr ⟨k, z, rfl, by omega, hz, hm, fun j hj x hx hmx => h j (key' j hj x hx hmx) x hx hmx⟩

theorem bestOf_first {L : List (Nat × Nat)} {W key i : Nat} (h : BestOf L W key i (-1)) {y : Nat × Nat} (hy : L[i]? = some y) (hm : Had W key y) : BestOf L W key (i + 1) i := by
  rcases h with ⟨_, h⟩ | ⟨k, z, e, _⟩
  · refine .inr ⟨i, y, rfl, by omega, hy, hm, fun j hj x hx hmx => ?_⟩
    by_cases e : j = i
    · subst e; rw [hy] at hx; cases hx; exact Nat.le_refl _
    · exact absurd hmx (h j (by omega) x hx)
  · omega

theorem bestOf_more {L : List (Nat × Nat)} {W key i k : Nat} {z : Nat × Nat} (h : BestOf L W key i k) (hz : L[k]? = some z) {y : Nat × Nat} (hy : L[i]? = some y) (hm : Had W key y) (hlt : z.1 < y.1) : BestOf L W key (i + 1) i := by
  rcases h with ⟨e, _⟩ | ⟨k', z', e, hk, hz', hm', h⟩
  · omega
  · have : k' = k := by omega
    subst this
    rw [hz] at hz'; cases hz'
    refine .inr ⟨i, y, rfl, by omega, hy, hm, fun j hj x hx hmx => ?_⟩
    by_cases e : j = i
    · subst e; rw [hy] at hx; cases hx; exact Nat.le_refl _
    · have := h j (by omega) x hx hmx; omega

theorem bestOf_less {L : List (Nat × Nat)} {W key i k : Nat} {z : Nat × Nat} (h : BestOf L W key i k) (hz : L[k]? = some z) {y : Nat × Nat} (hy : L[i]? = some y) (hle : y.1 ≤ z.1) : BestOf L W key (i + 1) k := by
  rcases h with ⟨e, _⟩ | ⟨k', z', e, hk, hz', hm', h⟩
  · omega
  · have : k' = k := by omega
    subst this
    rw [hz] at hz'; cases hz'
    refine .inr ⟨k', z, rfl, by omega, hz, hm', fun j hj x hx hmx => ?_⟩
    by_cases e : j = i
    · subst e; rw [hy] at hx; cases hx; exact hle
    · exact h j (by omega) x hx hmx

/-- nothing is found where none is had -/
theorem none_had {L : List (Nat × Nat)} {C : Told2} {W key : Nat} (mem : ∀ n v, (n, v) ∈ L ↔ (C n v).isSome = true) (h : ∀ x ∈ L, ¬ Had W key x) : best C W key (W + 1) = none := by
  cases hb : best C W key (W + 1) with
  | none => rfl
  | some r =>
    obtain ⟨g, n⟩ := r
    obtain ⟨_, h2, _⟩ := best_is hb
    exact absurd rfl (h (n, key / 2 ^ (W - n)) ((mem _ _).2 (by rw [h2]; rfl)))

/-- what is found is the longest that is had -/
theorem long_had {L : List (Nat × Nat)} {C : Told2} {W key : Nat} (mem : ∀ n v, (n, v) ∈ L ↔ (C n v).isSome = true) (rng : ∀ n v, (C n v).isSome = true → n ≤ W) {y : Nat × Nat} (hy : y ∈ L) (hm : Had W key y) (h : ∀ x ∈ L, Had W key x → x.1 ≤ y.1) : best C W key (W + 1) = some ((C y.1 y.2).getD (0, []), y.1) := by
  have hC := (mem y.1 y.2).1 hy
  have hw := rng _ _ hC
  unfold Had at hm
  cases hb : best C W key (W + 1) with
  | none =>
    have := best_not hb y.1 (by omega)
    rw [hm] at this
    rw [this] at hC; cases hC
  | some r =>
    obtain ⟨g, n⟩ := r
    obtain ⟨h1, h2, h3⟩ := best_is hb
    have h4 := h (n, key / 2 ^ (W - n)) ((mem _ _).2 (by rw [h2]; rfl)) rfl
    simp only at h4
    have e : n = y.1 := by
      by_cases e : n = y.1
      · exact e
      · have := h3 y.1 (by omega) (by omega)
        rw [hm] at this
        rw [this] at hC; cases hC
    subst e
    rw [hm] at h2
    rw [h2]; rfl

/-- what the law asks of a key and an entry -/
theorem had_sub (W key n : Nat) (hW : W ≤ 64) (hk : key < 2 ^ W) : IntKind.u64.wrap ((key : Int) - ((key % 2 ^ (W - n) : Nat) : Int)) = ((key / 2 ^ (W - n) * 2 ^ (W - n) : Nat) : Int) := by
  have h2 : 2 ^ W ≤ 2 ^ 64 := Nat.pow_le_pow_right (by decide) hW
  have h1 := Nat.mod_le key (2 ^ (W - n))
  have h3 := Nat.div_add_mod key (2 ^ (W - n))
  rw [IntKind.wrap_u64, Nat.mul_comm (key / 2 ^ (W - n))]
  generalize 2 ^ (W - n) * (key / 2 ^ (W - n)) = q at *
  generalize key % 2 ^ (W - n) = r at *
  omega

theorem had_yes {W key n v : Nat} (h : Had W key (n, v)) : ((((key / 2 ^ (W - n) * 2 ^ (W - n) : Nat) : Int)) == ((v * 2 ^ (W - n) : Nat) : Int)) = true := by
  have e : key / 2 ^ (W - n) = v := h
  rw [e]; simp

theorem had_no {W key n v : Nat} (h : ¬ Had W key (n, v)) : ((((key / 2 ^ (W - n) * 2 ^ (W - n) : Nat) : Int)) == ((v * 2 ^ (W - n) : Nat) : Int)) = false := by
  have e : ¬ key / 2 ^ (W - n) = v := h
  have : key / 2 ^ (W - n) * 2 ^ (W - n) ≠ v * 2 ^ (W - n) := fun e2 => e (Nat.eq_of_mul_eq_mul_right (Nat.two_pow_pos _) e2)
  generalize key / 2 ^ (W - n) * 2 ^ (W - n) = p at *
  generalize v * 2 ^ (W - n) = q at *
  simp only [beq_eq_false_iff_ne, ne_eq]
  omega

theorem mask_at (W m : Nat) (hm : m ≤ W) (hW : W ≤ 64) : maskN ((W : Int) - (m : Int)) = ((2 ^ (W - m) - 1 : Nat) : Int) := by
  unfold maskN
  by_cases h : m = W
  · subst h; rw [if_neg (by omega), Nat.sub_self]; rfl
  · rw [if_pos (by omega), show ((W : Int) - (m : Int)).toNat = W - m from by omega]

theorem mask_all (W : Nat) (h1 : 1 ≤ W) (hW : W ≤ 64) : maskN (W : Int) = ((2 ^ W - 1 : Nat) : Int) := by
  unfold maskN
  rw [if_pos (by omega), Int.toNat_natCast]

/-- the numbers of a round -/
theorem round_nums (W K m v : Nat) (hm : m ≤ W) (hW : W ≤ 64) (hK : K < 2 ^ W) : ∃ lo r q kv : Nat, maskN ((W : Int) - (m : Int)) = (lo : Int) ∧ bits BinOp.and IntKind.u64 (K : Int) (lo : Int) = (r : Int) ∧ IntKind.u64.wrap ((K : Int) - (r : Int)) = (q : Int) ∧ kv = v * 2 ^ (W - m) ∧ (Had W K (m, v) → ((q : Int) == (kv : Int)) = true) ∧ (¬ Had W K (m, v) → ((q : Int) == (kv : Int)) = false) := by
  have h2 : 2 ^ W ≤ 2 ^ 64 := Nat.pow_le_pow_right (by decide) hW
  exact ⟨2 ^ (W - m) - 1, K % 2 ^ (W - m), K / 2 ^ (W - m) * 2 ^ (W - m), v * 2 ^ (W - m), mask_at W m hm hW, and_num K (W - m) (by omega) (by omega), had_sub W K m hW hK, rfl, had_yes, had_no⟩

/-- an entry of a list that has one key -/
theorem ent_cells {w : World} {a : Option Addr} {n i : Nat} {E : List Ent} {e : Ent} {k : Int} (h : Ents w a n E) (he : E[i]? = some e) (hk : e.ks = [k]) :
    ∃ g kb ko kc aa an ac, a = some ⟨g, 0, none⟩ ∧ w.cell? ⟨g, i * 6, none⟩ = some (.slice (some ⟨kb, ko, none⟩) 1 kc) ∧ w.cell? ⟨g, i * 6 + 1, none⟩ = some (.slice none 0 0) ∧ w.cell? ⟨g, i * 6 + 2, none⟩ = some (.int .i64 e.ln) ∧ w.cell? ⟨g, i * 6 + 3, none⟩ = some (.int .i64 0) ∧ w.cell? ⟨g, i * 6 + 4, none⟩ = some (.int .i64 e.ac) ∧ w.cell? ⟨g, i * 6 + 5, none⟩ = some (.slice aa an ac) ∧ w.cell? ⟨kb, ko, none⟩ = some (.int .u64 k) ∧ Says w (.agg #[.int .i64 e.ac, .slice aa an ac]) (e.ac, e.xs) := by
  obtain ⟨g, d, ea, ⟨c0, c1, c2, c3, c4, c5⟩, g1, g2, g3, g4, g5, g6, g7, g8⟩ := h.2 i e he
  rw [hk] at g3
  have hkn : d.kn = 1 := by rw [← g3.1]; rfl
  rw [hkn] at c0 g3
  obtain ⟨kb, ko, e1, _, hc⟩ := g3.some (by omega)
  rw [e1] at c0
  rw [g4] at c2
  rw [g5] at c4
  exact ⟨g, kb, ko, d.kc, d.a, d.n, d.c, ea, c0, c1, c2, c3, c4, c5, hc 0 (by omega), ⟨d.a, d.n, d.c, rfl, g6, g7, g8⟩⟩
end Go.Proofs.Ytlnkfgdepddmlac
