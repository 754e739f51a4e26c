/- The least of what stands behind: plain numbers. -/
import Derived.Test.YtlnkfgdepddmlacRAllMath
namespace Go.Proofs.Ytlnkfgdepddmlac.Mth

/-- it stands behind the first k of a list -/
def Behind (W : Nat) (P : List (Nat × Nat)) (k : Nat) (x : Nat × Nat) : Prop := ∀ y, 0 < k → P[k - 1]? = some y → Lt2 W y x

/-- the least of the first i that stand behind; -1: none -/
def LeastOf (es : List (Nat × Nat)) (W : Nat) (beh : Nat × Nat → Prop) (i : Nat) (b : Int) : Prop :=
  (b = -1 ∧ ∀ j, j < i → ∀ x, es[j]? = some x → ¬ beh x) ∨ ∃ (t : Nat) (y : Nat × Nat), b = (t : Int) ∧ t < i ∧ es[t]? = some y ∧ beh y ∧ ∀ j, j < i → ∀ x, es[j]? = some x → beh x → ¬ Lt2 W x y

theorem least_zero (es : List (Nat × Nat)) (W : Nat) (beh : Nat × Nat → Prop) : LeastOf es W beh 0 (-1) := .inl ⟨rfl, fun _ hj => absurd hj (Nat.not_lt_zero _)⟩

theorem least_skip {es : List (Nat × Nat)} {W : Nat} {beh : Nat × Nat → Prop} {i : Nat} {b : Int} (h : LeastOf es W beh i b) {x : Nat × Nat} (hx : es[i]? = some x) (hn : ¬ beh x) : LeastOf es W beh (i + 1) b := by
  have key : ∀ j, j < i + 1 → ∀ z, es[j]? = some z → beh z → j < i := by
    intro j hj z hz hb
    by_cases e : j = i
    · subst e; rw [hx] at hz; cases hz; exact absurd hb hn
    · omega
  rcases h with ⟨rfl, h⟩ | ⟨t, y, rfl, ht, hy, hb, h⟩
  · exact .inl ⟨rfl, fun j hj z hz hbz => h j (key j hj z hz hbz) z hz hbz⟩
  · exact .inr ⟨t, y, rfl, by omega, hy, hb, fun j hj z hz hbz => h j (key j hj z hz hbz) z hz hbz⟩

theorem lt2_irrefl (W : Nat) (x : Nat × Nat) : ¬ Lt2 W x x := by unfold Lt2; omega

theorem lt2_trans {W : Nat} {x y z : Nat × Nat} (h : Lt2 W x y) (k : Lt2 W y z) : Lt2 W x z := by unfold Lt2 at *; omega

theorem least_first {es : List (Nat × Nat)} {W : Nat} {beh : Nat × Nat → Prop} {i : Nat} (h : LeastOf es W beh i (-1)) {x : Nat × Nat} (hx : es[i]? = some x) (hb : beh x) : LeastOf es W beh (i + 1) i := by
  rcases h with ⟨_, h⟩ | ⟨t, y, e, _⟩
  · refine .inr ⟨i, x, rfl, by omega, hx, hb, fun j hj z hz hbz => ?_⟩
    by_cases e : j = i
    · subst e; rw [hx] at hz; cases hz; exact lt2_irrefl W _
    · exact absurd hbz (h j (by omega) z hz)
  · omega

theorem least_more {es : List (Nat × Nat)} {W : Nat} {beh : Nat × Nat → Prop} {i t : Nat} {y : Nat × Nat} (h : LeastOf es W beh i t) (hy : es[t]? = some y) {x : Nat × Nat} (hx : es[i]? = some x) (hb : beh x) (hl : Lt2 W x y) : LeastOf es W beh (i + 1) i := by
  rcases h with ⟨e, _⟩ | ⟨t', y', e, _, hy', _, h⟩
  · omega
  · have : t' = t := by omega
    subst this
    rw [hy] at hy'; cases hy'
    refine .inr ⟨i, x, rfl, by omega, hx, hb, fun j hj z hz hbz hlt => ?_⟩
    by_cases e : j = i
    · subst e; rw [hx] at hz; cases hz; exact lt2_irrefl W _ hlt
    · exact h j (by omega) z hz hbz (lt2_trans hlt hl)

theorem least_less {es : List (Nat × Nat)} {W : Nat} {beh : Nat × Nat → Prop} {i t : Nat} {y : Nat × Nat} (h : LeastOf es W beh i t) (hy : es[t]? = some y) {x : Nat × Nat} (hx : es[i]? = some x) (hl : ¬ Lt2 W x y) : LeastOf es W beh (i + 1) t := by
  rcases h with ⟨e, _⟩ | ⟨t', y', e, ht, hy', hb', h⟩
  · omega
  · have : t' = t := by omega
    subst this
    rw [hy] at hy'; cases hy'
    refine .inr ⟨t', y, rfl, by omega, hy, hb', fun j hj z hz hbz => ?_⟩
    by_cases e : j = i
    · subst e; rw [hx] at hz; cases hz; exact hl
    · exact h j (by omega) z hz hbz

/-- the least of all that stand behind the first k is the next one -/
theorem least_end {es P : List (Nat × Nat)} {W k : Nat} {b : Int} (hs : P.Pairwise (Lt2 W)) (hp : es.Perm P) (hk : k < P.length) (h : LeastOf es W (Behind W P k) es.length b) : ∃ t : Nat, b = (t : Int) ∧ es[t]? = P[k]? := by
  have hPk : P[k]? = some (P[k]'hk) := List.getElem?_eq_getElem _
  have hrel : ∀ i j : Nat, i < j → ∀ x y, P[i]? = some x → P[j]? = some y → Lt2 W x y := by
    intro i j hij x y hx hy
    obtain ⟨hi, rfl⟩ := List.getElem?_eq_some_iff.1 hx
    obtain ⟨hj, rfl⟩ := List.getElem?_eq_some_iff.1 hy
    exact List.pairwise_iff_getElem.1 hs i j hi hj hij
  have hbk : Behind W P k (P[k]'hk) := fun y h0 hy => hrel (k - 1) k (by omega) y _ hy hPk
  have hmem : P[k]'hk ∈ es := hp.mem_iff.2 (List.getElem_mem _)
  obtain ⟨j, hj, ej⟩ := List.getElem_of_mem hmem
  have hej : es[j]? = some (P[k]'hk) := by rw [List.getElem?_eq_getElem hj, ej]
  rcases h with ⟨_, h⟩ | ⟨t, y, rfl, ht, hy, hb, h⟩
  · exact absurd hbk (h j hj _ hej)
  · refine ⟨t, rfl, ?_⟩
    have hyP : y ∈ P := hp.mem_iff.1 (List.mem_of_getElem? hy)
    obtain ⟨q, hq, eq⟩ := List.getElem_of_mem hyP
    have hPq : P[q]? = some y := by rw [List.getElem?_eq_getElem hq, eq]
    have h1 := h j hj _ hej hbk
    have hqk : q = k := by
      by_cases e : q = k
      · exact e
      · by_cases hlt : k < q
        · exact absurd (hrel k q hlt _ _ hPk hPq) h1
        · have h0 : 0 < k := by omega
          have hkk : P[k - 1]? = some (P[k - 1]'(by omega)) := List.getElem?_eq_getElem _
          have h2 := hb _ h0 hkk
          by_cases e2 : q = k - 1
          · subst e2
            rw [hkk] at hPq
            have e3 := Option.some.inj hPq
            rw [e3] at h2
            exact absurd h2 (lt2_irrefl W _)
          · exact absurd (lt2_trans h2 (hrel q (k - 1) (by omega) _ _ hPq hkk)) (lt2_irrefl W _)
    subst hqk
    rw [hy, hPq]
end Go.Proofs.Ytlnkfgdepddmlac.Mth
