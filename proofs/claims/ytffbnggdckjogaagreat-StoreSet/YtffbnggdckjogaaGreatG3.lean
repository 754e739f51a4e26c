/- Texts of one chain, joined: TMath, MMath. -/
import Derived.Test.YtffbnggdckjogaaGreatG0
namespace Go.Proofs.YtffbnggdckjogaaGreat.Mth
abbrev HitM : Type := Int × List Int
abbrev Told2 : Type := Nat → Nat → Option HitM
def best (C : Told2) (W key : Nat) : Nat → Option (HitM × Nat)
  | 0 => none
  | i + 1 => match C i (key / 2 ^ (W - i)) with
    | some h => some (h, i)
    | none => best C W key i
theorem best_none {C : Told2} {W key i : Nat} (h : C i (key / 2 ^ (W - i)) = none) : best C W key (i + 1) = best C W key i := by
  simp [best, h]
theorem best_some {C : Told2} {W key i : Nat} {h : HitM} (hc : C i (key / 2 ^ (W - i)) = some h) : best C W key (i + 1) = some (h, i) := by
  simp [best, hc]
theorem best_up {C : Told2} {W key i m : Nat} (him : i ≤ m) (h : ∀ j, i ≤ j → j < m → C j (key / 2 ^ (W - j)) = none) : best C W key m = best C W key i := by
  induction m with
  | zero => have : i = 0 := by omega
            subst this; rfl
  | succ m ih =>
    by_cases e : i = m + 1
    · subst e; rfl
    · rw [best_none (h m (by omega) (by omega))]
      exact ih (by omega) (fun j h1 h2 => h j h1 (by omega))
def bitAt (W key i : Nat) : Nat := if i < W then key / 2 ^ (W - 1 - i) % 2 else 0
theorem bitAt_lt (W key i : Nat) : bitAt W key i < 2 := by
  unfold bitAt
  split
  · exact Nat.mod_lt _ (by decide)
  · decide
theorem way_next (W key i : Nat) (h : i < W) : key / 2 ^ (W - (i + 1)) = 2 * (key / 2 ^ (W - i)) + bitAt W key i := by
  unfold bitAt
  rw [if_pos h, show W - (i + 1) = W - 1 - i from by omega, show W - i = W - 1 - i + 1 from by omega, Nat.pow_succ, ← Nat.div_div_eq_div_mul]
  omega
theorem way_zero (W key : Nat) (h : key < 2 ^ W) : key / 2 ^ (W - 0) = 0 := by
  rw [Nat.sub_zero]; exact Nat.div_eq_of_lt h
theorem bit_shift (W key i : Nat) (hW : W ≤ 64) (hi : i < W) : key * 2 ^ (64 - W + i) % 18446744073709551616 / 9223372036854775808 = bitAt W key i := by
  unfold bitAt
  rw [if_pos hi]
  have e1 : (18446744073709551616 : Nat) = 2 ^ (64 - W + i) * 2 ^ (W - i) := by rw [← Nat.pow_add, show 64 - W + i + (W - i) = 64 from by omega]
  have e2 : (9223372036854775808 : Nat) = 2 ^ (64 - W + i) * 2 ^ (W - 1 - i) := by rw [← Nat.pow_add, show 64 - W + i + (W - 1 - i) = 63 from by omega]
  have e3 : 2 ^ (W - i) = 2 ^ (W - 1 - i) * 2 := by rw [← Nat.pow_succ]; congr 1; omega
  rw [e1, e2, Nat.mul_comm key, Nat.mul_mod_mul_left, Nat.mul_div_mul_left _ _ (Nat.two_pow_pos _), e3, Nat.mod_mul_right_div_self]
def pre (C : Told2) : Nat → Nat → Nat → List (Nat × Nat)
  | 0, _, _ => []
  | d + 1, n, v => (if (C n v).isSome = true then [(n, v)] else []) ++ (pre C d (n + 1) (2 * v) ++ pre C d (n + 1) (2 * v + 1))
theorem half (u v k : Nat) : u / 2 ^ (k + 1) = v ↔ u / 2 ^ k = 2 * v ∨ u / 2 ^ k = 2 * v + 1 := by
  rw [Nat.pow_succ, ← Nat.div_div_eq_div_mul]
  omega
theorem mem_pre (C : Told2) (d n v m u : Nat) : (m, u) ∈ pre C d n v ↔ n ≤ m ∧ m < n + d ∧ u / 2 ^ (m - n) = v ∧ (C m u).isSome = true := by
  induction d generalizing n v with
  | zero => simp [pre]; omega
  | succ d ih =>
    have hhead : (m, u) ∈ (if (C n v).isSome = true then [(n, v)] else []) ↔ m = n ∧ u = v ∧ (C n v).isSome = true := by
      by_cases h : (C n v).isSome = true
      · rw [if_pos h]; simp [h]
      · rw [if_neg h]; simp [h]
    rw [pre, List.mem_append, List.mem_append, ih, ih, hhead]
    constructor
    · rintro (⟨rfl, rfl, h⟩ | ⟨h1, h2, h3, h4⟩ | ⟨h1, h2, h3, h4⟩)
      · exact ⟨Nat.le_refl _, by omega, by simp, h⟩
      · refine ⟨by omega, by omega, ?_, h4⟩
        rw [show m - n = m - (n + 1) + 1 from by omega, half]; exact .inl h3
      · refine ⟨by omega, by omega, ?_, h4⟩
        rw [show m - n = m - (n + 1) + 1 from by omega, half]; exact .inr h3
    · rintro ⟨h1, h2, h3, h4⟩
      by_cases e : m = n
      · subst e
        rw [Nat.sub_self, Nat.pow_zero, Nat.div_one] at h3
        subst h3
        exact .inl ⟨rfl, rfl, h4⟩
      · rw [show m - n = m - (n + 1) + 1 from by omega, half] at h3
        rcases h3 with h3 | h3
        · exact .inr (.inl ⟨by omega, by omega, h3, h4⟩)
        · exact .inr (.inr ⟨by omega, by omega, h3, h4⟩)
theorem pre_nodup (C : Told2) (d n v : Nat) : (pre C d n v).Nodup := by
  induction d generalizing n v with
  | zero => simp [pre]
  | succ d ih =>
    rw [pre, List.nodup_append, List.nodup_append]
    refine ⟨by split <;> simp, ⟨ih _ _, ih _ _, ?_⟩, ?_⟩
    · rintro ⟨m, u⟩ h1 ⟨m', u'⟩ h2 e
      obtain ⟨rfl, rfl⟩ := Prod.mk.inj e
      rw [mem_pre] at h1 h2
      have := h1.2.2.1.symm.trans h2.2.2.1
      omega
    · rintro ⟨m, u⟩ h1 ⟨m', u'⟩ h2 e
      obtain ⟨rfl, rfl⟩ := Prod.mk.inj e
      have hm : m = n := by
        by_cases h : (C n v).isSome = true
        · rw [if_pos h] at h1; simp at h1; exact h1.1
        · rw [if_neg h] at h1; cases h1
      rw [List.mem_append, mem_pre, mem_pre] at h2
      omega
theorem pre_none (C : Told2) (d n v : Nat) (h : ∀ m u, n ≤ m → u / 2 ^ (m - n) = v → C m u = none) : pre C d n v = [] := by
  cases e : pre C d n v with
  | nil => rfl
  | cons x l =>
    obtain ⟨m, u⟩ := x
    have hm : (m, u) ∈ pre C d n v := by rw [e]; exact List.mem_cons_self ..
    rw [mem_pre] at hm
    rw [h m u hm.1 hm.2.2.1] at hm
    simp at hm
theorem pre_all (C : Told2) (W : Nat) (rng : ∀ n v, (C n v).isSome = true → n ≤ W ∧ v < 2 ^ n) (m u : Nat) : (m, u) ∈ pre C (W + 1) 0 0 ↔ (C m u).isSome = true := by
  rw [mem_pre]
  constructor
  · exact fun h => h.2.2.2
  · intro h
    obtain ⟨h1, h2⟩ := rng m u h
    exact ⟨Nat.zero_le _, by omega, by rw [Nat.sub_zero]; exact Nat.div_eq_of_lt h2, h⟩
theorem perm_of_mem {α : Type} [DecidableEq α] {l k : List α} (hl : l.Nodup) (hk : k.Nodup) (h : ∀ x, x ∈ l ↔ x ∈ k) : l.Perm k :=
  (List.perm_ext_iff_of_nodup hl hk).2 h
end Go.Proofs.YtffbnggdckjogaaGreat.Mth

namespace Go.Proofs.YtffbnggdckjogaaGreat.Mth
structure TE where
  ks : List Int
  ms : List Int
  pr : Int
  ac : Int
  xs : List Int
def ord (x y : Int) : Int := if x < y then -1 else if y < x then 1 else 0
theorem ord_lt (x y : Int) : ord x y < 0 ↔ x < y := by unfold ord; split <;> (try split) <;> omega
theorem ord_eq (x y : Int) : ord x y = 0 ↔ x = y := by unfold ord; split <;> (try split) <;> omega
def lexO : List Int → List Int → Int
  | [], [] => 0
  | [], _ :: _ => -1
  | _ :: _, [] => 1
  | x :: xs, y :: ys => if ord x y ≠ 0 then ord x y else lexO xs ys
theorem lexO_eq (a b : List Int) : lexO a b = 0 ↔ a = b := by
  induction a generalizing b with
  | nil => cases b <;> simp [lexO]
  | cons x xs ih =>
    cases b with
    | nil => simp [lexO]
    | cons y ys =>
      rw [lexO]
      by_cases h : ord x y = 0
      · rw [if_neg (by omega), ih]
        have := (ord_eq x y).1 h
        subst this
        simp
      · rw [if_pos h]
        constructor
        · intro h2; omega
        · intro h2
          simp only [List.cons.injEq] at h2
          exact absurd ((ord_eq x y).2 h2.1) h
theorem lexO_flip (a b : List Int) : lexO b a = - lexO a b := by
  induction a generalizing b with
  | nil => cases b <;> simp [lexO]
  | cons x xs ih =>
    cases b with
    | nil => simp [lexO]
    | cons y ys =>
      rw [lexO, lexO, ih]
      have h : ord y x = - ord x y := by unfold ord; split <;> split <;> (try split) <;> omega
      by_cases h0 : ord x y = 0
      · rw [if_neg (by omega), if_neg (by omega)]
      · rw [if_pos (by omega), if_pos h0, h]
theorem lexO_trans {a b c : List Int} (h : lexO a b < 0) (k : lexO b c < 0) : lexO a c < 0 := by
  induction a generalizing b c with
  | nil =>
    cases b with
    | nil => simp [lexO] at h
    | cons y ys =>
      cases c with
      | nil => simp [lexO] at k
      | cons z zs => simp [lexO]
  | cons x xs ih =>
    cases b with
    | nil => simp [lexO] at h
    | cons y ys =>
      cases c with
      | nil => simp [lexO] at k
      | cons z zs =>
        rw [lexO] at h k ⊢
        by_cases h1 : ord x y = 0
        · rw [if_neg (by omega)] at h
          have e := (ord_eq x y).1 h1
          subst e
          by_cases h2 : ord x z = 0
          · rw [if_neg (by omega)] at k ⊢
            exact ih h k
          · rw [if_pos h2] at k ⊢
            exact k
        · rw [if_pos h1] at h
          have hxy := (ord_lt x y).1 h
          by_cases h2 : ord y z = 0
          · have e := (ord_eq y z).1 h2
            subst e
            rw [if_pos h1]; exact h
          · rw [if_pos h2] at k
            have hyz := (ord_lt y z).1 k
            have h3 : ord x z < 0 := (ord_lt x z).2 (by omega)
            rw [if_pos (by omega)]; exact h3
def cmpE (a b : TE) : Int := if ord a.pr b.pr ≠ 0 then ord a.pr b.pr else if lexO a.ks b.ks ≠ 0 then lexO a.ks b.ks else lexO a.ms b.ms
abbrev SameP (a b : TE) : Prop := a.pr = b.pr ∧ a.ks = b.ks ∧ a.ms = b.ms
theorem cmpE_eq (a b : TE) : cmpE a b = 0 ↔ SameP a b := by
  unfold cmpE SameP
  by_cases h : ord a.pr b.pr = 0
  · rw [if_neg (by omega)]
    by_cases h2 : lexO a.ks b.ks = 0
    · rw [if_neg (by omega), lexO_eq]
      rw [ord_eq] at h
      rw [lexO_eq] at h2
      simp [h, h2]
    · rw [if_pos h2]
      constructor
      · intro h3; omega
      · intro h3; exact absurd ((lexO_eq _ _).2 h3.2.1) h2
  · rw [if_pos h]
    constructor
    · intro h3; omega
    · intro h3; exact absurd ((ord_eq _ _).2 h3.1) h
theorem cmpE_flip (a b : TE) : cmpE b a = - cmpE a b := by
  unfold cmpE
  rw [lexO_flip a.ks b.ks, lexO_flip a.ms b.ms]
  have h : ord b.pr a.pr = - ord a.pr b.pr := by unfold ord; split <;> split <;> (try split) <;> omega
  rw [h]
  split <;> split <;> (try split) <;> (try split) <;> omega
theorem cmpE_pr {a b : TE} (h : cmpE a b < 0) : a.pr ≤ b.pr := by
  unfold cmpE at h
  by_cases h0 : ord a.pr b.pr = 0
  · have := (ord_eq _ _).1 h0; omega
  · rw [if_pos h0] at h
    have := (ord_lt _ _).1 h; omega
theorem cmpE_same {a b c : TE} (h : SameP a b) : cmpE a c = cmpE b c := by
  obtain ⟨h1, h2, h3⟩ := h
  unfold cmpE
  rw [h1, h2, h3]
theorem cmpE_trans {a b c : TE} (h : cmpE a b < 0) (k : cmpE b c < 0) : cmpE a c < 0 := by
  have p1 := cmpE_pr h
  have p2 := cmpE_pr k
  by_cases e : a.pr = c.pr
  · have e1 : a.pr = b.pr := by omega
    have e2 : b.pr = c.pr := by omega
    unfold cmpE at h k ⊢
    rw [if_neg (by simp [ord_eq, e1])] at h
    rw [if_neg (by simp [ord_eq, e2])] at k
    rw [if_neg (by simp [ord_eq, e])]
    by_cases h1 : lexO a.ks b.ks = 0
    · rw [if_neg (by omega)] at h
      have ek := (lexO_eq _ _).1 h1
      rw [ek]
      by_cases h2 : lexO b.ks c.ks = 0
      · rw [if_neg (by omega)] at k ⊢
        exact lexO_trans h k
      · rw [if_pos h2] at k ⊢; exact k
    · rw [if_pos h1] at h
      by_cases h2 : lexO b.ks c.ks = 0
      · have ek := (lexO_eq _ _).1 h2
        rw [← ek, if_pos h1]; exact h
      · rw [if_pos h2] at k
        have h3 := lexO_trans h k
        rw [if_pos (by omega)]; exact h3
  · have h3 : ord a.pr c.pr < 0 := (ord_lt _ _).2 (by omega)
    unfold cmpE
    rw [if_pos (by omega)]; exact h3
theorem cmpE_irrefl (a : TE) : ¬ cmpE a a < 0 := by
  have := (cmpE_eq a a).2 ⟨rfl, rfl, rfl⟩
  omega
theorem cmpE_tri {a b : TE} (h : ¬ cmpE a b < 0) (k : ¬ cmpE a b = 0) : cmpE b a < 0 := by rw [cmpE_flip]; omega
def nz (l : List Int) (i : Nat) : Nat := (l.getD i 0).toNat
abbrev Meets (a b : TE) : Prop := ∀ i, i < a.ks.length → (nz a.ks i ^^^ nz b.ks i) &&& nz a.ms i &&& nz b.ms i = 0
abbrev FitsE (e : TE) (k : List Int) : Prop := ∀ i, i < e.ks.length → nz k i &&& nz e.ms i = nz e.ks i
abbrev Within (e : TE) : Prop := ∀ i, i < e.ks.length → nz e.ks i &&& nz e.ms i = nz e.ks i
abbrev GoodM (keys : Int) (e : TE) : Prop := (e.ks.length : Int) = keys ∧ (e.ms.length : Int) = keys ∧ 0 ≤ e.pr ∧ e.pr ≤ 1000 ∧ Within e
def SortedM (T : List TE) : Prop := T.Pairwise fun x y => cmpE x y < 0
structure OkM (keys most : Int) (T : List TE) : Prop where
  srt : SortedM T
  good : ∀ x ∈ T, GoodM keys x
  apart : T.Pairwise fun x y => x.pr = y.pr → ¬ Meets x y
  few : (T.length : Int) ≤ max most 0
theorem okM_nil (keys most : Int) : OkM keys most [] := ⟨List.Pairwise.nil, by simp, List.Pairwise.nil, by simp; omega⟩
structure Cut (T : List TE) (e : TE) (i : Nat) : Prop where
  le : i ≤ T.length
  lo : ∀ t x, t < i → T[t]? = some x → cmpE x e < 0
  hi : ∀ t x, i ≤ t → T[t]? = some x → ¬ cmpE x e < 0
theorem sorted_at {T : List TE} (h : SortedM T) {i j : Nat} {x y : TE} (hij : i < j) (hx : T[i]? = some x) (hy : T[j]? = some y) : cmpE x y < 0 := by
  obtain ⟨hi, rfl⟩ := List.getElem?_eq_some_iff.1 hx
  obtain ⟨hj, rfl⟩ := List.getElem?_eq_some_iff.1 hy
  exact List.pairwise_iff_getElem.1 h i j hi hj hij
theorem sorted_mono {T : List TE} (h : SortedM T) {e : TE} {i j : Nat} {x y : TE} (hij : i ≤ j) (hx : T[i]? = some x) (hy : T[j]? = some y) (hc : cmpE y e < 0) : cmpE x e < 0 := by
  by_cases e' : i = j
  · subst e'; rw [hx] at hy; cases hy; exact hc
  · exact cmpE_trans (sorted_at h (by omega) hx hy) hc
theorem apart_at {T : List TE} (h : T.Pairwise fun x y => x.pr = y.pr → ¬ Meets x y) {i j : Nat} {x y : TE} (hij : i < j) (hx : T[i]? = some x) (hy : T[j]? = some y) (hp : x.pr = y.pr) : ¬ Meets x y := by
  obtain ⟨hi, rfl⟩ := List.getElem?_eq_some_iff.1 hx
  obtain ⟨hj, rfl⟩ := List.getElem?_eq_some_iff.1 hy
  exact List.pairwise_iff_getElem.1 h i j hi hj hij hp
theorem cut_found {T : List TE} (h : SortedM T) {e : TE} {i : Nat} (c : Cut T e i) : (∃ x, T[i]? = some x ∧ cmpE x e = 0) ↔ ∃ x ∈ T, SameP x e := by
  constructor
  · rintro ⟨x, hx, h0⟩
    exact ⟨x, List.mem_of_getElem? hx, (cmpE_eq _ _).1 h0⟩
  · rintro ⟨x, hm, hs⟩
    obtain ⟨t, ht, rfl⟩ := List.getElem_of_mem hm
    have hx : T[t]? = some T[t] := List.getElem?_eq_getElem ht
    have h0 := (cmpE_eq _ _).2 hs
    have hit : i ≤ t := by
      rcases Nat.lt_or_ge t i with h1 | h1
      · have := c.lo t _ h1 hx; omega
      · exact h1
    have hil : i < T.length := by omega
    have hy : T[i]? = some T[i] := List.getElem?_eq_getElem hil
    by_cases e' : i = t
    · subst e'; exact ⟨_, hx, h0⟩
    · have h1 := sorted_at h (show i < t by omega) hy hx
      have h2 := c.hi i _ (Nat.le_refl _) hy
      have h3 : cmpE T[i] e = cmpE T[i] T[t] := by rw [cmpE_flip e T[i], cmpE_flip T[t] T[i], cmpE_same hs]
      omega
theorem meets_comm {a b : TE} (hl : a.ks.length = b.ks.length) (h : Meets a b) : Meets b a := by
  intro i hi
  have := h i (by omega)
  rw [Nat.xor_comm, Nat.and_assoc, Nat.and_comm (nz b.ms i), ← Nat.and_assoc]
  exact this
theorem okM_add {keys most : Int} {T : List TE} {e : TE} {i : Nat} (h : OkM keys most T) (c : Cut T e i) (hg : GoodM keys e) (hn : ¬ ∃ x ∈ T, SameP x e) (hm : ¬ ∃ x ∈ T, x.pr = e.pr ∧ Meets x e) (hf : (T.length : Int) < most) : OkM keys most (T.take i ++ e :: T.drop i) := by
  have hlo : ∀ x ∈ T.take i, cmpE x e < 0 := by
    intro x hx
    obtain ⟨t, ht, rfl⟩ := List.getElem_of_mem hx
    rw [List.length_take] at ht
    exact c.lo t _ (by omega) (by rw [List.getElem_take, List.getElem?_eq_getElem (by omega)])
  have hhi : ∀ x ∈ T.drop i, cmpE e x < 0 := by
    intro x hx
    have hxm := List.mem_of_mem_drop hx
    obtain ⟨t, ht, rfl⟩ := List.getElem_of_mem hx
    rw [List.length_drop] at ht
    refine cmpE_tri (c.hi (i + t) _ (by omega) (by rw [List.getElem_drop, List.getElem?_eq_getElem (by omega)])) (fun h0 => hn ⟨_, hxm, (cmpE_eq _ _).1 h0⟩)
  have hlen : ∀ x ∈ T, x.ks.length = e.ks.length := fun x hx => by have := (h.good x hx).1; have := hg.1; omega
  have hmo : ∀ x ∈ T, x.pr = e.pr → ¬ Meets x e := fun x hx hp hmm => hm ⟨x, hx, hp, hmm⟩
  refine ⟨?_, ?_, ?_, ?_⟩
  · refine List.pairwise_append.2 ⟨h.srt.sublist (List.take_sublist _ _), List.pairwise_cons.2 ⟨hhi, h.srt.sublist (List.drop_sublist _ _)⟩, ?_⟩
    intro x hx y hy
    rcases List.mem_cons.1 hy with rfl | hy
    · exact hlo x hx
    · exact cmpE_trans (hlo x hx) (hhi y hy)
  · intro x hx
    rcases List.mem_append.1 hx with hx | hx
    · exact h.good x (List.mem_of_mem_take hx)
    · rcases List.mem_cons.1 hx with rfl | hx
      · exact hg
      · exact h.good x (List.mem_of_mem_drop hx)
  · have key := h.apart
    rw [← List.take_append_drop i T, List.pairwise_append] at key
    refine List.pairwise_append.2 ⟨key.1, List.pairwise_cons.2 ⟨fun y hy hp hmm => ?_, key.2.1⟩, ?_⟩
    · have hyT := List.mem_of_mem_drop hy
      exact hmo y hyT hp.symm (meets_comm (hlen y hyT).symm hmm)
    · intro x hx y hy
      rcases List.mem_cons.1 hy with rfl | hy
      · exact hmo x (List.mem_of_mem_take hx)
      · exact key.2.2 x hx y hy
  · have e1 : (T.take i ++ e :: T.drop i).length = T.length + 1 := by simp; have := c.le; omega
    rw [e1]; omega
theorem okM_drop {keys most : Int} {T : List TE} (h : OkM keys most T) (i : Nat) : OkM keys most (T.eraseIdx i) := by
  have hs := List.eraseIdx_sublist T i
  refine ⟨h.srt.sublist hs, fun x hx => h.good x (hs.subset hx), h.apart.sublist hs, ?_⟩
  have := h.few; have := hs.length_le; omega
def Hit1 (T : List TE) (k : List Int) (f : Nat) (x : TE) : Prop := T[f]? = some x ∧ FitsE x k ∧ ∀ t y, t < f → T[t]? = some y → ¬ FitsE y k
end Go.Proofs.YtffbnggdckjogaaGreat.Mth
