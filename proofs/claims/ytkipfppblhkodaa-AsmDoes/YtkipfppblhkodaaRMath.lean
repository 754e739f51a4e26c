/- Plain facts on lists of bits, as the document's own answer has them. -/
import Derived.Test.YtkipfppblhkodaaJMath
namespace Go.Proofs.Ytkipfppblhkodaa.Mth

/-- the first k bits of bytes, a number each -/
def bo (zs : List Int) (k : Nat) : List Int := (List.range k).map fun i => ((bit zs i).toNat : Int)

/-- the first k of the low n bits of a number, the highest first -/
def nb (v n k : Nat) : List Int := (List.range k).map fun j => ((v.testBit (n - 1 - j)).toNat : Int)

/-- the number of the first k bits of a list -/
def num (l : List Int) : Nat → Nat
  | 0 => 0
  | k + 1 => 2 * num l k + (l.getD k 0).toNat

/-- the byte that begins at the bit i, behind k of its bits -/
def px (l : List Int) (i : Nat) : Nat → Nat
  | 0 => 0
  | k + 1 => 2 * px l i k + (l.getD (i + k) 0).toNat

/-- the first q bytes of a list of bits -/
def by8 (l : List Int) (q : Nat) : List Int := (List.range q).map fun i => (px l (8 * i) 8 : Int)

def IsBits (l : List Int) : Prop := ∀ i, l.getD i 0 = 0 ∨ l.getD i 0 = 1

theorem bo_succ (zs : List Int) (k : Nat) : bo zs (k + 1) = bo zs k ++ [((bit zs k).toNat : Int)] := by simp [bo, List.range_succ]
theorem bo_length (zs : List Int) (k : Nat) : (bo zs k).length = k := by simp [bo]
theorem bo_at (zs : List Int) (k i : Nat) (h : i < k) : (bo zs k).getD i 0 = ((bit zs i).toNat : Int) := by
  simp [bo, List.getD_eq_getElem?_getD, List.getElem?_range h]
theorem nb_succ (v n k : Nat) : nb v n (k + 1) = nb v n k ++ [((v.testBit (n - 1 - k)).toNat : Int)] := by simp [nb, List.range_succ]
theorem nb_length (v n k : Nat) : (nb v n k).length = k := by simp [nb]
theorem nb_at (v n k i : Nat) (h : i < k) : (nb v n k).getD i 0 = ((v.testBit (n - 1 - i)).toNat : Int) := by
  simp [nb, List.getD_eq_getElem?_getD, List.getElem?_range h]
theorem by8_succ (l : List Int) (q : Nat) : by8 l (q + 1) = by8 l q ++ [(px l (8 * q) 8 : Int)] := by simp [by8, List.range_succ]
theorem by8_length (l : List Int) (q : Nat) : (by8 l q).length = q := by simp [by8]
theorem by8_at (l : List Int) (q i : Nat) (h : i < q) : (by8 l q).getD i 0 = (px l (8 * i) 8 : Int) := by
  simp [by8, List.getD_eq_getElem?_getD, List.getElem?_range h]

theorem getD_ge (l : List Int) (i : Nat) (h : l.length ≤ i) : l.getD i 0 = 0 := by
  simp [List.getD_eq_getElem?_getD, List.getElem?_eq_none h]

theorem bo_bits (zs : List Int) (k : Nat) : IsBits (bo zs k) := by
  intro i
  by_cases h : i < k
  · rw [bo_at _ _ _ h]; cases bit zs i <;> simp
  · left; exact getD_ge _ _ (by rw [bo_length]; omega)

theorem nb_bits (v n k : Nat) : IsBits (nb v n k) := by
  intro i
  by_cases h : i < k
  · rw [nb_at _ _ _ _ h]; cases v.testBit (n - 1 - i) <;> simp
  · left; exact getD_ge _ _ (by rw [nb_length]; omega)

theorem px_lt (l : List Int) (i k : Nat) (h : IsBits l) : px l i k < 2 ^ k := by
  induction k with
  | zero => simp [px]
  | succ k ih =>
    have := h (i + k)
    simp only [px, Nat.pow_succ]
    rcases this with e | e <;> rw [e] <;> simp <;> omega

theorem num_lt (l : List Int) (k : Nat) (h : IsBits l) : num l k < 2 ^ k := by
  induction k with
  | zero => simp [num]
  | succ k ih =>
    have := h k
    simp only [num, Nat.pow_succ]
    rcases this with e | e <;> rw [e] <;> simp <;> omega

theorem num_rd (zs l : List Int) (t k : Nat) (h : ∀ j, j < k → l.getD j 0 = ((bit zs (t + j)).toNat : Int)) : num l k = rd zs t k := by
  induction k with
  | zero => rfl
  | succ k ih => rw [num, rd, ih (fun j hj => h j (by omega)), h k (by omega)]; simp

/-- the bit r of the byte that begins at i -/
theorem px_bit (l : List Int) (i k r : Nat) (h : IsBits l) (hr : r < k) : (px l i k).testBit (k - 1 - r) = decide (l.getD (i + r) 0 = 1) := by
  induction k with
  | zero => omega
  | succ k ih =>
    have hb := h (i + k)
    have hp := px_lt l i k h
    rw [px]
    by_cases e : r = k
    · subst e
      rw [show r + 1 - 1 - r = 0 from by omega, Nat.testBit_zero]
      rcases hb with e | e <;> rw [e] <;> simp
    · rw [show k + 1 - 1 - r = (k - 1 - r) + 1 from by omega, Nat.testBit_succ, ← ih (by omega)]
      congr 1
      rcases hb with e | e <;> rw [e] <;> simp <;> omega

theorem by8_bytes (l : List Int) (q : Nat) (h : IsBits l) : Bytes (by8 l q) := by
  intro i
  by_cases hi : i < q
  · rw [by8_at _ _ _ hi]
    have := px_lt l (8 * i) 8 h
    omega
  · rw [getD_ge _ _ (by rw [by8_length]; omega)]; omega

theorem by8_bit (l : List Int) (q j : Nat) (h : IsBits l) (hj : j < 8 * q) : bit (by8 l q) j = decide (l.getD j 0 = 1) := by
  unfold bit
  rw [by8_at _ _ _ (by omega), Int.toNat_natCast]
  have := px_bit l (8 * (j / 8)) 8 (j % 8) h (by omega)
  rw [show 8 - 1 - j % 8 = 7 - j % 8 from by omega, show 8 * (j / 8) + j % 8 = j from by omega] at this
  exact this

/-- the bits of what is put -/
def pl (zs : List Int) (t n v : Nat) : List Int := (bo zs (8 * zs.length)).take t ++ nb v n n ++ (bo zs (8 * zs.length)).drop (t + n)

theorem pl_length (zs : List Int) (t n v : Nat) (h : t + n ≤ 8 * zs.length) : (pl zs t n v).length = 8 * zs.length := by
  simp only [pl, List.length_append, List.length_take, List.length_drop, bo_length, nb_length]
  omega

theorem pl_at (zs : List Int) (t n v i : Nat) (h : t + n ≤ 8 * zs.length) (hi : i < 8 * zs.length) :
    (pl zs t n v).getD i 0 = ((if t ≤ i ∧ i < t + n then v.testBit (n - 1 - (i - t)) else bit zs i).toNat : Int) := by
  have hl : ((bo zs (8 * zs.length)).take t).length = t := by rw [List.length_take, bo_length]; omega
  have hb := bo_at zs (8 * zs.length)
  simp only [List.getD_eq_getElem?_getD] at hb ⊢
  unfold pl
  by_cases h1 : i < t
  · rw [if_neg (by omega), List.append_assoc, List.getElem?_append_left (by omega), List.getElem?_take, if_pos h1]
    exact hb i hi
  · by_cases h2 : i < t + n
    · rw [if_pos (by omega), List.append_assoc, List.getElem?_append_right (by omega), hl, List.getElem?_append_left (by rw [nb_length]; omega)]
      have := nb_at v n n (i - t) (by omega)
      simpa [List.getD_eq_getElem?_getD] using this
    · rw [if_neg (by omega), List.getElem?_append_right (by rw [List.length_append, hl, nb_length]; omega), List.length_append, hl, nb_length, List.getElem?_drop, show t + n + (i - (t + n)) = i from by omega]
      exact hb i hi

theorem pl_bits (zs : List Int) (t n v : Nat) (h : t + n ≤ 8 * zs.length) : IsBits (pl zs t n v) := by
  intro i
  by_cases hi : i < 8 * zs.length
  · rw [pl_at _ _ _ _ _ h hi]
    generalize (if t ≤ i ∧ i < t + n then v.testBit (n - 1 - (i - t)) else bit zs i) = c
    cases c <;> simp
  · left; exact getD_ge _ _ (by rw [pl_length _ _ _ _ h]; omega)

/-- both ways of putting are one -/
theorem put_same (zs : List Int) (t n v : Nat) (hb : Bytes zs) (h : t + n ≤ 8 * zs.length) : by8 (pl zs t n v) zs.length = wr zs t n v n := by
  apply ext _ _ (by8_bytes _ _ (pl_bits _ _ _ _ h)) (wr_bytes _ _ _ _ _ hb) (by rw [by8_length, wr_length])
  intro j hj
  rw [by8_length] at hj
  rw [by8_bit _ _ _ (pl_bits _ _ _ _ h) hj, pl_at _ _ _ _ _ h hj, wr_bit _ _ _ _ _ _ hb h]
  generalize (if t ≤ j ∧ j < t + n then v.testBit (n - 1 - (j - t)) else bit zs j) = c
  cases c <;> simp

/-- the bits of what is joined -/
def jl (ls ws : List Int) : Nat → List Int
  | 0 => []
  | i + 1 => jl ls ws i ++ nb (ls.getD i 0).toNat (ws.getD i 0).toNat (ws.getD i 0).toNat

theorem jl_length (ls ws : List Int) (k : Nat) : (jl ls ws k).length = off ws k := by
  induction k with
  | zero => rfl
  | succ k ih => rw [jl, List.length_append, ih, nb_length, off]

theorem jl_bits (ls ws : List Int) (k : Nat) : IsBits (jl ls ws k) := by
  induction k with
  | zero => intro i; left; simp [jl]
  | succ k ih =>
    intro i
    rw [jl, List.getD_eq_getElem?_getD]
    by_cases h : i < (jl ls ws k).length
    · rw [List.getElem?_append_left h]; have := ih i; simpa [List.getD_eq_getElem?_getD] using this
    · rw [List.getElem?_append_right (by omega)]
      have := nb_bits (ls.getD k 0).toNat (ws.getD k 0).toNat (ws.getD k 0).toNat (i - (jl ls ws k).length)
      simpa [List.getD_eq_getElem?_getD] using this

theorem zero_bit (len j : Nat) : bit (List.replicate len 0) j = false := by
  unfold bit
  have : (List.replicate len (0 : Int)).getD (j / 8) 0 = 0 := by
    by_cases h : j / 8 < len
    · simp [List.getD_eq_getElem?_getD, h]
    · simp [List.getD_eq_getElem?_getD, h]
  rw [this]; simp

theorem jn_bit (ls ws : List Int) (len k j : Nat) (h : off ws k ≤ 8 * len) : bit (jn ls ws len k) j = decide ((jl ls ws k).getD j 0 = 1) := by
  induction k with
  | zero => rw [jn, zero_bit]; simp [jl]
  | succ k ih =>
    have h2 : off ws k + (ws.getD k 0).toNat ≤ 8 * len := by simpa [off] using h
    rw [jn, wr_bit _ _ _ _ _ _ (jn_bytes _ _ _ _) (by rw [jn_length]; exact h2), ih (by omega), jl]
    have hl := jl_length ls ws k
    simp only [List.getD_eq_getElem?_getD]
    by_cases c : j < off ws k
    · rw [if_neg (by omega), List.getElem?_append_left (by omega)]
    · rw [List.getElem?_append_right (by omega), hl, List.getElem?_eq_none (by omega : (jl ls ws k).length ≤ j)]
      by_cases c2 : j < off ws k + (ws.getD k 0).toNat
      · simp only [List.getD_eq_getElem?_getD] at c2
        rw [if_pos (by omega)]
        have := nb_at (ls[k]?.getD 0).toNat (ws[k]?.getD 0).toNat (ws[k]?.getD 0).toNat (j - off ws k) (by omega)
        simp only [List.getD_eq_getElem?_getD] at this
        rw [this]
        cases (ls[k]?.getD 0).toNat.testBit ((ws[k]?.getD 0).toNat - 1 - (j - off ws k)) <;> simp
      · simp only [List.getD_eq_getElem?_getD] at c2
        rw [if_neg (by omega), List.getElem?_eq_none (by rw [nb_length]; omega)]

/-- both ways of joining are one -/
theorem join_same (ls ws : List Int) (k : Nat) : by8 (jl ls ws k) ((off ws k + 7) / 8) = jn ls ws ((off ws k + 7) / 8) k := by
  apply ext _ _ (by8_bytes _ _ (jl_bits _ _ _)) (jn_bytes _ _ _ _) (by rw [by8_length, jn_length])
  intro j hj
  rw [by8_length] at hj
  rw [by8_bit _ _ _ (jl_bits _ _ _) hj, jn_bit _ _ _ _ _ (by omega)]

end Go.Proofs.Ytkipfppblhkodaa.Mth
