/- Plain facts on bits of bytes: no program in sight. -/
import Derived.Test.YtkipfppblhkodaaBase
namespace Go.Proofs.Ytkipfppblhkodaa.Mth

/-- the bit i of bytes, the highest one of each byte first -/
def bit (zs : List Int) (i : Nat) : Bool := (zs.getD (i / 8) 0).toNat.testBit (7 - i % 8)

/-- the number of the k bits from the bit t on -/
def rd (zs : List Int) (t : Nat) : Nat → Nat
  | 0 => 0
  | k + 1 => 2 * rd zs t k + (bit zs (t + k)).toNat

/-- one byte with one bit set or cleared -/
def one (x : Nat) (p : Nat) (c : Bool) : Nat := if c then x ||| 2 ^ p else x &&& (255 - 2 ^ p)

def put1 (zs : List Int) (i : Nat) (c : Bool) : List Int := zs.set (i / 8) ((one (zs.getD (i / 8) 0).toNat (7 - i % 8) c : Nat) : Int)

/-- behind k rounds: the bits from t on are the highest of the low n of v -/
def wr (zs : List Int) (t n v : Nat) : Nat → List Int
  | 0 => zs
  | k + 1 => put1 (wr zs t n v k) (t + k) (v.testBit (n - 1 - k))

theorem rd_lt (zs : List Int) (t k : Nat) : rd zs t k < 2 ^ k := by
  induction k with
  | zero => simp [rd]
  | succ k ih => simp only [rd, Nat.pow_succ]; have := (bit zs (t + k)).toNat_le; omega

theorem one_lt (x p : Nat) (c : Bool) (hx : x < 256) (hp : p < 8) : one x p c < 256 := by
  unfold one
  split
  · exact Nat.or_lt_two_pow (n := 8) hx (Nat.pow_lt_pow_right (by decide) hp)
  · exact Nat.lt_of_le_of_lt Nat.and_le_left hx

theorem one_bit (x p q : Nat) (c : Bool) (hx : x < 256) (hp : p < 8) : (one x p c).testBit q = if q = p then c else x.testBit q := by
  have hq : (255 - 2 ^ p).testBit q = (decide (q < 8) && !(2 ^ p).testBit q) := by
    have h := Nat.testBit_two_pow_sub_succ (x := 2 ^ p) (n := 8) (Nat.pow_lt_pow_right (by decide) hp) q
    rw [show 2 ^ 8 - (2 ^ p + 1) = 255 - 2 ^ p from by omega] at h
    exact h
  unfold one
  by_cases e : q = p
  · subst e
    cases c
    · simp [Nat.testBit_and, hq, Nat.testBit_two_pow_self]
    · simp [Nat.testBit_or, Nat.testBit_two_pow_self]
  · have h2 : (2 ^ p).testBit q = false := Nat.testBit_two_pow_of_ne (fun h => e h.symm)
    cases c
    · rw [if_neg (by decide), Nat.testBit_and, hq, h2, if_neg e]
      by_cases h8 : q < 8
      · simp [h8]
      · have : x.testBit q = false := Nat.testBit_lt_two_pow (Nat.lt_of_lt_of_le hx (by
          have := Nat.pow_le_pow_right (n := 2) (by decide) (show 8 ≤ q by omega); simpa using this))
        simp [this]
    · simp [Nat.testBit_or, h2, e]

theorem getD_set (zs : List Int) (j i : Nat) (x : Int) : (zs.set j x).getD i 0 = if i = j ∧ j < zs.length then x else zs.getD i 0 := by
  simp only [List.getD_eq_getElem?_getD, List.getElem?_set]
  by_cases h : j = i
  · subst h
    by_cases h2 : j < zs.length
    · simp [h2]
    · simp [h2]
  · have h' : ¬ i = j := fun e => h e.symm
    simp [h, h']

theorem put1_length (zs : List Int) (i : Nat) (c : Bool) : (put1 zs i c).length = zs.length := by simp [put1]

theorem put1_bytes (zs : List Int) (i : Nat) (c : Bool) (h : Bytes zs) : Bytes (put1 zs i c) := by
  intro j
  unfold put1
  rw [getD_set]
  have hb := h (i / 8)
  split
  · have := one_lt (zs.getD (i / 8) 0).toNat (7 - i % 8) c (by omega) (by omega)
    omega
  · exact h j

theorem put1_bit (zs : List Int) (i j : Nat) (c : Bool) (h : Bytes zs) (hi : i < 8 * zs.length) : bit (put1 zs i c) j = if j = i then c else bit zs j := by
  unfold bit put1
  rw [getD_set]
  have hb := h (i / 8)
  by_cases e : j / 8 = i / 8
  · rw [if_pos ⟨e, by omega⟩, Int.toNat_natCast, one_bit _ _ _ _ (by omega) (by omega), e]
    by_cases e2 : j = i
    · subst e2; simp
    · rw [if_neg (by omega), if_neg e2]
  · rw [if_neg (by omega), if_neg (by omega)]

theorem wr_length (zs : List Int) (t n v k : Nat) : (wr zs t n v k).length = zs.length := by
  induction k with
  | zero => rfl
  | succ k ih => rw [wr, put1_length, ih]

theorem wr_bytes (zs : List Int) (t n v k : Nat) (h : Bytes zs) : Bytes (wr zs t n v k) := by
  induction k with
  | zero => exact h
  | succ k ih => exact put1_bytes _ _ _ ih

theorem wr_bit (zs : List Int) (t n v k j : Nat) (h : Bytes zs) (hk : t + k ≤ 8 * zs.length) :
    bit (wr zs t n v k) j = if t ≤ j ∧ j < t + k then v.testBit (n - 1 - (j - t)) else bit zs j := by
  induction k with
  | zero => rw [if_neg (by omega)]; rfl
  | succ k ih =>
    rw [wr, put1_bit _ _ _ _ (wr_bytes _ _ _ _ _ h) (by rw [wr_length]; omega), ih (by omega)]
    by_cases e : j = t + k
    · subst e; rw [if_pos rfl, if_pos (by omega), show t + k - t = k from by omega]
    · rw [if_neg e]
      by_cases e2 : t ≤ j ∧ j < t + k
      · rw [if_pos e2, if_pos (by omega)]
      · rw [if_neg e2, if_neg (by omega)]

/-- bytes with the same bits are the same -/
theorem ext (xs ys : List Int) (hx : Bytes xs) (hy : Bytes ys) (hl : xs.length = ys.length) (h : ∀ j, j < 8 * xs.length → bit xs j = bit ys j) : xs = ys := by
  apply List.ext_getElem hl
  intro i h1 h2
  have a := hx i
  have b := hy i
  have e1 : xs.getD i 0 = xs[i] := by simp [List.getD_eq_getElem?_getD, h1]
  have e2 : ys.getD i 0 = ys[i] := by simp [List.getD_eq_getElem?_getD, h2]
  have key : (xs.getD i 0).toNat = (ys.getD i 0).toNat := by
    apply Nat.eq_of_testBit_eq
    intro q
    by_cases hq : q < 8
    · have := h (8 * i + (7 - q)) (by omega)
      unfold bit at this
      rw [show (8 * i + (7 - q)) / 8 = i from by omega, show 7 - (8 * i + (7 - q)) % 8 = q from by omega] at this
      exact this
    · have big : 256 ≤ 2 ^ q := by have := Nat.pow_le_pow_right (n := 2) (by decide) (show 8 ≤ q by omega); simpa using this
      rw [Nat.testBit_lt_two_pow (by omega), Nat.testBit_lt_two_pow (by omega)]
  rw [← e1, ← e2]
  omega

theorem rd_congr (xs ys : List Int) (t k : Nat) (h : ∀ j, t ≤ j → j < t + k → bit xs j = bit ys j) : rd xs t k = rd ys t k := by
  induction k with
  | zero => rfl
  | succ k ih => rw [rd, rd, ih (fun j a b => h j a (by omega)), h (t + k) (by omega) (by omega)]

theorem rd_of_bits (zs : List Int) (t n v k : Nat) (hk : k ≤ n) (h : ∀ j, j < n → bit zs (t + j) = v.testBit (n - 1 - j)) : rd zs t k = v / 2 ^ (n - k) % 2 ^ k := by
  induction k with
  | zero => simp [rd, Nat.mod_one]
  | succ k ih =>
    rw [rd, ih (by omega), h k (by omega)]
    have e : v / 2 ^ (n - k) = v / 2 ^ (n - (k + 1)) / 2 := by
      rw [Nat.div_div_eq_div_mul, ← Nat.pow_succ, show (n - (k + 1)).succ = n - k from by omega]
    rw [e, show n - 1 - k = n - (k + 1) from by omega, Nat.testBit_eq_decide_div_mod_eq]
    generalize v / 2 ^ (n - (k + 1)) = u
    rw [Nat.pow_succ, Nat.mul_comm (2 ^ k) 2, Nat.mod_mul]
    have : u % 2 = 0 ∨ u % 2 = 1 := by omega
    rcases this with e | e <;> simp [e] <;> omega

/-- what was put is got -/
theorem rd_wr (zs : List Int) (t n v : Nat) (h : Bytes zs) (hk : t + n ≤ 8 * zs.length) : rd (wr zs t n v n) t n = v % 2 ^ n := by
  rw [rd_of_bits (wr zs t n v n) t n v n (Nat.le_refl _) ?_]
  · simp
  · intro j hj
    rw [wr_bit _ _ _ _ _ _ h hk, if_pos (by omega), show t + j - t = j from by omega]

end Go.Proofs.Ytkipfppblhkodaa.Mth
