/- Names of keys, as plain lists: the bytes of numbers, the highest first, and back. -/
import Derived.Test.YtfpefjadlbphiabBase
namespace Go.Proofs.Ytfpefjadlbphiab.Mth

/-- the byte i of eight of a number -/
def byteOf (v : Int) (i : Nat) : Int := v / 2 ^ (8 * (7 - i)) % 256

/-- the first i bytes of a number -/
def be (v : Int) (i : Nat) : List Int := (List.range i).map (byteOf v)

/-- the bytes of the first j numbers -/
def nmI (ks : List Int) : Nat → List Int
  | 0 => []
  | j + 1 => nmI ks j ++ be (ks.getD j 0) 8

def toB (zs : List Int) : List UInt8 := zs.map fun n => UInt8.ofNat n.toNat

/-- the name of keys -/
def nm (ks : List Int) : List UInt8 := toB (nmI ks ks.length)

theorem byteOf_is (v : Int) (i : Nat) : 0 ≤ byteOf v i ∧ byteOf v i < 256 := by
  unfold byteOf; omega

theorem be_length (v : Int) (i : Nat) : (be v i).length = i := by simp [be]

theorem be_succ (v : Int) (i : Nat) : be v (i + 1) = be v i ++ [byteOf v i] := by
  simp [be, List.range_succ]

theorem nmI_length (ks : List Int) (j : Nat) : (nmI ks j).length = 8 * j := by
  induction j with
  | zero => rfl
  | succ j ih => simp only [nmI, List.length_append, ih, be_length]; omega

theorem bytes_append {xs ys : List Int} (h : Bytes xs) (k : Bytes ys) : Bytes (xs ++ ys) := by
  intro i
  simp only [List.getD_eq_getElem?_getD]
  by_cases hi : i < xs.length
  · rw [List.getElem?_append_left hi]; simpa [List.getD_eq_getElem?_getD] using h i
  · rw [List.getElem?_append_right (Nat.le_of_not_lt hi)]; simpa [List.getD_eq_getElem?_getD] using k (i - xs.length)

theorem be_bytes (v : Int) (i : Nat) : Bytes (be v i) := by
  intro j
  by_cases hj : j < i
  · have := byteOf_is v j
    simp only [be, List.getD_eq_getElem?_getD, List.getElem?_map, List.getElem?_range hj, Option.map_some, Option.getD_some]
    exact this
  · have e : (be v i)[j]? = none := List.getElem?_eq_none (by rw [be_length]; omega)
    simp [List.getD_eq_getElem?_getD, e]

theorem nmI_bytes (ks : List Int) (j : Nat) : Bytes (nmI ks j) := by
  induction j with
  | zero => intro i; simp [nmI]
  | succ j ih => exact bytes_append ih (be_bytes _ _)

theorem nm_length (ks : List Int) : (nm ks).length = 8 * ks.length := by
  simp [nm, toB, nmI_length]

/-- the number of r bytes from 8 j on -/
def acc (x : List UInt8) (j : Nat) : Nat → Nat
  | 0 => 0
  | r + 1 => acc x j r * 256 + (x.getD (8 * j + r) 0).toNat

/-- the numbers whose name it is -/
def un (x : List UInt8) : List Int := (List.range (x.length / 8)).map fun j => (acc x j 8 : Int)

theorem acc_lt (x : List UInt8) (j r : Nat) : acc x j r < 2 ^ (8 * r) := by
  induction r with
  | zero => simp [acc]
  | succ r ih =>
    have h1 := (x.getD (8 * j + r) 0).toNat_lt
    have h2 : (2 : Nat) ^ (8 * (r + 1)) = 2 ^ (8 * r) * 256 := by rw [show 8 * (r + 1) = 8 * r + 8 by omega, Nat.pow_add]
    rw [acc, h2]
    omega

theorem un_length (x : List UInt8) : (un x).length = x.length / 8 := by simp [un]

theorem un_at (x : List UInt8) (j : Nat) (h : j < x.length / 8) : (un x).getD j 0 = (acc x j 8 : Int) := by
  simp [un, List.getD_eq_getElem?_getD, h]

theorem un_nums (x : List UInt8) : ∀ n ∈ un x, 0 ≤ n ∧ n < 18446744073709551616 := by
  intro n hn
  simp only [un, List.mem_map, List.mem_range] at hn
  obtain ⟨j, _, rfl⟩ := hn
  have := acc_lt x j 8
  omega

theorem bytes8 (b0 b1 b2 b3 b4 b5 b6 b7 : Nat) (h0 : b0 < 256) (h1 : b1 < 256) (h2 : b2 < 256) (h3 : b3 < 256) (h4 : b4 < 256) (h5 : b5 < 256) (h6 : b6 < 256) (h7 : b7 < 256) (A : Nat)
    (hA : A = (((((((0 * 256 + b0) * 256 + b1) * 256 + b2) * 256 + b3) * 256 + b4) * 256 + b5) * 256 + b6) * 256 + b7) :
    A / 72057594037927936 % 256 = b0 ∧ A / 281474976710656 % 256 = b1 ∧ A / 1099511627776 % 256 = b2 ∧ A / 4294967296 % 256 = b3 ∧ A / 16777216 % 256 = b4 ∧ A / 65536 % 256 = b5 ∧ A / 256 % 256 = b6 ∧ A / 1 % 256 = b7 := by
  omega

theorem byte_acc (x : List UInt8) (j i : Nat) (h : i < 8) : UInt8.ofNat (byteOf (acc x j 8 : Int) i).toNat = x.getD (8 * j + i) 0 := by
  have k := bytes8 _ _ _ _ _ _ _ _ (x.getD (8 * j + 0) 0).toNat_lt (x.getD (8 * j + 1) 0).toNat_lt (x.getD (8 * j + 2) 0).toNat_lt (x.getD (8 * j + 3) 0).toNat_lt (x.getD (8 * j + 4) 0).toNat_lt (x.getD (8 * j + 5) 0).toNat_lt (x.getD (8 * j + 6) 0).toNat_lt (x.getD (8 * j + 7) 0).toNat_lt (acc x j 8) rfl
  obtain ⟨k0, k1, k2, k3, k4, k5, k6, k7⟩ := k
  have e : (byteOf (acc x j 8 : Int) i).toNat = (x.getD (8 * j + i) 0).toNat := by
    unfold byteOf
    generalize acc x j 8 = A at *
    match i, h with
    | 0, _ => simp only [Nat.reduceSub, Nat.reduceMul, Int.reducePow]; omega
    | 1, _ => simp only [Nat.reduceSub, Nat.reduceMul, Int.reducePow]; omega
    | 2, _ => simp only [Nat.reduceSub, Nat.reduceMul, Int.reducePow]; omega
    | 3, _ => simp only [Nat.reduceSub, Nat.reduceMul, Int.reducePow]; omega
    | 4, _ => simp only [Nat.reduceSub, Nat.reduceMul, Int.reducePow]; omega
    | 5, _ => simp only [Nat.reduceSub, Nat.reduceMul, Int.reducePow]; omega
    | 6, _ => simp only [Nat.reduceSub, Nat.reduceMul, Int.reducePow]; omega
    | 7, _ => simp only [Nat.reduceSub, Nat.reduceMul, Int.reducePow]; omega
  rw [e, UInt8.ofNat_toNat]

theorem toB_append (xs ys : List Int) : toB (xs ++ ys) = toB xs ++ toB ys := by simp [toB]

theorem be_acc (x : List UInt8) (j r : Nat) (hr : r ≤ 8) (h : 8 * j + r ≤ x.length) : toB (be (acc x j 8 : Int) r) = (x.drop (8 * j)).take r := by
  induction r with
  | zero => simp [be, toB]
  | succ r ih =>
    rw [be_succ, toB_append, ih (by omega) (by omega)]
    have : (x.drop (8 * j)).take (r + 1) = (x.drop (8 * j)).take r ++ [x.getD (8 * j + r) 0] := by
      rw [List.take_succ_eq_append_getElem (by rw [List.length_drop]; omega)]
      simp [List.getD_eq_getElem?_getD, show 8 * j + r < x.length by omega]
    rw [this, ← byte_acc x j r (by omega)]
    rfl

theorem nm_take (x : List UInt8) (j : Nat) (h : 8 * j ≤ x.length) : toB (nmI (un x) j) = x.take (8 * j) := by
  induction j with
  | zero => simp [nmI, toB]
  | succ j ih =>
    rw [nmI, toB_append, ih (by omega), un_at x j (by omega), be_acc x j 8 (Nat.le_refl _) (by omega)]
    rw [show 8 * (j + 1) = 8 * j + 8 by omega, List.take_add]

/-- there and back -/
theorem nm_un (x : List UInt8) (m : Nat) (h : x.length = 8 * m) : nm (un x) = x := by
  rw [nm, nm_take x _ (by rw [un_length]; omega), un_length]
  rw [show 8 * (x.length / 8) = x.length by omega]
  simp
end Go.Proofs.Ytfpefjadlbphiab.Mth
