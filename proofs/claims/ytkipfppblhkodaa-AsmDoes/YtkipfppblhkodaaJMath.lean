/- Plain facts on numbers that are joined and parted. -/
import Derived.Test.YtkipfppblhkodaaMath
namespace Go.Proofs.Ytkipfppblhkodaa.Mth

/-- where the number i begins -/
def off (ws : List Int) : Nat → Nat
  | 0 => 0
  | i + 1 => off ws i + (ws.getD i 0).toNat

def Wide (ws : List Int) (i : Nat) : Prop := 1 ≤ ws.getD i 0 ∧ ws.getD i 0 ≤ 64

/-- the bytes behind k numbers -/
def jn (ls ws : List Int) (len : Nat) : Nat → List Int
  | 0 => List.replicate len 0
  | i + 1 => wr (jn ls ws len i) (off ws i) (ws.getD i 0).toNat (ls.getD i 0).toNat (ws.getD i 0).toNat

theorem off_le (ws : List Int) (k : Nat) (h : ∀ j, j < k → Wide ws j) : off ws k ≤ 64 * k := by
  induction k with
  | zero => simp [off]
  | succ k ih =>
    have := ih (fun j hj => h j (by omega))
    have h2 := h k (by omega)
    unfold Wide at h2
    simp only [off]
    omega

theorem off_mono (ws : List Int) (i k : Nat) (h : i ≤ k) : off ws i ≤ off ws k := by
  induction k with
  | zero => rw [show i = 0 from by omega]; exact Nat.le_refl _
  | succ k ih =>
    by_cases e : i = k + 1
    · subst e; exact Nat.le_refl _
    · have := ih (by omega); simp only [off]; omega

theorem bytes_zero (len : Nat) : Bytes (List.replicate len 0) := by
  intro i
  by_cases h : i < len
  · simp [List.getD_eq_getElem?_getD, h]
  · simp [List.getD_eq_getElem?_getD, h]

theorem jn_length (ls ws : List Int) (len k : Nat) : (jn ls ws len k).length = len := by
  induction k with
  | zero => simp [jn]
  | succ k ih => rw [jn, wr_length, ih]

theorem jn_bytes (ls ws : List Int) (len k : Nat) : Bytes (jn ls ws len k) := by
  induction k with
  | zero => exact bytes_zero len
  | succ k ih => exact wr_bytes _ _ _ _ _ ih

/-- what was joined is parted -/
theorem rd_jn (ls ws : List Int) (len k i : Nat) (hi : i < k) (hlen : off ws k ≤ 8 * len) :
    rd (jn ls ws len k) (off ws i) (ws.getD i 0).toNat = (ls.getD i 0).toNat % 2 ^ (ws.getD i 0).toNat := by
  induction k with
  | zero => omega
  | succ k ih =>
    have hl2 : off ws k + (ws.getD k 0).toNat ≤ 8 * len := by simpa [off] using hlen
    rw [jn]
    by_cases e : i = k
    · subst e
      exact rd_wr _ _ _ _ (jn_bytes _ _ _ _) (by rw [jn_length]; exact hl2)
    · rw [← ih (by omega) (by omega)]
      apply rd_congr
      intro j h1 h2
      rw [wr_bit _ _ _ _ _ _ (jn_bytes _ _ _ _) (by rw [jn_length]; exact hl2), if_neg]
      have := off_mono ws (i + 1) k (by omega)
      simp only [off] at this
      omega

/-- the numbers of the first k widths from the bit t on -/
def parts (zs : List Int) (t : Int) (ws : List Int) (k : Nat) : List Int :=
  (List.range k).map fun j => (rd zs (t + (off ws j : Int)).toNat (ws.getD j 0).toNat : Int)

theorem parts_succ (zs : List Int) (t : Int) (ws : List Int) (k : Nat) : parts zs t ws (k + 1) = parts zs t ws k ++ [(rd zs (t + (off ws k : Int)).toNat (ws.getD k 0).toNat : Int)] := by
  simp [parts, List.range_succ]

theorem parts_length (zs : List Int) (t : Int) (ws : List Int) (k : Nat) : (parts zs t ws k).length = k := by simp [parts]

theorem parts_at (zs : List Int) (t : Int) (ws : List Int) (k i : Nat) (h : i < k) : (parts zs t ws k).getD i 0 = (rd zs (t + (off ws i : Int)).toNat (ws.getD i 0).toNat : Int) := by
  simp [parts, List.getD_eq_getElem?_getD, List.getElem?_map, List.getElem?_range h]

end Go.Proofs.Ytkipfppblhkodaa.Mth
