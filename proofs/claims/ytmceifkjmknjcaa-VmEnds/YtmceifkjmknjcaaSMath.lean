/- Plain facts on words and their sums: no program in sight. -/
import Derived.Test.YtmceifkjmknjcaaBase
namespace Go.Proofs.Ytmceifkjmknjcaa.Mth

/-- the sum of two words -/
def add (a b : Int) : Int := if a % 65536 + b % 65536 > 65535 then a % 65536 + b % 65536 - 65535 else a % 65536 + b % 65536

/-- the word from the byte i on -/
def wd (zs : List Int) (i : Nat) : Int := 256 * zs.getD i 0 + zs.getD (i + 1) 0

/-- the first k words together -/
def wh (zs : List Int) : Nat → Int
  | 0 => 0
  | k + 1 => add (wh zs k) (wd zs (2 * k))

/-- all words together -/
def whole (zs : List Int) : Int := wh zs ((zs.length + 1) / 2)

/-- 0xFFFF less a word -/
def less (v : Int) : Int := 65535 - v % 65536

/-- what a sum turns to -/
def turn (s x y : Int) : Int := less (add (add (less s) (less x)) y)

theorem add_range (a b : Int) : 0 ≤ add a b ∧ add a b ≤ 65535 := by unfold add; split <;> omega

theorem wd_range (zs : List Int) (h : Bytes zs) (i : Nat) : 0 ≤ wd zs i ∧ wd zs i ≤ 65535 := by
  have := h i; have := h (i + 1); unfold wd; omega

theorem wh_range (zs : List Int) (k : Nat) : 0 ≤ wh zs k ∧ wh zs k ≤ 65535 := by
  cases k with
  | zero => simp [wh]
  | succ k => exact add_range _ _

theorem whole_range (zs : List Int) : 0 ≤ whole zs ∧ whole zs ≤ 65535 := wh_range _ _

theorem add_comm (a b : Int) : add a b = add b a := by unfold add; split <;> split <;> omega

theorem add_assoc (a b c : Int) : add (add a b) c = add a (add b c) := by
  unfold add
  have := Int.emod_nonneg a (show (65536 : Int) ≠ 0 by decide)
  have := Int.emod_lt_of_pos a (show (0 : Int) < 65536 by decide)
  have := Int.emod_nonneg b (show (65536 : Int) ≠ 0 by decide)
  have := Int.emod_lt_of_pos b (show (0 : Int) < 65536 by decide)
  have := Int.emod_nonneg c (show (65536 : Int) ≠ 0 by decide)
  have := Int.emod_lt_of_pos c (show (0 : Int) < 65536 by decide)
  generalize a % 65536 = x at *
  generalize b % 65536 = y at *
  generalize c % 65536 = z at *
  repeat' split
  all_goals omega

end Go.Proofs.Ytmceifkjmknjcaa.Mth
