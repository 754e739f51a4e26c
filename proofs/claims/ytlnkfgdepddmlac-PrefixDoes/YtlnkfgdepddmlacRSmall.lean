/- The document's own table by beginnings: its head; what Wide, SameNums of one number, may, one do. -/
import Derived.Test.YtlnkfgdepddmlacLOne
import Derived.Test.YtlnkfgdepddmlacLSame
import Derived.Test.YtlnkfgdepddmlacOnes
import Derived.Test.YtlnkfgdepddmlacTTab
import Derived.Test.YtlnkfgdepddmlacTLongMath
namespace Go.Proofs.Ytlnkfgdepddmlac
open Go.RowKit Mth

/-- its head: its kind, its number of keys, its width, how many it may have -/
structure RHead (w : World) (r : Nat) (wd most : Int) : Prop where
  c0 : w.cell? ⟨r, 0, none⟩ = some (.int .i64 2)
  c1 : w.cell? ⟨r, 1, none⟩ = some (.int .i64 1)
  c2 : w.cell? ⟨r, 2, none⟩ = some (.int .i64 wd)
  c3 : w.cell? ⟨r, 3, none⟩ = some (.int .i64 most)

theorem RHead.step {w w' : World} {r : Nat} {wd most : Int} (h : RHead w r wd most) (hb : Below w.heap.size w w') : RHead w' r wd most := by
  have hr := World.block_lt_of_cell? w _ h.c0
  have cs : ∀ i, w'.cell? ⟨r, i, none⟩ = w.cell? ⟨r, i, none⟩ := fun i => hb.cell (p := ⟨r, i, none⟩) hr
  exact ⟨(cs 0).trans h.c0, (cs 1).trans h.c1, (cs 2).trans h.c2, (cs 3).trans h.c3⟩

set_option maxHeartbeats 400000 in
set_option maxRecDepth 20000 in
theorem wide_any (x n : Int) (w : World) : Calls Try.prog 45 #[.int .u64 x, .int .i64 n] w fun e w' => e = .returned (.bool (decide (maskN n < x))) ∧ w' = w := by
  go_enter Try.func45, Try.ntmps45
  go_wp2_with fail
  refine (ones_any _ _).mono ?_
  rintro e w' ⟨rfl, rfl⟩
  go_wp2
  go_ret
  exact ⟨rfl, rfl⟩

/-- SameNums of two lists of one number -/
def OneSame (w w' : World) (x y : Int) (e : Ending) : Prop := e = .returned (.bool (decide (x = y))) ∧ ∃ s, w' = w.drewN s

set_option maxHeartbeats 1000000 in
set_option maxRecDepth 20000 in
theorem same_one {w : World} {a b : Option Addr} {x y : Int} (c d : Nat) (ha : Has .u64 w a 1 [x]) (hb : Has .u64 w b 1 [y]) :
    Calls Try.prog 48 #[.slice a 1 c, .slice b 1 d] w fun e w' => OneSame w w' x y e := by
  obtain ⟨p1, o1, rfl, hp1, hc1⟩ := ha.some (by omega)
  obtain ⟨p2, o2, rfl, hp2, hc2⟩ := hb.some (by omega)
  have q1 : w.cell? ⟨p1, o1, none⟩ = some (.int .u64 x) := hc1 0 (by omega)
  have q2 : w.cell? ⟨p2, o2, none⟩ = some (.int .u64 y) := hc2 0 (by omega)
  clear hc1 hc2 hp1 hp2 ha hb
  go_enter Try.func48, Try.ntmps48
  go_wp2
  go_loopw [5] (fun q wr => (q = .int .i64 0 ∧ wr = w) ∨ (q = .int .i64 1 ∧ Hid (x = y) ∧ Hid (∃ s, wr = w.drewN s))) (fun q _ => 1 - (intOf q).toNat)
  case atStart => exact .inl ⟨rfl, rfl⟩
  case round =>
    rcases hrel with ⟨rfl, rfl⟩ | ⟨rfl, hxy, hq⟩
    · by_cases hxy : x = y
      · subst hxy
        have hx : (x != x) = false := by simp
        go_wp2
        go_big_quiet (fail)
        go_wp2
        go_roundw
        case rel => exact .inr ⟨by go_num, by first | exact hid rfl | exact hid trivial, _, rfl⟩
        case measure => simp [intOf]
      · have hx : (x != y) = true := by simpa using hxy
        go_wp2
        go_big_quiet (fail)
        go_wp2
        go_ret
        exact ⟨by rw [decide_eq_false hxy]; rfl, _, rfl⟩
    · have e := hxy.out
      subst e
      go_wp2
      go_ret
      exact ⟨by rw [decide_eq_true rfl]; rfl, hq⟩
end Go.Proofs.Ytlnkfgdepddmlac
