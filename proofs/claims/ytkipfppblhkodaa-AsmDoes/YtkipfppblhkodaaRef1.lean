/- What the document's own small functions do: F, bitsFault, Ones, SameNums, bitsNum, numBits. -/
import Derived.Test.YtkipfppblhkodaaPart
import Derived.Test.YtkipfppblhkodaaRMath
namespace Go.Proofs.Ytkipfppblhkodaa
open Go.RowKit

set_option maxHeartbeats 400000 in
set_option maxRecDepth 20000 in
theorem fault_any (x y : Int) (w : World) :
    Calls Try.prog 23 #[.int .i64 x, .int .i64 y] w fun e w' => e = .returned (.agg #[.int .i64 x, .int .i64 y]) ∧ Below w.heap.size w w' := by
  go_enter Try.func23, Try.ntmps23
  go_wp2
  exact bodyPost_ret (v := .agg #[.int .i64 x, .int .i64 y]) (by simp [results, Try.results23, go_sem]) rfl ⟨rfl, (Below.refl _ _).alloc (Nat.le_refl _) _⟩

/-- where a fault lies -/
def atOf (c : Int) : Int := if c = 0 then 0 else -1

theorem end_fault {w wr : World} (hb : Below (w.heap.size + 1) (w.alloc F0) wr) (x y : Value) : Below w.heap.size w ((wr.setCell ⟨w.heap.size, 0, none⟩ x).setCell ⟨w.heap.size, 1, none⟩ y) :=
  ((((Below.refl w.heap.size w).alloc (Nat.le_refl _) _).trans (hb.mono (Nat.le_succ _))).setCell (Nat.le_refl _) _).setCell (Nat.le_refl _) _

theorem num_step (l : List Int) (k : Nat) (h : k < 64) (hb : Mth.IsBits l) : IntKind.u64.wrap (IntKind.u64.wrap (2 * (Mth.num l k : Int)) + (l.getD k 0)) = (Mth.num l (k + 1) : Int) := by
  have h1 := Mth.num_lt l k hb
  have h2 : 2 ^ k ≤ 2 ^ 63 := Nat.pow_le_pow_right (by decide) (by omega)
  have h3 := hb k
  rw [IntKind.wrap_u64, IntKind.wrap_u64, Mth.num]
  omega

end Go.Proofs.Ytkipfppblhkodaa
