/- What bits.Join does. -/
import Derived.Test.YtkipfppblhkodaaBegun
import Derived.Test.YtkipfppblhkodaaJMath
namespace Go.Proofs.Ytkipfppblhkodaa
open Go.RowKit

abbrev F0 : Obj := .cells #[.int .i64 0, .int .i64 0] 43

theorem Has.num {w : World} {a : Option Addr} {len : Nat} {zs : List Int} (h : Has .u64 w a len zs) (i : Nat) : 0 ≤ zs.getD i 0 ∧ zs.getD i 0 < 18446744073709551616 := by
  by_cases hi : i < zs.length
  · have := bounds_u64 (h.2.1 zs[i] (List.getElem_mem hi))
    simp only [List.getD_eq_getElem?_getD, List.getElem?_eq_getElem hi, Option.getD_some]
    omega
  · simp [List.getD_eq_getElem?_getD, List.getElem?_eq_none (Nat.le_of_not_lt hi)]

theorem fault_cells {w wr : World} (hb : Below (w.heap.size + 1) (w.alloc F0) wr) :
    wr.cell? ⟨w.heap.size, 0, none⟩ = some (.int .i64 0) ∧ wr.cell? ⟨w.heap.size, 1, none⟩ = some (.int .i64 0) ∧ wr.frozen? ⟨w.heap.size, 0, none⟩ = false ∧ wr.frozen? ⟨w.heap.size, 1, none⟩ = false ∧ w.heap.size < wr.heap.size :=
  ⟨(hb.cell (p := ⟨w.heap.size, 0, none⟩) (by simp)).trans (by simp), (hb.cell (p := ⟨w.heap.size, 1, none⟩) (by simp)).trans (by simp),
   (hb.frozen (p := ⟨w.heap.size, 0, none⟩) (by simp)).trans (by simp), (hb.frozen (p := ⟨w.heap.size, 1, none⟩) (by simp)).trans (by simp), by have := hb.size; simp at this; omega⟩

theorem made_zero (n : Nat) : (madeCells (Value.int .u8 0).cells (n * 1)).toList = BB (List.replicate n 0) := by
  rw [Nat.mul_one]
  have := toList_madeCells_one (.int .u8 0) n
  simp only [BB, List.map_replicate]
  exact this

end Go.Proofs.Ytkipfppblhkodaa
