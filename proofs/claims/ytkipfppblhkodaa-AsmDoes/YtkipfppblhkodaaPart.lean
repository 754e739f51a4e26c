/- What bits.Part does. -/
import Derived.Test.YtkipfppblhkodaaU64
import Derived.Test.YtkipfppblhkodaaJoin
namespace Go.Proofs.Ytkipfppblhkodaa
open Go.RowKit

theorem one_cell64 (w : World) (y : Value) : ∀ (j : Nat) (u : Value), [y][j]? = some u → ((w.alloc F0).alloc (.cells #[y] 32)).cell? ((⟨w.heap.size + 1, 0, none⟩ : Addr).add j) = some u := by
  intro j u hj
  match j, hj with
  | 0, hj => simp at hj; subst hj; simp [Addr.add]

theorem rd_num (zs : List Int) (t n : Nat) (h : n ≤ 64) : 0 ≤ (Mth.rd zs t n : Int) ∧ (Mth.rd zs t n : Int) < 18446744073709551616 := by
  have h1 := Mth.rd_lt zs t n
  have h2 : 2 ^ n ≤ 2 ^ 64 := Nat.pow_le_pow_right (by decide) h
  omega

theorem parts_num {len : Nat} (zs : List Int) (t : Int) (ws : List Int) (k : Nat) (h : ∀ j, j < k → codeOf len (t + (Mth.off ws j : Int)) (ws.getD j 0) = 0) : ∀ n ∈ Mth.parts zs t ws k, 0 ≤ n ∧ n < 18446744073709551616 := by
  intro n hn
  simp only [Mth.parts, List.mem_map, List.mem_range] at hn
  obtain ⟨j, hj, rfl⟩ := hn
  have := code_ok (h j hj)
  exact rd_num _ _ _ (by omega)

end Go.Proofs.Ytkipfppblhkodaa
