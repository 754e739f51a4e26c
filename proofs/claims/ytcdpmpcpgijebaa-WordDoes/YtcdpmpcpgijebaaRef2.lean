/- What the document's numBits, bitsOf and bytesOf do. -/
import Derived.Test.YtcdpmpcpgijebaaRef1
namespace Go.Proofs.Ytcdpmpcpgijebaa
open Go.RowKit

theorem one_cell8 (w : World) (y : Value) : ∀ (j : Nat) (u : Value), [y][j]? = some u → (w.alloc (.cells #[y] 5)).cell? ((⟨w.heap.size, 0, none⟩ : Addr).add j) = some u := by
  intro j u hj
  match j, hj with
  | 0, hj => simp at hj; subst hj; simp [Addr.add]

theorem push8 {w : World} {base n : Nat} {v : Value} {ys : List Int} {x y : Int} (h : w.ownsRow base 5 1 v (n + 1) (BB ys ++ [.int .u8 x])) (e : x = y) : w.ownsRow base 5 1 v (n + 1) (BB (ys ++ [y])) := by
  subst e
  simpa [BB] using h

theorem bit_cell (v m : Nat) (hv : v < 18446744073709551616) : bits BinOp.and IntKind.u64 ((v : Int) / 2 ^ m) 1 % 256 = ((v.testBit m).toNat : Int) := by
  have e : ((v : Int) / 2 ^ m) = ((v / 2 ^ m : Nat) : Int) := by simp
  have hd : v / 2 ^ m ≤ v := Nat.div_le_self _ _
  rw [e, and_one_u64 _ (Int.natCast_nonneg _) (by omega), Nat.testBit_eq_decide_div_mod_eq]
  generalize v / 2 ^ m = u
  have : u % 2 = 0 ∨ u % 2 = 1 := by omega
  rcases this with e | e
  · have e' : (u : Int) % 2 = 0 := by omega
    rw [e, e']; decide
  · have e' : (u : Int) % 2 = 1 := by omega
    rw [e, e']; decide

set_option maxHeartbeats 1000000 in
set_option maxRecDepth 20000 in
theorem numBits_any (v n : Nat) (w : World) (hn : n ≤ 64) (hv : v < 18446744073709551616) :
    Calls Try.prog 29 #[.int .u64 v, .int .i64 n] w fun e w' => ∃ x, e = .returned x ∧ w'.ownsRow w.heap.size 5 1 x n (BB (Mth.nb v n n)) ∧ Below w.heap.size w w' := by
  obtain ⟨i0, hi, hz0, hz1, hz2⟩ := info_parts Try.info5
  go_enter Try.func29, Try.ntmps29
  go_wp2
  go_loopw [5, 6] (fun x q wr => ∃ j : Nat, j ≤ n ∧ q = .int .i64 ((n : Int) - 1 - j) ∧ wr.ownsRow w.heap.size 5 1 x j (BB (Mth.nb v n j)) ∧ Below w.heap.size w wr) (fun _ q _ => (intOf q + 1).toNat)
  case atStart => exact ⟨0, Nat.zero_le _, by go_num, World.ownsRow_nil _ _ _ _, Below.refl _ _⟩
  case round =>
    obtain ⟨j, hj, rfl, hown, hb⟩ := hrel
    by_cases hlt : j < n
    · have h0 : 0 ≤ (n : Int) - 1 - j := by omega
      go_wp2_with (at_builtin; refine wpList_append_own _ rfl _ _ 26 rfl w.heap.size 5 i0 (.int .u8 0) 1 1 Try.underlying26 hi hz0 hz1 hz2 rfl (by decide) _ j (BB (Mth.nb v n j)) rfl ?c0 ⟨wr.heap.size, 0, none⟩ 1 1 [.int .u8 (bits BinOp.and IntKind.u64 ((v : Int) / 2 ^ (n - 1 - j)) 1 % 256)] rfl rfl ?c1 ?c2 ?c3 ?c4 ?c5 ?_)
      case c0 => exact hown.alloc _
      case c1 => exact one_cell8 _ _
      case c2 => intro u hu; simp at hu; subst hu; rfl
      case c3 => unfold maxLen; omega
      case c4 => omega
      case c5 => have := hb.size; simp; omega
      intro v' w2 hown2 hgr2 _
      have hb2 := (bl_alloc hb).grown hgr2 (by have := hb.size; simp; omega) (fun q hq => (hown.lt q hq).1)
      have hown3 := push8 hown2 (bit_cell v (n - 1 - j) hv)
      rw [← Mth.nb_succ] at hown3
      clear hown hown2 hgr2 hb
      go_wp2
      go_roundw
      case rel => exact ⟨j + 1, by omega, by go_num, hown3, hb2⟩
      case measure => simp [intOf]; omega
    · have e : j = n := by omega
      subst e
      go_wp2
      go_ret
      exact ⟨_, rfl, hown, hb⟩
end Go.Proofs.Ytcdpmpcpgijebaa
