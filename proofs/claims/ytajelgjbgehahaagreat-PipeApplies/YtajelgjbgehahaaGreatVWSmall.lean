/- The small functions of package walk: bit, join, wrong. -/
import Derived.Test.YtajelgjbgehahaaGreatJ9
import Derived.Test.YtajelgjbgehahaaGreatJ1
import Derived.Laws.BitsAllLaws
namespace Go.Proofs.YtajelgjbgehahaaGreat
open Go.RowKit

/-- the value of sets -/
@[reducible] def Wk.Sets.v (s : Wk.Sets) : Value := .agg #[.int .u64 (s.must : Int), .int .u64 (s.may : Int), .int .i64 (s.least : Int), .int .i64 (s.most : Int), .bool s.there]

/-- small numbers -/
structure Wk.Sets.few (s : Wk.Sets) : Prop where
  mu : s.must < 2 ^ 6
  ma : s.may < 2 ^ 6
  le : s.least ≤ 1000
  mo : s.most ≤ 1000

theorem six_ways {h : Int} (h0 : ¬ h < 0) (h6 : h < 6) : h = 0 ∨ h = 1 ∨ h = 2 ∨ h = 3 ∨ h = 4 ∨ h = 5 := by omega

set_option maxHeartbeats 2000000 in
set_option maxRecDepth 20000 in
theorem wbit_any (h : Int) (h6 : h < 6) (w : World) : Calls Tryz.prog 133 #[.int .i64 h] w fun e w' => e = .returned (.int .u64 (bitN h)) ∧ w' = w := by
  by_cases h0 : h < 0
  · have e : bitN h = 0 := by unfold bitN; rw [if_pos h0]
    rw [e]
    go_enter Tryz.func133, Tryz.ntmps133
    go_wp2
    go_ret
    exact ⟨rfl, rfl⟩
  · rcases six_ways h0 h6 with rfl | rfl | rfl | rfl | rfl | rfl
    all_goals
      go_enter Tryz.func133, Tryz.ntmps133
      go_wp2
      go_ret
      exact ⟨rfl, rfl⟩

theorem u64and (a b : Nat) (ha : a < 2 ^ 64) (hb : b < 2 ^ 64) : bits .and .u64 (a : Int) (b : Int) = ((a &&& b : Nat) : Int) := by
  have := u64_and (a : Int) (b : Int) (by omega) (by omega) (by omega) (by omega)
  simpa using this

theorem u64or (a b : Nat) (ha : a < 2 ^ 64) (hb : b < 2 ^ 64) : bits .or .u64 (a : Int) (b : Int) = ((a ||| b : Nat) : Int) := by
  have := u64_or (a : Int) (b : Int) (by omega) (by omega) (by omega) (by omega)
  simpa using this

theorem few64 {a : Nat} (h : a < 2 ^ 6) : a < 2 ^ 64 := Nat.lt_of_lt_of_le h (by decide)

set_option maxHeartbeats 4000000 in
set_option maxRecDepth 20000 in
theorem join_any (s t : Wk.Sets) (hs : s.few) (ht : t.few) (w : World) : Calls Tryz.prog 134 #[s.v, t.v] w fun e w' => e = .returned (Wk.joinS s t).v ∧ Below w.heap.size w w' := by
  have h1 := u64and s.must t.must (few64 hs.mu) (few64 ht.mu)
  have h2 := u64or s.may t.may (few64 hs.ma) (few64 ht.ma)
  have h3 : ((min s.least t.least : Nat) : Int) = min (s.least : Int) (t.least : Int) := by omega
  have h4 : ((max s.most t.most : Nat) : Int) = max (s.most : Int) (t.most : Int) := by omega
  have HB : Hid (∀ o o' o'', Below w.heap.size w (((w.alloc o).alloc o').alloc o'')) := fun o o' o'' => bl_alloc (bl_alloc (bl_alloc (Below.refl _ _)))
  obtain ⟨a, b, c, d, e⟩ := s
  obtain ⟨a', b', c', d', e'⟩ := t
  clear hs ht
  cases e with
  | false =>
    simp only [Wk.joinS, Wk.Sets.v, Bool.false_eq_true, if_false]
    clear h1 h2 h3 h4
    go_enter Tryz.func134, Tryz.ntmps134
    go_wp2
    exact bodyPost_ret (v := .agg #[.int .u64 (a' : Int), .int .u64 (b' : Int), .int .i64 (c' : Int), .int .i64 (d' : Int), .bool e']) (by simp [results, Tryz.results134, go_sem]) rfl ⟨rfl, HB.out _ _ _⟩
  | true =>
    simp only [Wk.joinS, Wk.Sets.v, if_true] at h1 h2 h3 h4 ⊢
    rw [h3, h4]
    clear h3 h4
    go_enter Tryz.func134, Tryz.ntmps134
    go_wp2
    all_goals
      exact bodyPost_ret (v := .agg #[.int .u64 ((a &&& a' : Nat) : Int), .int .u64 ((b ||| b' : Nat) : Int), .int .i64 (min (c : Int) (c' : Int)), .int .i64 (max (d : Int) (d' : Int)), .bool true]) (by simp [results, Tryz.results134, go_sem]; omega) rfl ⟨rfl, HB.out _ _ _⟩
end Go.Proofs.YtajelgjbgehahaaGreat
