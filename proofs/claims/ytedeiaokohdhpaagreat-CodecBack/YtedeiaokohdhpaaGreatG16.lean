/- Texts of one chain, joined: QJudge. -/
import Derived.Test.YtedeiaokohdhpaaGreatG15
namespace Go.Proofs.YtedeiaokohdhpaaGreat
open Go.RowKit
theorem qor2_any {w : World} {b : Nat} {x y : Int} (o : Int) (ho : (if x ≠ 0 then x else y) = o) (h0 : w.cell? ⟨b, 0, none⟩ = some (.int .i64 x)) (h1 : w.cell? ⟨b, 1, none⟩ = some (.int .i64 y)) :
    Calls Tryz.prog 89 #[.slice (some ⟨b, 0, none⟩) 2 2] w fun e w' => e = .returned (.int .i64 o) ∧ w' = w := by
  have h3 : (x ≠ 0 ∧ o = x) ∨ (x = 0 ∧ o = y) := by rw [← ho]; split <;> omega
  have H3 := hid h3
  clear h3 ho
  go_enter Tryz.func89, Tryz.ntmps89
  go_wp2
  go_loop [8] (fun q => q = .int .i64 0 ∨ (q = .int .i64 1 ∧ x = 0) ∨ (q = .int .i64 2 ∧ x = 0 ∧ y = 0)) (fun q => 2 - (intOf q).toNat)
  case atStart => exact .inl rfl
  case round =>
    rcases hrel with rfl | ⟨rfl, rfl⟩ | ⟨rfl, rfl, rfl⟩
    · by_cases hx : x = 0
      · subst hx
        go_wp2
        go_round
        case rel => simp
        case measure => simp [intOf]
      · have hd : (x != 0) = true := by simpa using hx
        have e : o = x := by have := H3.out; omega
        subst e
        go_wp2
        go_ret
        exact ⟨rfl, rfl⟩
    · by_cases hx : y = 0
      · subst hx
        go_wp2
        go_round
        case rel => simp
        case measure => simp [intOf]
      · have hd : (y != 0) = true := by simpa using hx
        have e : o = y := by have := H3.out; omega
        subst e
        go_wp2
        go_ret
        exact ⟨rfl, rfl⟩
    · have e : o = 0 := by have := H3.out; omega
      subst e
      go_wp2
      go_ret
      exact ⟨rfl, rfl⟩
set_option maxHeartbeats 1000000 in
set_option maxRecDepth 20000 in
theorem isOfH_any (a : Option Addr) (n c : Nat) (k : Int) (w : World) : Calls Tryz.prog 87 #[.slice a n c, .int .i64 k] w fun e w' => e = .returned (.bool (decide (0 ≤ k ∧ k < (n : Int)))) ∧ w' = w := by
  by_cases h0 : 0 ≤ k
  · have d0 := decide_eq_true h0
    by_cases h1 : k < (n : Int)
    · have d1 := decide_eq_true h1
      have hr := hid (decide_eq_true (⟨h0, h1⟩ : 0 ≤ k ∧ k < (n : Int)))
      go_enter Tryz.func87, Tryz.ntmps87
      go_wp2
      go_ret
      exact ⟨by first | rfl | (rw [hr.out]; rfl), rfl⟩
    · have d1 := decide_eq_false h1
      have hr := hid (decide_eq_false (fun h => h1 h.2 : ¬ (0 ≤ k ∧ k < (n : Int))))
      go_enter Tryz.func87, Tryz.ntmps87
      go_wp2
      go_ret
      exact ⟨by first | rfl | (rw [hr.out]; rfl), rfl⟩
  · have d0 := decide_eq_false h0
    have hr := hid (decide_eq_false (fun h => h0 h.1 : ¬ (0 ≤ k ∧ k < (n : Int))))
    go_enter Tryz.func87, Tryz.ntmps87
    go_wp2
    go_ret
    exact ⟨by first | rfl | (rw [hr.out]; rfl), rfl⟩
set_option maxHeartbeats 1000000 in
set_option maxRecDepth 20000 in
theorem isOfS_any (a : Option Addr) (n c : Nat) (k : Int) (w : World) : Calls Tryz.prog 132 #[.slice a n c, .int .i64 k] w fun e w' => e = .returned (.bool (decide (0 ≤ k ∧ k < (n : Int)))) ∧ w' = w := by
  by_cases h0 : 0 ≤ k
  · have d0 := decide_eq_true h0
    by_cases h1 : k < (n : Int)
    · have d1 := decide_eq_true h1
      have hr := hid (decide_eq_true (⟨h0, h1⟩ : 0 ≤ k ∧ k < (n : Int)))
      go_enter Tryz.func132, Tryz.ntmps132
      go_wp2
      go_ret
      exact ⟨by first | rfl | (rw [hr.out]; rfl), rfl⟩
    · have d1 := decide_eq_false h1
      have hr := hid (decide_eq_false (fun h => h1 h.2 : ¬ (0 ≤ k ∧ k < (n : Int))))
      go_enter Tryz.func132, Tryz.ntmps132
      go_wp2
      go_ret
      exact ⟨by first | rfl | (rw [hr.out]; rfl), rfl⟩
  · have d0 := decide_eq_false h0
    have hr := hid (decide_eq_false (fun h => h0 h.1 : ¬ (0 ≤ k ∧ k < (n : Int))))
    go_enter Tryz.func132, Tryz.ntmps132
    go_wp2
    go_ret
    exact ⟨by first | rfl | (rw [hr.out]; rfl), rfl⟩
@[reducible] def LV (d : PlanD) (x : StateD) (n : Int) : Value := .agg #[.slice d.heads.a d.heads.n d.heads.c, .slice d.mta.a d.mta.n d.mta.c, .slice d.states.a d.states.n d.states.c, .slice d.acts.a d.acts.n d.acts.c, .slice d.tabs.a d.tabs.n d.tabs.c, .slice d.nodes.a d.nodes.n d.nodes.c, .slice d.out.a d.out.n d.out.c, .int .i64 x.head, .int .i64 x.r.h, .int .i64 x.r.f, .slice x.cases.a x.cases.n x.cases.c, .int .i64 x.els, .int .i64 n]
def wayC (many : Nat) (from_ to : Int) : Int := if to = 1000 ∨ to = 1001 then 0 else if ¬ (0 ≤ to ∧ to < (many : Int)) then 1 else if to ≤ from_ then 11 else 0
set_option maxHeartbeats 2000000 in
set_option maxRecDepth 20000 in
theorem way_any (d : PlanD) (x : StateD) (n to : Int) (w : World) : Calls Tryz.prog 92 #[LV d x n, .int .i64 to] w fun e w' => e = .returned (.int .i64 (wayC d.states.n n to)) ∧ Below w.heap.size w w' := by
  have bw : ∀ o, Below w.heap.size w (w.alloc o) := fun o => bl_alloc (Below.refl _ _)
  have HC : Hid (∀ w', Calls Tryz.prog 132 #[.slice d.states.a d.states.n d.states.c, .int .i64 to] w' fun e w'' => e = .returned (.bool (decide (0 ≤ to ∧ to < (d.states.n : Int)))) ∧ w'' = w') := fun w' => isOfS_any _ _ _ _ _
  by_cases h0 : to = 1000
  · subst h0
    have hr : Hid (wayC d.states.n n 1000 = 0) := by simp [Hid, wayC]
    clear HC
    go_enter Tryz.func92, Tryz.ntmps92
    go_wp2
    go_ret
    exact ⟨by rw [hr.out]; rfl, bw _⟩
  by_cases h1 : to = 1001
  · subst h1
    have hr : Hid (wayC d.states.n n 1001 = 0) := by simp [Hid, wayC]
    clear HC
    go_enter Tryz.func92, Tryz.ntmps92
    go_wp2
    go_ret
    exact ⟨by rw [hr.out]; rfl, bw _⟩
  have b0 : (to == 1000) = false := by simpa using h0
  have b1 : (to == 1001) = false := by simpa using h1
  by_cases h2 : 0 ≤ to ∧ to < (d.states.n : Int)
  · rw [decide_eq_true h2] at HC
    by_cases h3 : to ≤ n
    · have hr : Hid (wayC d.states.n n to = 11) := by simp only [Hid, wayC, h0, h1, or_self, if_false, h2, and_self, not_true_eq_false, h3, if_true]
      have d3 := decide_eq_true h3
      clear h0 h1 h2 h3
      go_enter Tryz.func92, Tryz.ntmps92
      go_wp2_with fail
      refine (HC.out _).mono ?_
      rintro e w1 ⟨rfl, rfl⟩
      clear HC
      go_wp2
      go_ret
      exact ⟨by rw [hr.out]; rfl, bw _⟩
    · have hr : Hid (wayC d.states.n n to = 0) := by simp only [Hid, wayC, h0, h1, or_self, if_false, h2, and_self, not_true_eq_false, h3]
      have d3 := decide_eq_false h3
      clear h0 h1 h2 h3
      go_enter Tryz.func92, Tryz.ntmps92
      go_wp2_with fail
      refine (HC.out _).mono ?_
      rintro e w1 ⟨rfl, rfl⟩
      clear HC
      go_wp2
      go_ret
      exact ⟨by rw [hr.out]; rfl, bw _⟩
  · have hr : Hid (wayC d.states.n n to = 1) := by simp only [Hid, wayC, h0, h1, or_self, if_false, h2, not_false_eq_true, if_true]
    rw [decide_eq_false h2] at HC
    clear h0 h1 h2
    go_enter Tryz.func92, Tryz.ntmps92
    go_wp2_with fail
    refine (HC.out _).mono ?_
    rintro e w1 ⟨rfl, rfl⟩
    clear HC
    go_wp2
    go_ret
    exact ⟨by rw [hr.out]; rfl, bw _⟩
end Go.Proofs.YtedeiaokohdhpaaGreat
