/- Judges of a plan: widths, numbers, fields, expressions. -/
import Derived.Test.YtajelgjbgehahaaGreatVQPure
import Derived.Test.YtajelgjbgehahaaGreatVQGreat
namespace Go.Proofs.YtajelgjbgehahaaGreat
open Go.RowKit

set_option maxHeartbeats 1000000 in
set_option maxRecDepth 20000 in
theorem isOfT_any (a : Option Addr) (n c : Nat) (k : Int) (w : World) : Calls Tryz.prog 150 #[.slice a n c, .int .i64 k] w fun e w' => e = .returned (.bool (decide (0 ≤ k ∧ k < (n : Int)))) ∧ w' = w := by
  by_cases h0 : 0 ≤ k
  · have d0 := decide_eq_true h0
    by_cases h1 : k < (n : Int)
    · have d1 := decide_eq_true h1
      have hr := hid (decide_eq_true (⟨h0, h1⟩ : 0 ≤ k ∧ k < (n : Int)))
      go_enter Tryz.func150, Tryz.ntmps150
      go_wp2
      go_ret
      exact ⟨by first | rfl | (rw [hr.out]; rfl), rfl⟩
    · have d1 := decide_eq_false h1
      have hr := hid (decide_eq_false (fun h => h1 h.2 : ¬ (0 ≤ k ∧ k < (n : Int))))
      go_enter Tryz.func150, Tryz.ntmps150
      go_wp2
      go_ret
      exact ⟨by first | rfl | (rw [hr.out]; rfl), rfl⟩
  · have d0 := decide_eq_false h0
    have hr := hid (decide_eq_false (fun h => h0 h.1 : ¬ (0 ≤ k ∧ k < (n : Int))))
    go_enter Tryz.func150, Tryz.ntmps150
    go_wp2
    go_ret
    exact ⟨by first | rfl | (rw [hr.out]; rfl), rfl⟩

set_option maxHeartbeats 1000000 in
set_option maxRecDepth 20000 in
theorem isOfA_any (a : Option Addr) (n c : Nat) (k : Int) (w : World) : Calls Tryz.prog 151 #[.slice a n c, .int .i64 k] w fun e w' => e = .returned (.bool (decide (0 ≤ k ∧ k < (n : Int)))) ∧ w' = w := by
  by_cases h0 : 0 ≤ k
  · have d0 := decide_eq_true h0
    by_cases h1 : k < (n : Int)
    · have d1 := decide_eq_true h1
      have hr := hid (decide_eq_true (⟨h0, h1⟩ : 0 ≤ k ∧ k < (n : Int)))
      go_enter Tryz.func151, Tryz.ntmps151
      go_wp2
      go_ret
      exact ⟨by first | rfl | (rw [hr.out]; rfl), rfl⟩
    · have d1 := decide_eq_false h1
      have hr := hid (decide_eq_false (fun h => h1 h.2 : ¬ (0 ≤ k ∧ k < (n : Int))))
      go_enter Tryz.func151, Tryz.ntmps151
      go_wp2
      go_ret
      exact ⟨by first | rfl | (rw [hr.out]; rfl), rfl⟩
  · have d0 := decide_eq_false h0
    have hr := hid (decide_eq_false (fun h => h0 h.1 : ¬ (0 ≤ k ∧ k < (n : Int))))
    go_enter Tryz.func151, Tryz.ntmps151
    go_wp2
    go_ret
    exact ⟨by first | rfl | (rw [hr.out]; rfl), rfl⟩

set_option maxHeartbeats 1000000 in
set_option maxRecDepth 20000 in
theorem numH_any (a : Option Addr) (n c : Nat) (k : Int) (w : World) : Calls Tryz.prog 143 #[.slice a n c, .int .i64 k] w fun e w' => e = .returned (.int .i64 (numC n k)) ∧ w' = w := by
  have HC : Hid (∀ w', Calls Tryz.prog 121 #[.slice a n c, .int .i64 k] w' fun e w'' => e = .returned (.bool (decide (0 ≤ k ∧ k < (n : Int)))) ∧ w'' = w') := fun w' => isOfH_any a n c k w'
  by_cases h : 0 ≤ k ∧ k < (n : Int)
  · have hr : Hid (numC n k = 0) := by simp only [Hid, numC, if_pos h]
    rw [decide_eq_true h] at HC
    clear h
    go_enter Tryz.func143, Tryz.ntmps143
    go_wp2_with fail
    refine (HC.out _).mono ?_
    rintro e w1 ⟨rfl, rfl⟩
    clear HC
    go_wp2
    go_ret
    exact ⟨by rw [hr.out]; rfl, rfl⟩
  · have hr : Hid (numC n k = 1) := by simp only [Hid, numC, if_neg h]
    rw [decide_eq_false h] at HC
    clear h
    go_enter Tryz.func143, Tryz.ntmps143
    go_wp2_with fail
    refine (HC.out _).mono ?_
    rintro e w1 ⟨rfl, rfl⟩
    clear HC
    go_wp2
    go_ret
    exact ⟨by rw [hr.out]; rfl, rfl⟩

set_option maxHeartbeats 1000000 in
set_option maxRecDepth 20000 in
theorem numT_any (a : Option Addr) (n c : Nat) (k : Int) (w : World) : Calls Tryz.prog 144 #[.slice a n c, .int .i64 k] w fun e w' => e = .returned (.int .i64 (numC n k)) ∧ w' = w := by
  have HC : Hid (∀ w', Calls Tryz.prog 150 #[.slice a n c, .int .i64 k] w' fun e w'' => e = .returned (.bool (decide (0 ≤ k ∧ k < (n : Int)))) ∧ w'' = w') := fun w' => isOfT_any a n c k w'
  by_cases h : 0 ≤ k ∧ k < (n : Int)
  · have hr : Hid (numC n k = 0) := by simp only [Hid, numC, if_pos h]
    rw [decide_eq_true h] at HC
    clear h
    go_enter Tryz.func144, Tryz.ntmps144
    go_wp2_with fail
    refine (HC.out _).mono ?_
    rintro e w1 ⟨rfl, rfl⟩
    clear HC
    go_wp2
    go_ret
    exact ⟨by rw [hr.out]; rfl, rfl⟩
  · have hr : Hid (numC n k = 1) := by simp only [Hid, numC, if_neg h]
    rw [decide_eq_false h] at HC
    clear h
    go_enter Tryz.func144, Tryz.ntmps144
    go_wp2_with fail
    refine (HC.out _).mono ?_
    rintro e w1 ⟨rfl, rfl⟩
    clear HC
    go_wp2
    go_ret
    exact ⟨by rw [hr.out]; rfl, rfl⟩

set_option maxHeartbeats 1000000 in
set_option maxRecDepth 20000 in
theorem wid_any (x : Int) (w : World) : Calls Tryz.prog 120 #[.int .i64 x] w fun e w' => e = .returned (.int .i64 (widC x)) ∧ w' = w := by
  by_cases h : x < 1
  · have hr : Hid (widC x = 6) := by simp only [Hid, widC, if_pos (show x < 1 ∨ 48 < x from .inl h)]
    have d1 := decide_eq_true h
    go_enter Tryz.func120, Tryz.ntmps120
    go_wp2
    go_ret
    exact ⟨by rw [hr.out]; rfl, rfl⟩
  have d1 := decide_eq_false h
  by_cases h2 : 48 < x
  · have hr : Hid (widC x = 6) := by simp only [Hid, widC, if_pos (show x < 1 ∨ 48 < x from .inr h2)]
    have d2 := decide_eq_true h2
    go_enter Tryz.func120, Tryz.ntmps120
    go_wp2
    go_ret
    exact ⟨by rw [hr.out]; rfl, rfl⟩
  · have hr : Hid (widC x = 0) := by simp only [Hid, widC, if_neg (show ¬ (x < 1 ∨ 48 < x) by omega)]
    have d2 := decide_eq_false h2
    go_enter Tryz.func120, Tryz.ntmps120
    go_wp2
    go_ret
    exact ⟨by rw [hr.out]; rfl, rfl⟩

set_option maxHeartbeats 1000000 in
set_option maxRecDepth 20000 in
theorem field_any (d : PlanD) (r : RefD) (aa : Option Addr) (an ac : Nat) (zs : List Int) (w : World) (hl : d.lie w) (hz : Has .i64 w aa an zs) :
    Calls Tryz.prog 122 #[d.v, .agg #[.int .i64 r.h, .int .i64 r.f], .slice aa an ac] w fun e w' => e = .returned (.bool (d.p.width r zs != 0)) ∧ Below w.heap.size w w' := by
  have bw2 : ∀ o o', Below w.heap.size w ((w.alloc o).alloc o') := fun o o' => bl_alloc (bl_alloc (Below.refl _ _))
  have HC : Hid (∀ o o', Calls Tryz.prog 37 #[d.v, .agg #[.int .i64 r.h, .int .i64 r.f], .slice aa an ac] ((w.alloc o).alloc o') fun e w' => e = .returned (.int .i64 (d.p.width r zs)) ∧ Below ((w.alloc o).alloc o').heap.size ((w.alloc o).alloc o') w') := fun o o' => by
    rw [← width_p hl]
    exact width_any d r.h r.f aa an ac zs _ (hl.step (bw2 o o')) (hz.step (bw2 o o'))
  have HB := hid bw2
  clear hl hz bw2
  go_enter Tryz.func122, Tryz.ntmps122
  go_wp2_with fail
  refine (HC.out _ _).mono ?_
  rintro e w1 ⟨rfl, hb⟩
  have HE := hid (bl_step (HB.out _ _) hb)
  clear HC HB hb
  go_wp2
  go_ret
  exact ⟨rfl, HE.out⟩

set_option maxHeartbeats 1000000 in
set_option maxRecDepth 20000 in
theorem target_any (d : PlanD) (r : RefD) (w : World) (hl : d.lie w) :
    Calls Tryz.prog 141 #[d.v, .agg #[.int .i64 r.h, .int .i64 r.f]] w fun e w' => e = .returned (.int .i64 (targetC d.p r)) ∧ Below w.heap.size w w' := by
  have bw2 : ∀ o o', Below w.heap.size w ((w.alloc o).alloc o') := fun o o' => bl_alloc (bl_alloc (Below.refl _ _))
  have HC : Hid (∀ o o', Calls Tryz.prog 122 #[d.v, .agg #[.int .i64 r.h, .int .i64 r.f], .slice none 0 0] ((w.alloc o).alloc o') fun e w' => e = .returned (.bool (d.p.width r [] != 0)) ∧ Below ((w.alloc o).alloc o').heap.size ((w.alloc o).alloc o') w') := fun o o' => field_any d r none 0 0 [] _ (hl.step (bw2 o o')) (has_nil _ _)
  clear hl
  by_cases h3 : r.h = -3
  · have hr : Hid (targetC d.p r = 1) := by simp only [Hid, targetC, if_pos (show r.h = -3 ∨ d.p.width r [] = 0 from .inl h3)]
    have b3 : (r.h == -3) = true := by simpa using h3
    clear HC h3
    go_enter Tryz.func141, Tryz.ntmps141
    go_wp2
    go_ret
    exact ⟨by rw [hr.out]; rfl, bw2 _ _⟩
  have b3 : (r.h == -3) = false := by simpa using h3
  by_cases h0 : d.p.width r [] = 0
  · have hr : Hid (targetC d.p r = 1) := by simp only [Hid, targetC, if_pos (show r.h = -3 ∨ d.p.width r [] = 0 from .inr h0)]
    rw [h0] at HC
    have HB := hid bw2
    clear h0 h3 bw2
    go_enter Tryz.func141, Tryz.ntmps141
    go_wp2_with fail
    refine (HC.out _ _).mono ?_
    rintro e w1 ⟨rfl, hb⟩
    have HE := hid (bl_step (HB.out _ _) hb)
    clear HC HB hb
    go_wp2
    go_ret
    exact ⟨by rw [hr.out]; rfl, HE.out⟩
  · have hr : Hid (targetC d.p r = 0) := by simp only [Hid, targetC, if_neg (show ¬ (r.h = -3 ∨ d.p.width r [] = 0) from fun h => h.elim h3 h0)]
    have hx : (d.p.width r [] != 0) = true := by simpa using h0
    rw [hx] at HC
    have HB := hid bw2
    clear h0 h3 bw2 hx
    go_enter Tryz.func141, Tryz.ntmps141
    go_wp2_with fail
    refine (HC.out _ _).mono ?_
    rintro e w1 ⟨rfl, hb⟩
    have HE := hid (bl_step (HB.out _ _) hb)
    clear HC HB hb
    go_wp2
    go_ret
    exact ⟨by rw [hr.out]; rfl, HE.out⟩
end Go.Proofs.YtajelgjbgehahaaGreat
