/- A part of a plan: the first thing that is wrong with it. -/
import Derived.Test.YtajelgjbgehahaaGreatJ11
namespace Go.Proofs.YtajelgjbgehahaaGreat
open Go.RowKit

/-- what (C, A) is told of a part: its number, how many, how few and how many there may be, the codes -/
def FaultIs (num : Int) (many : Nat) (least most : Int) (c : Nat → Int) (C A : Int) : Prop :=
  (((many : Int) < least ∨ most < (many : Int)) ∧ C = 2 ∧ A = -num) ∨
  (¬ ((many : Int) < least ∨ most < (many : Int)) ∧ ((∃ n, n < many ∧ c n ≠ 0 ∧ (∀ j, j < n → c j = 0) ∧ C = c n ∧ A = 1000 * num + n) ∨ ((∀ j, j < many → c j = 0) ∧ C = 0 ∧ A = 0)))

/-- what is told, and nothing old has turned -/
def PartDone (num : Int) (many : Nat) (least most : Int) (c : Nat → Int) (w : World) (e : Ending) (w' : World) : Prop :=
  ∃ C A, FaultIs num many least most c C A ∧ e = .returned (.agg #[.int .i64 C, .int .i64 A]) ∧ Below w.heap.size w w'

/-- the box of a part, and the fault behind it -/
abbrev PB (many : Nat) (least most : Int) (fv : Value) : Obj := .cells #[.int .i64 many, .int .i64 least, .int .i64 most, fv] 211
abbrev FZ : Obj := .cells #[.int .i64 0, .int .i64 0] 28

theorem part_cells {w wr : World} {many : Nat} {least most : Int} {fv : Value} (hb : Below (w.heap.size + 2) ((w.alloc (PB many least most fv)).alloc FZ) wr) :
    wr.cell? ⟨w.heap.size, 3, none⟩ = some fv ∧ wr.cell? ⟨w.heap.size + 1, 0, none⟩ = some (.int .i64 0) ∧ wr.cell? ⟨w.heap.size + 1, 1, none⟩ = some (.int .i64 0) ∧ wr.frozen? ⟨w.heap.size + 1, 0, none⟩ = false ∧ wr.frozen? ⟨w.heap.size + 1, 1, none⟩ = false ∧ w.heap.size + 1 < wr.heap.size :=
  ⟨(hb.cell (p := ⟨w.heap.size, 3, none⟩) (by simp)).trans (by simp), (hb.cell (p := ⟨w.heap.size + 1, 0, none⟩) (by simp)).trans (by simp), (hb.cell (p := ⟨w.heap.size + 1, 1, none⟩) (by simp)).trans (by simp),
   (hb.frozen (p := ⟨w.heap.size + 1, 0, none⟩) (by simp)).trans (by simp), (hb.frozen (p := ⟨w.heap.size + 1, 1, none⟩) (by simp)).trans (by simp), by have := hb.size; simp at this; omega⟩

theorem end_part {w wr : World} {many : Nat} {least most : Int} {fv : Value} (hb : Below (w.heap.size + 2) ((w.alloc (PB many least most fv)).alloc FZ) wr) (x y : Value) : Below w.heap.size w ((wr.setCell ⟨w.heap.size + 1, 0, none⟩ x).setCell ⟨w.heap.size + 1, 1, none⟩ y) :=
  (((bl_alloc (bl_alloc (Below.refl w.heap.size w))).trans (hb.mono (by omega))).setCell (by simp) _).setCell (by simp) _

/-- the function of a part, asked for the one of a number -/
def Tells (N : Nat) (dv : Value) (many : Nat) (c : Nat → Int) (w : World) : Prop :=
  ∀ w', Below w.heap.size w w' → ∀ n : Nat, n < many → Calls Tryz.prog N #[dv, .int .i64 n] w' fun e w'' => e = .returned (.int .i64 (c n)) ∧ Below w'.heap.size w' w''

set_option maxHeartbeats 2000000 in
set_option maxRecDepth 20000 in
theorem part_any (N : Nat) (dv : Value) (num : Int) (many : Nat) (least most : Int) (c : Nat → Int) (w : World) (hN : N = 93 ∨ N = 94 ∨ N = 95 ∨ N = 96 ∨ N = 97 ∨ N = 98 ∨ N = 99) (hnum : 1 ≤ num ∧ num ≤ 7) (hmost : most ≤ 100) (hC : Tells N dv many c w) :
    Calls Tryz.prog 100 #[.agg #[.int .i64 many, .int .i64 least, .int .i64 most, .func (.func N) #[dv] #[]], .int .i64 num] w (PartDone num many least most c w) := by
  by_cases h1 : (many : Int) < least
  · have HE : Hid (∀ w', Below w.heap.size w w' → PartDone num many least most c w (.returned (.agg #[.int .i64 2, .int .i64 (-num)])) w') := fun w' hb => ⟨2, -num, .inl ⟨.inl h1, rfl, rfl⟩, rfl, hb⟩
    have d1 := decide_eq_true h1
    clear hC hN
    go_enter Tryz.func100, Tryz.ntmps100
    go_wp2
    exact bodyPost_ret (v := .agg #[.int .i64 2, .int .i64 (-num)]) (by simp [results, Tryz.results100, go_sem]) rfl (HE.out _ (bl_alloc (bl_alloc (Below.refl _ _))))
  have d1 := decide_eq_false h1
  by_cases h2 : most < (many : Int)
  · have HE : Hid (∀ w', Below w.heap.size w w' → PartDone num many least most c w (.returned (.agg #[.int .i64 2, .int .i64 (-num)])) w') := fun w' hb => ⟨2, -num, .inl ⟨.inr h2, rfl, rfl⟩, rfl, hb⟩
    have d2 := decide_eq_true h2
    clear hC hN
    go_enter Tryz.func100, Tryz.ntmps100
    go_wp2
    exact bodyPost_ret (v := .agg #[.int .i64 2, .int .i64 (-num)]) (by simp [results, Tryz.results100, go_sem]) rfl (HE.out _ (bl_alloc (bl_alloc (Below.refl _ _))))
  have d2 := decide_eq_false h2
  have hno : ¬ ((many : Int) < least ∨ most < (many : Int)) := by omega
  have hm : many ≤ 100 := by omega
  have HNO := hid hno
  have HC := hid hC
  have HN := hid hN
  clear hC hN hno h1 h2
  go_enter Tryz.func100, Tryz.ntmps100
  go_wp2
  go_loopw [24, 5, 6] (fun q _ _ wr => ∃ k : Nat, k ≤ many ∧ q = .int .i64 k ∧ Hid (∀ j, j < k → c j = 0) ∧ Hid (Below (w.heap.size + 2) ((w.alloc (PB many least most (.func (.func N) #[dv] #[]))).alloc FZ) wr)) (fun q _ _ _ => many - (intOf q).toNat)
  case atStart => exact ⟨0, Nat.zero_le _, rfl, fun j hj => absurd hj (by omega), Below.refl _ _⟩
  case round =>
    obtain ⟨k, hk, rfl, hz, hb⟩ := hrel
    obtain ⟨q3, f0, f1, z0, z1, sz⟩ := part_cells hb.out
    by_cases hlt : k < many
    · have hki : (k : Int) < (many : Int) := by omega
      have hC := hid (HC.out wr ((bl_alloc (bl_alloc (Below.refl w.heap.size w))).trans (hb.out.mono (by omega))) k hlt)
      clear q3 f0 f1 z0 z1 sz
      have hB2 : Hid (∀ w1, Below wr.heap.size wr w1 → Below (w.heap.size + 2) ((w.alloc (PB many least most (.func (.func N) #[dv] #[]))).alloc FZ) w1) := fun w1 h1 => hb.out.trans (h1.mono (by have := hb.out.size; simpa using this))
      by_cases hck : c k = 0
      · have HZ : Hid (∀ j, j < k + 1 → c j = 0) := fun j hj => by
          by_cases ej : j = k
          · subst ej; exact hck
          · exact hz.out j (by omega)
        rw [hck] at hC
        clear hck
        rcases HN.out with rfl | rfl | rfl | rfl | rfl | rfl | rfl
        all_goals
          have q3 := (part_cells hb.out).1
          go_wp2_with fail
          refine hC.out.mono ?_
          rintro e w1 ⟨rfl, hb1⟩
          have HB1 := hid (hB2.out w1 hb1)
          clear hb1 q3
          go_wp2
          go_roundw
          case rel => exact ⟨k + 1, by omega, by go_num, HZ, HB1⟩
          case measure => simp [intOf]; omega
      · have HE : Hid (∀ w', Below w.heap.size w w' → PartDone num many least most c w (.returned (.agg #[.int .i64 (c k), .int .i64 (1000 * num + k)])) w') := fun w' hb => ⟨c k, 1000 * num + k, .inr ⟨HNO.out, .inl ⟨k, hlt, hck, hz.out, rfl, rfl⟩⟩, rfl, hb⟩
        generalize c k = x at *
        have hx : (x != 0) = true := by simpa using hck
        rcases HN.out with rfl | rfl | rfl | rfl | rfl | rfl | rfl
        all_goals
          have q3 := (part_cells hb.out).1
          go_wp2_with fail
          refine hC.out.mono ?_
          rintro e w1 ⟨rfl, hb1⟩
          have HB1 := hid (hB2.out w1 hb1)
          obtain ⟨_, f0, f1, z0, z1, sz⟩ := part_cells HB1.out
          have HB3 := hid (end_part HB1.out (.int .i64 x) (.int .i64 (1000 * num + k)))
          clear hb1 q3 HC hB2 hz hb hC
          go_wp2
          exact bodyPost_ret (v := .agg #[.int .i64 x, .int .i64 (1000 * num + k)]) (by simp [results, Tryz.results100, go_sem, *]) rfl (HE.out _ HB3.out)
    · have ek : k = many := by omega
      subst ek
      have HE : Hid (∀ w', Below w.heap.size w w' → PartDone num k least most c w (.returned (.agg #[.int .i64 0, .int .i64 0])) w') := fun w' hb => ⟨0, 0, .inr ⟨HNO.out, .inr ⟨hz.out, rfl, rfl⟩⟩, rfl, hb⟩
      have HB3 := hid (end_part hb.out (.int .i64 0) (.int .i64 0))
      clear HC hb hz q3
      go_wp2
      exact bodyPost_ret (v := .agg #[.int .i64 0, .int .i64 0]) (by simp [results, Tryz.results100, go_sem, *]) rfl (HE.out _ HB3.out)
end Go.Proofs.YtajelgjbgehahaaGreat
