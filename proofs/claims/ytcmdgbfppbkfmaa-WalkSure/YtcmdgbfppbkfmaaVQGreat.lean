/- GreatPlan comes to an end, whatever it tells. -/
import Derived.Test.YtcmdgbfppbkfmaaJ11
namespace Go.Proofs.Ytcmdgbfppbkfmaa
open Go.RowKit

theorem row_at {α : Type} {k : Nat} {P : α → World → Nat → Nat → Prop} {w : World} {s : QSl} {S : List α} (h : QRow k P w s S) {i : Nat} (hi : i < s.n) : ∃ g off x, s.a = some ⟨g, off, none⟩ ∧ S[i]? = some x ∧ P x w g (off + i * k) := by
  have hi' : i < S.length := by rw [h.1]; exact hi
  obtain ⟨g, off, e, hp⟩ := h.2 i _ (List.getElem?_eq_getElem hi')
  exact ⟨g, off, _, e, List.getElem?_eq_getElem hi', hp⟩

/-- the box that a plan by value lies in -/
@[reducible] def PlanD.box (d : PlanD) : Obj := .cells #[.slice d.heads.a d.heads.n d.heads.c, .slice d.mta.a d.mta.n d.mta.c, .slice d.states.a d.states.n d.states.c, .slice d.acts.a d.acts.n d.acts.c, .slice d.tabs.a d.tabs.n d.tabs.c, .slice d.nodes.a d.nodes.n d.nodes.c, .slice d.out.a d.out.n d.out.c] 29

/-- it tells something, and nothing old has turned -/
def GDone (w : World) (e : Ending) (w' : World) : Prop := ∃ b : Bool, e = .returned (.bool b) ∧ Below w.heap.size w w'

set_option maxHeartbeats 4000000 in
set_option maxRecDepth 20000 in
theorem great_any (d : PlanD) (w : World) (hl : d.lie w) : Calls Try.prog 5 #[d.v] w (GDone w) := by
  obtain ⟨W1, hW1⟩ : ∃ W1, W1 = w.alloc d.box := ⟨_, rfl⟩
  have B : Hid (Below w.heap.size w W1) := by rw [hW1]; exact bl_alloc (Below.refl _ _)
  have HL := hid (hl.step B.out)
  obtain ⟨b0, hb0⟩ : ∃ b0, b0 = w.heap.size := ⟨_, rfl⟩
  have c0 : W1.cell? ⟨b0, 0, none⟩ = some (.slice d.heads.a d.heads.n d.heads.c) := by rw [hW1, hb0]; simp
  have c2 : W1.cell? ⟨b0, 2, none⟩ = some (.slice d.states.a d.states.n d.states.c) := by rw [hW1, hb0]; simp
  have c3 : W1.cell? ⟨b0, 3, none⟩ = some (.slice d.acts.a d.acts.n d.acts.c) := by rw [hW1, hb0]; simp
  have c4 : W1.cell? ⟨b0, 4, none⟩ = some (.slice d.tabs.a d.tabs.n d.tabs.c) := by rw [hW1, hb0]; simp
  have c5 : W1.cell? ⟨b0, 5, none⟩ = some (.slice d.nodes.a d.nodes.n d.nodes.c) := by rw [hW1, hb0]; simp
  have HT : Hid (∀ b : Bool, GDone w (.returned (.bool b)) W1) := fun b => ⟨b, rfl, B.out⟩
  have HT0 : Hid (∀ b : Bool, GDone w (.returned (.bool b)) (w.alloc d.box)) := by rw [← hW1]; exact HT
  have HW := hid hW1
  have HB0 := hid hb0
  clear hl hW1 hb0 B
  by_cases hbig : (50 : Int) < (d.heads.n : Int) ∨ (500 : Int) < (d.mta.n : Int) ∨ (50 : Int) < (d.states.n : Int) ∨ (50 : Int) < (d.acts.n : Int) ∨ (50 : Int) < (d.tabs.n : Int) ∨ (50 : Int) < (d.nodes.n : Int) ∨ (500 : Int) < (d.out.n : Int)
  · clear c0 c2 c3 c4 c5 HL
    go_enter Try.func5, Try.ntmps5
    go_wp2
    all_goals (first | (exfalso; omega) | (go_ret; exact HT0.out true))
  obtain ⟨n0, n1, n2, n3, n4, n5, n6⟩ : (d.heads.n : Int) ≤ 50 ∧ (d.mta.n : Int) ≤ 500 ∧ (d.states.n : Int) ≤ 50 ∧ (d.acts.n : Int) ≤ 50 ∧ (d.tabs.n : Int) ≤ 50 ∧ (d.nodes.n : Int) ≤ 50 ∧ (d.out.n : Int) ≤ 500 := by omega
  clear hbig
  have e0 : decide ((50 : Int) < (d.heads.n : Int)) = false := decide_eq_false (by omega)
  have e1 : decide ((500 : Int) < (d.mta.n : Int)) = false := decide_eq_false (by omega)
  have e2 : decide ((50 : Int) < (d.states.n : Int)) = false := decide_eq_false (by omega)
  have e3 : decide ((50 : Int) < (d.acts.n : Int)) = false := decide_eq_false (by omega)
  have e4 : decide ((50 : Int) < (d.tabs.n : Int)) = false := decide_eq_false (by omega)
  have e5 : decide ((50 : Int) < (d.nodes.n : Int)) = false := decide_eq_false (by omega)
  have e6 : decide ((500 : Int) < (d.out.n : Int)) = false := decide_eq_false (by omega)
  go_enter Try.func5, Try.ntmps5
  go_wp2
  rw [← HW.out]
  rw [← HB0.out]
  clear HW HB0 n1 n6 HT0 e0 e1 e2 e3 e4 e5 e6
  go_loopw [3] (fun q wr => ∃ k : Nat, k ≤ d.heads.n ∧ q = .int .i64 k ∧ Hid (W1 = wr)) (fun q _ => d.heads.n - (intOf q).toNat)
  case atStart => exact ⟨0, Nat.zero_le _, rfl, rfl⟩
  case round =>
    obtain ⟨k3, hk, rfl, hW⟩ := hrel
    obtain rfl := hW.out
    clear hW
    by_cases hlt : k3 < d.heads.n
    · have hki : (k3 : Int) < (d.heads.n : Int) := by omega
      obtain ⟨g, off, x, ea, _, hx⟩ := row_at HL.out.hs hlt
      have q0 := Eq.mp (by rw [Nat.mul_one]) hx.1.1
      clear hx
      by_cases g0 : (500 : Int) < (x.w.n : Int)
      · have f0 := decide_eq_true g0
        go_wp2
        go_ret
        exact HT.out true
      have f0 := decide_eq_false g0
      go_wp2
      go_roundw
      case rel => exact ⟨k3 + 1, by omega, by go_num, trivial⟩
      case measure => simp [intOf]; omega
    · have hki : ¬ (k3 : Int) < (d.heads.n : Int) := by omega
      go_wp2
      go_loopw [4] (fun q wr => ∃ k : Nat, k ≤ d.states.n ∧ q = .int .i64 k ∧ Hid (W1 = wr)) (fun q _ => d.states.n - (intOf q).toNat)
      case atStart => exact ⟨0, Nat.zero_le _, rfl, rfl⟩
      case round =>
        obtain ⟨k4, hk, rfl, hW⟩ := hrel
        obtain rfl := hW.out
        clear hW
        by_cases hlt : k4 < d.states.n
        · have hki : (k4 : Int) < (d.states.n : Int) := by omega
          obtain ⟨g, off, x, ea, _, hx⟩ := row_at HL.out.ss hlt
          have q0 := hx.2.2.2.1.1
          clear hx
          by_cases g0 : (500 : Int) < (x.cases.n : Int)
          · have f0 := decide_eq_true g0
            go_wp2
            go_ret
            exact HT.out true
          have f0 := decide_eq_false g0
          go_wp2
          go_roundw
          case rel => exact ⟨k4 + 1, by omega, by go_num, trivial⟩
          case measure => simp [intOf]; omega
        · have hki : ¬ (k4 : Int) < (d.states.n : Int) := by omega
          go_wp2
          go_loopw [5] (fun q wr => ∃ k : Nat, k ≤ d.acts.n ∧ q = .int .i64 k ∧ Hid (W1 = wr)) (fun q _ => d.acts.n - (intOf q).toNat)
          case atStart => exact ⟨0, Nat.zero_le _, rfl, rfl⟩
          case round =>
            obtain ⟨k5, hk, rfl, hW⟩ := hrel
            obtain rfl := hW.out
            clear hW
            by_cases hlt : k5 < d.acts.n
            · have hki : (k5 : Int) < (d.acts.n : Int) := by omega
              obtain ⟨g, off, x, ea, _, hx⟩ := row_at HL.out.al hlt
              have q0 := hx.1.1
              have q1 := hx.2.1.1
              have HX := hid hx.2.2.2
              clear hx
              by_cases g0 : (500 : Int) < (x.w.n : Int)
              · have f0 := decide_eq_true g0
                go_wp2
                go_ret
                exact HT.out true
              have f0 := decide_eq_false g0
              by_cases g1 : (50 : Int) < (x.ops.n : Int)
              · have f1 := decide_eq_true g1
                go_wp2
                go_ret
                exact HT.out true
              have f1 := decide_eq_false g1
              go_wp2
              go_loopw [6] (fun q wr => ∃ k : Nat, k ≤ x.ops.n ∧ q = .int .i64 k ∧ Hid (W1 = wr)) (fun q _ => x.ops.n - (intOf q).toNat)
              case atStart => exact ⟨0, Nat.zero_le _, rfl, rfl⟩
              case round =>
                obtain ⟨k6, hk, rfl, hW⟩ := hrel
                obtain rfl := hW.out
                clear hW
                by_cases hlt : k6 < x.ops.n
                · have hki : (k6 : Int) < (x.ops.n : Int) := by omega
                  obtain ⟨g2, off2, x2, ea2, _, hx2⟩ := row_at HX.out hlt
                  have q2 := hx2.2.2.2.2.1.1
                  clear hx2
                  by_cases g0 : (500 : Int) < (x2.e.n : Int)
                  · have f0 := decide_eq_true g0
                    go_wp2
                    go_ret
                    exact HT.out true
                  have f0 := decide_eq_false g0
                  go_wp2
                  go_roundw
                  case rel => exact ⟨k6 + 1, by omega, by go_num, trivial⟩
                  case measure => simp [intOf]; omega
                · have hki : ¬ (k6 : Int) < (x.ops.n : Int) := by omega
                  go_wp2
                  go_roundw
                  case rel => exact ⟨k5 + 1, by omega, by go_num, trivial⟩
                  case measure => simp [intOf]; omega
            · have hki : ¬ (k5 : Int) < (d.acts.n : Int) := by omega
              go_wp2
              go_loopw [7] (fun q wr => ∃ k : Nat, k ≤ d.tabs.n ∧ q = .int .i64 k ∧ Hid (W1 = wr)) (fun q _ => d.tabs.n - (intOf q).toNat)
              case atStart => exact ⟨0, Nat.zero_le _, rfl, rfl⟩
              case round =>
                obtain ⟨k7, hk, rfl, hW⟩ := hrel
                obtain rfl := hW.out
                clear hW
                by_cases hlt : k7 < d.tabs.n
                · have hki : (k7 : Int) < (d.tabs.n : Int) := by omega
                  obtain ⟨g, off, x, ea, _, hx⟩ := row_at HL.out.ts hlt
                  have q0 := hx.2.1.1
                  have q1 := hx.2.2.1.1
                  have q2 := hx.2.2.2.2.2.1.1
                  clear hx
                  by_cases g0 : (500 : Int) < (x.keys.n : Int)
                  · have f0 := decide_eq_true g0
                    go_wp2
                    go_ret
                    exact HT.out true
                  have f0 := decide_eq_false g0
                  by_cases g1 : (500 : Int) < (x.acts.n : Int)
                  · have f1 := decide_eq_true g1
                    go_wp2
                    go_ret
                    exact HT.out true
                  have f1 := decide_eq_false g1
                  by_cases g2 : (500 : Int) < (x.args.n : Int)
                  · have f2 := decide_eq_true g2
                    go_wp2
                    go_ret
                    exact HT.out true
                  have f2 := decide_eq_false g2
                  go_wp2
                  go_roundw
                  case rel => exact ⟨k7 + 1, by omega, by go_num, trivial⟩
                  case measure => simp [intOf]; omega
                · have hki : ¬ (k7 : Int) < (d.tabs.n : Int) := by omega
                  go_wp2
                  go_loopw [8] (fun q wr => ∃ k : Nat, k ≤ d.nodes.n ∧ q = .int .i64 k ∧ Hid (W1 = wr)) (fun q _ => d.nodes.n - (intOf q).toNat)
                  case atStart => exact ⟨0, Nat.zero_le _, rfl, rfl⟩
                  case round =>
                    obtain ⟨k8, hk, rfl, hW⟩ := hrel
                    obtain rfl := hW.out
                    clear hW
                    by_cases hlt : k8 < d.nodes.n
                    · have hki : (k8 : Int) < (d.nodes.n : Int) := by omega
                      obtain ⟨g, off, x, ea, _, hx⟩ := row_at HL.out.ns hlt
                      have q0 := hx.2.2.1.1
                      clear hx
                      by_cases g0 : (500 : Int) < (x.e.n : Int)
                      · have f0 := decide_eq_true g0
                        go_wp2
                        go_ret
                        exact HT.out true
                      have f0 := decide_eq_false g0
                      go_wp2
                      go_roundw
                      case rel => exact ⟨k8 + 1, by omega, by go_num, trivial⟩
                      case measure => simp [intOf]; omega
                    · have hki : ¬ (k8 : Int) < (d.nodes.n : Int) := by omega
                      go_wp2
                      go_ret
                      exact HT.out false
end Go.Proofs.Ytcmdgbfppbkfmaa
