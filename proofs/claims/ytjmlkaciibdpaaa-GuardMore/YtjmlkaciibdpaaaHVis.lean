/- guard's visit: as it lies; leads, goesOn, isReady. -/
import Derived.Test.YtjmlkaciibdpaaaHState
namespace Go.Proofs.Ytjmlkaciibdpaaa
open Go.RowKit

structure VisAt (w : World) (vb wk : Nat) (d : ProgD) (x : InsD) (s : SD) : Prop where
  c0 : w.cell? ⟨vb, 0, none⟩ = some (.pointer (some ⟨wk, 0, none⟩))
  i0 : w.cell? ⟨vb, 1, none⟩ = some (.int .i64 x.op)
  i1 : w.cell? ⟨vb, 2, none⟩ = some (.int .i64 x.r)
  i2 : w.cell? ⟨vb, 3, none⟩ = some (.int .i64 x.s)
  i3 : w.cell? ⟨vb, 4, none⟩ = some (.int .i64 x.k)
  i4 : w.cell? ⟨vb, 5, none⟩ = some (.int .i64 x.to)
  i5 : w.cell? ⟨vb, 6, none⟩ = some (.int .u64 x.n)
  st : w.rangeAt vb 7 (stC true s)
  th : w.there vb 7 147
  p1 : w.cell? ⟨wk, 1, none⟩ = some (.slice d.tabs.a d.tabs.n d.tabs.c)
  lie : d.lie w
theorem VisAt.step {w w' : World} {vb wk : Nat} {d : ProgD} {x : InsD} {s : SD} (h : VisAt w vb wk d x s) (b : Below w.heap.size w w') : VisAt w' vb wk d x s :=
  ⟨cell_keep h.c0 b, cell_keep h.i0 b, cell_keep h.i1 b, cell_keep h.i2 b, cell_keep h.i3 b, cell_keep h.i4 b, cell_keep h.i5 b, range_step h.st b, there_step h.th b, cell_keep h.p1 b, h.lie.step b⟩
theorem VisAt.lt {w : World} {vb wk : Nat} {d : ProgD} {x : InsD} {s : SD} (h : VisAt w vb wk d x s) : vb < w.heap.size := World.block_lt_of_cell? _ _ h.c0

/-- a register of it -/
structure Reg5 (w : World) (vb i : Nat) (r : RD) : Prop where
  c0 : w.cell? ⟨vb, 8 + i * 5, none⟩ = some (.bool r.set)
  c1 : w.cell? ⟨vb, 8 + i * 5 + 1, none⟩ = some (.bool r.just.isSome)
  c2 : w.cell? ⟨vb, 8 + i * 5 + 2, none⟩ = some (.int .u64 ((r.just.getD 0 : Nat) : Int))
  c3 : w.cell? ⟨vb, 8 + i * 5 + 3, none⟩ = some (.bool r.room.isSome)
  c4 : w.cell? ⟨vb, 8 + i * 5 + 4, none⟩ = some (.int .u64 ((r.room.getD 0 : Nat) : Int))
theorem VisAt.reg {w : World} {vb wk : Nat} {d : ProgD} {x : InsD} {s : SD} (h : VisAt w vb wk d x s) {i : Nat} (hi : i < 10) : Reg5 w vb i (s.reg i) := by
  obtain ⟨h0, h1, h2, h3, h4⟩ := range_reg.1 ((range_st.1 h.st).2.1 i hi)
  exact ⟨h0, h1, h2, h3, h4⟩
theorem VisAt.slot {w : World} {vb wk : Nat} {d : ProgD} {x : InsD} {s : SD} (h : VisAt w vb wk d x s) {i : Nat} (hi : i < 96) : w.cell? ⟨vb, 58 + i, none⟩ = some (.bool (s.slot i)) := (range_st.1 h.st).2.2 i hi

@[reducible] def vptr (b : Nat) : Value := .pointer (some ⟨b, 0, none⟩)

theorem op18 {n : Int} (h : 1 ≤ n ∧ n ≤ 18) : n = 1 ∨ n = 2 ∨ n = 3 ∨ n = 4 ∨ n = 5 ∨ n = 6 ∨ n = 7 ∨ n = 8 ∨ n = 9 ∨ n = 10 ∨ n = 11 ∨ n = 12 ∨ n = 13 ∨ n = 14 ∨ n = 15 ∨ n = 16 ∨ n = 17 ∨ n = 18 := by omega

set_option maxHeartbeats 2000000 in
set_option maxRecDepth 20000 in
theorem hleads {w : World} {vb wk : Nat} {d : ProgD} {x : InsD} {s : SD} (h : VisAt w vb wk d x s) (hop : 1 ≤ x.op ∧ x.op ≤ 18) : Calls Try.prog 23 #[vptr vb] w (TellB (hasT x.op) w) := by
  have i0 := h.i0
  have hl := h.lt
  have HR : Hid (Below w.heap.size w w) := Below.refl _ _
  clear h
  obtain ⟨op, r, s', k, tt, n⟩ := x
  dsimp only at i0 hop ⊢
  rcases op18 hop with rfl | rfl | rfl | rfl | rfl | rfl | rfl | rfl | rfl | rfl | rfl | rfl | rfl | rfl | rfl | rfl | rfl | rfl
  all_goals
    clear hop
    go_enter Try.func23, Try.ntmps23
    go_wp2
    go_ret
    exact ⟨rfl, HR.out⟩

set_option maxHeartbeats 2000000 in
set_option maxRecDepth 20000 in
theorem hgoes {w : World} {vb wk : Nat} {d : ProgD} {x : InsD} {s : SD} (h : VisAt w vb wk d x s) : Calls Try.prog 25 #[vptr vb] w (TellB (goesD x) w) := by
  have i0 := h.i0
  have hl := h.lt
  have HR : Hid (Below w.heap.size w w) := Below.refl _ _
  have HE := hid (fun n w => gends n w)
  clear h
  obtain ⟨op, r, s', k, tt, n⟩ := x
  dsimp only at i0 ⊢
  unfold goesD
  dsimp only
  by_cases h12 : op = 12
  · subst h12
    go_enter Try.func25, Try.ntmps25
    go_wp2
    go_ret
    exact ⟨rfl, HR.out⟩
  · rw [decide_eq_false h12, Bool.false_or]
    have hb12 : (op != 12) = true := by simpa using h12
    generalize hq : endsB op = q
    have HQ := hid hq
    clear hq
    go_enter Try.func25, Try.ntmps25
    go_wp2_with fail
    refine (HE.out _ _).mono ?_
    rintro e w2 ⟨rfl, rfl⟩
    rw [HQ.out]
    go_wp2
    go_ret
    exact ⟨rfl, HR.out⟩
end Go.Proofs.Ytjmlkaciibdpaaa
