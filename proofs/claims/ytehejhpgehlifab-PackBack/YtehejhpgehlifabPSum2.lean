/- What pack.Sum does. -/
import Derived.Test.YtehejhpgehlifabPSum
import Derived.Deep.CutRange
namespace Go.Proofs.Ytehejhpgehlifab
open Go.RowKit

set_option maxHeartbeats 1000000 in
theorem psum_range (a b : Option Addr) (m c n d : Nat) (s : Int) (w : World) (h : s < -1 ∨ (m : Int) ≤ s) :
    Calls Try.prog 22 #[HD a m c, .slice b n d, .int .i64 s] w fun e w' => e = .returned (.tuple #[.int .i64 0, .agg #[.int .i64 1, .int .i64 (-1)]]) ∧ Below w.heap.size w w' := by
  by_cases h1 : s < -1
  · clear h
    go_enter Try.func22, Try.ntmps22
    go_wp2
    exact bodyPost_ret (v := .tuple #[.int .i64 0, .agg #[.int .i64 1, .int .i64 (-1)]]) (by simp [results, Try.results22, go_sem]) rfl ⟨rfl, bl_alloc (bl_alloc (Below.refl _ _))⟩
  · have h2 : (m : Int) ≤ s := by omega
    clear h
    go_enter Try.func22, Try.ntmps22
    go_wp2
    exact bodyPost_ret (v := .tuple #[.int .i64 0, .agg #[.int .i64 1, .int .i64 (-1)]]) (by simp [results, Try.results22, go_sem]) rfl ⟨rfl, bl_alloc (bl_alloc (Below.refl _ _))⟩

/-- a fault lies in a block of its own -/
def Held (w : World) (a : Option Addr) (m c q : Nat) (C A : Int) (wc : World) : Prop :=
  Below (w.heap.size + 2) ((w.alloc (H0 a m c)).alloc F0) wc ∧ w.heap.size + 2 ≤ q ∧ q < wc.heap.size ∧ wc.cell? ⟨q, 0, none⟩ = some (.int .i64 C) ∧ wc.cell? ⟨q, 1, none⟩ = some (.int .i64 A)

theorem hold1 {w w1 : World} {a : Option Addr} {m c : Nat} (h : Below ((w.alloc (H0 a m c)).alloc F0).drew.heap.size ((w.alloc (H0 a m c)).alloc F0).drew w1) : Below (w.heap.size + 2) ((w.alloc (H0 a m c)).alloc F0) w1 :=
  (Below.refl _ _).drew.trans (h.mono (by simp))

theorem hold2 {w w1 : World} {a : Option Addr} {m c : Nat} (h : Below (((w.alloc (H0 a m c)).alloc F0).alloc F0).drew.heap.size (((w.alloc (H0 a m c)).alloc F0).alloc F0).drew w1) : Below (w.heap.size + 2) ((w.alloc (H0 a m c)).alloc F0) w1 :=
  ((Below.refl _ _).alloc (by simp) _).drew.trans (h.mono (by simp))

theorem hold3 {w w1 w2 : World} {a : Option Addr} {m c : Nat} (hB : Below (w.heap.size + 2) ((w.alloc (H0 a m c)).alloc F0) w1) (h : Below w1.heap.size w1 w2) : Below (w.heap.size + 2) ((w.alloc (H0 a m c)).alloc F0) w2 :=
  hB.trans (h.mono (by have := hB.size; simpa using this))

theorem hold4 {w w1 w2 : World} {a : Option Addr} {m c : Nat} (hB : Below (w.heap.size + 2) ((w.alloc (H0 a m c)).alloc F0) w1) (h : Below (w1.alloc F0).heap.size (w1.alloc F0) w2) : Below (w.heap.size + 2) ((w.alloc (H0 a m c)).alloc F0) w2 :=
  hold3 hB (bl_step (bl_alloc (Below.refl _ _)) h)

theorem of4 {w1 w2 : World} (h : Below (w1.alloc F0).heap.size (w1.alloc F0) w2) : Below (w1.heap.size + 1) (w1.alloc F0) w2 := by simpa using h

theorem of2 {w w1 w2 : World} {a : Option Addr} {m c : Nat} (h : Below (((w.alloc (H0 a m c)).alloc F0).alloc F0).drew.heap.size (((w.alloc (H0 a m c)).alloc F0).alloc F0).drew w1) (h2 : Below w1.heap.size w1 w2) :
    Below (((w.alloc (H0 a m c)).alloc F0).heap.size + 1) (((w.alloc (H0 a m c)).alloc F0).alloc F0) w2 := by
  have hs : (((w.alloc (H0 a m c)).alloc F0).alloc F0).drew.heap.size = ((w.alloc (H0 a m c)).alloc F0).heap.size + 1 := by simp
  have h3 := h.trans (h2.mono h.size)
  rw [hs] at h3
  exact (Below.refl _ _).drew.trans h3

theorem third_cells {w w2 : World} {a : Option Addr} {m c : Nat} (hb : Below (((w.alloc (H0 a m c)).alloc F0).heap.size + 1) (((w.alloc (H0 a m c)).alloc F0).alloc F0) w2) :
    w2.cell? ⟨w.heap.size + 2, 0, none⟩ = some (.int .i64 0) ∧ w2.cell? ⟨w.heap.size + 2, 1, none⟩ = some (.int .i64 0) ∧ w2.frozen? ⟨w.heap.size + 2, 0, none⟩ = false ∧ w2.frozen? ⟨w.heap.size + 2, 1, none⟩ = false ∧ w.heap.size + 2 < w2.heap.size := by
  have h := fault_cells hb
  have e : ((w.alloc (H0 a m c)).alloc F0).heap.size = w.heap.size + 2 := by simp
  rw [e] at h
  exact h

theorem heldA {w w2 : World} {a : Option Addr} {m c : Nat} {C A : Int} (hB : Below (w.heap.size + 2) ((w.alloc (H0 a m c)).alloc F0) w2) : Held w a m c w2.heap.size C A (w2.alloc (.cells #[.int .i64 C, .int .i64 A] 36)) :=
  have hs : w.heap.size + 2 ≤ w2.heap.size := by have := hB.size; simpa using this
  ⟨hB.alloc hs _, hs, by simp, by simp, by simp⟩

theorem heldB {w w2 : World} {a : Option Addr} {m c q : Nat} {C A x y : Int} (hB : Below (w.heap.size + 2) ((w.alloc (H0 a m c)).alloc F0) w2) (hq : w.heap.size + 2 ≤ q) (q0 : w2.cell? ⟨q, 0, none⟩ = some (.int .i64 x)) (q1 : w2.cell? ⟨q, 1, none⟩ = some (.int .i64 y)) :
    Held w a m c q C A ((w2.setCell ⟨q, 0, none⟩ (.int .i64 C)).setCell ⟨q, 1, none⟩ (.int .i64 A)) := by
  have hl := World.block_lt_of_cell? w2 _ q0
  have e1 : (w2.setCell ⟨q, 0, none⟩ (.int .i64 C)).cell? ⟨q, 1, none⟩ = some (.int .i64 y) := (World.cell?_setCell_other _ _ _ _ (by simp)).trans q1
  refine ⟨(hB.setCell hq _).setCell hq _, hq, by simpa [World.setCell] using hl, ?_, World.cell?_setCell_same _ _ _ e1⟩
  rw [World.cell?_setCell_other _ _ _ _ (by simp)]
  exact World.cell?_setCell_same _ _ _ q0

theorem no_cells (w : World) : w = w ∧ w = w ∧ w = w ∧ w = w ∧ w = w := ⟨rfl, rfl, rfl, rfl, rfl⟩

set_option maxHeartbeats 2000000 in
theorem psum_write (a b : Option Addr) (m c n d L : Nat) (s C A : Int) (ls ws ys : List Int) (w : World) (h1 : -1 ≤ s) (h2 : s < (m : Int)) (hn : b = none → n = 0 ∧ d = 0) (hl : n ≤ 100000) (hL : L ≤ 100000) (hv : Has .u64 w b n ls) (hw : Has .i64 w a m ws)
    (hs : ∀ a c b d w, Has .i64 w a m ws → Has .u64 w b n (Mth.zap ls s n) → Calls Try.prog 19 #[HD a m c, .slice b n d] w fun e w' => ∃ g cap', e = .returned (.tuple #[.slice g L cap', .agg #[.int .i64 C, .int .i64 A]]) ∧ Has .u8 w' g L ys ∧ Below w.heap.size w w') :
    Calls Try.prog 22 #[HD a m c, .slice b n d, .int .i64 s] w fun e w' => e = .returned (if C = 0 then .tuple #[.int .i64 (Mth.less (Mth.whole ys)), .agg #[.int .i64 0, .int .i64 0]] else .tuple #[.int .i64 0, .agg #[.int .i64 C, .int .i64 A]]) ∧ Below w.heap.size w w' := by
  have HN := hid hn
  have HS := hid hs
  have HV := hid hv
  have HW := hid hw
  clear hs hn hv hw
  go_enter Try.func22, Try.ntmps22
  go_upto_region 3 with fail
  go_cut [8, 9] from 20 to 27 (fun v8 v9 wc => ∃ g cp q, v8 = .slice g L cp ∧ v9 = .pointer (some ⟨q, 0, none⟩) ∧ Has .u8 wc g L ys ∧ Held w a m c q C A wc)
  case first =>
    go_region_with (first
      | (go_at_call 35; refine (without_any b n d s ls _ HN.out hl ?_).mono ?_; (first | exact HV.out.alloc.alloc | exact HV.out.alloc.alloc.alloc); rintro e w1 ⟨g1, cp1, rfl, hz1, hb1⟩; (first | have hB1 := hold1 hb1 | have hB1 := hold2 hb1); have hW1 := HW.out.alloc.alloc.below hB1 (by simp); obtain ⟨c0, c1, c2, f1, f2, hsz⟩ := head_cells hB1; have hsz0 := Nat.lt_of_succ_lt hsz)
      | (go_at_call 19; refine (HS.out _ _ _ _ _ ?_ ?_).mono ?_; (first | exact hW1 | exact hW1.alloc); (first | exact hz1 | exact hz1.alloc); rintro e w2 ⟨g2, cp2, rfl, hz2, hb2⟩; (first | have hB2 := hold3 hB1 hb2 | have hB2 := hold4 hB1 hb2); obtain ⟨d0, d1, d2, g1', g2', hsz2⟩ := head_cells hB2; (first | have hF := fault_cells (of4 hb2) | have hF := third_cells (of2 hb1 hb2) | have hF := no_cells w2); obtain ⟨q0, q1, q2, q3, q4⟩ := hF))
    all_goals first
      | (go_wp2_with fail; go_meet; exact ⟨g2, cp2, _, rfl, rfl, hz2.alloc, heldA hB2⟩)
      | (go_wp2_with fail; go_meet; exact ⟨g2, cp2, _, rfl, rfl, hz2.put2 (by decide) q0 q1 _ _, heldB hB2 hsz q0 q1⟩)
      | (go_wp2_with fail; go_meet; exact ⟨g2, cp2, _, rfl, rfl, hz2.put2 (by decide) q0 q1 _ _, heldB hB2 (Nat.le_refl _) q0 q1⟩)
  case rest =>
    obtain ⟨g, cp, q, rfl, rfl, hz, hH⟩ := hcut
    obtain ⟨hB, hq, hql, q0, q1⟩ := hH
    obtain ⟨c0, c1, c2, f1, f2, hsz⟩ := head_cells hB
    have HZ := hid hz
    clear HS HV HW HN hz
    by_cases hC : C = 0
    · subst hC
      go_wp2_with fail
      refine (of_any _ _ _ ys _ hL HZ.out).mono ?_
      rintro e w1 ⟨rfl, rfl⟩
      go_wp2
      exact bodyPost_ret (v := .tuple #[.int .i64 (Mth.less (Mth.whole ys)), .agg #[.int .i64 0, .int .i64 0]]) (by simp [results, Try.results22, go_sem, c1, c2]) rfl ⟨rfl, end_head hB _ _⟩
    · have hc : (C != 0) = true := by simpa using hC
      go_wp2
      go_region
      go_wp2
      exact bodyPost_ret (v := .tuple #[.int .i64 0, .agg #[.int .i64 C, .int .i64 A]]) (by simp [results, Try.results22, go_sem, c1, c2]) rfl ⟨rfl, (end_head hB _ _).drew⟩
end Go.Proofs.Ytehejhpgehlifab
