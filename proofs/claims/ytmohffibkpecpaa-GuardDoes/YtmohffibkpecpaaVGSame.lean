/- shuntyardref.SameProgram, GreatProgram. -/
import Derived.Test.YtmohffibkpecpaaVGFits
import Derived.Deep.RegionHeld3
namespace Go.Proofs.Ytmohffibkpecpaa
open Go.RowKit

set_option maxHeartbeats 1000000 in
set_option maxRecDepth 20000 in
theorem ggreat (d : ProgD) (w : World) : Calls Try.prog 5 #[d.v] w (TellB (decide (300 < (d.tabs.n : Int)) || decide (65000 < (d.code.n : Int))) w) := by
  dsimp only [ProgD.v]
  by_cases h : 300 < (d.tabs.n : Int)
  · rw [decide_eq_true h, Bool.true_or]
    go_enter Try.func5, Try.ntmps5
    go_wp2
    go_ret
    exact ⟨rfl, bl_alloc (Below.refl _ _)⟩
  · rw [decide_eq_false h, Bool.false_or]
    go_enter Try.func5, Try.ntmps5
    go_wp2
    go_ret
    exact ⟨rfl, bl_alloc (Below.refl _ _)⟩

set_option maxHeartbeats 4000000 in
set_option maxRecDepth 20000 in
theorem gsame (d e : ProgD) (w : World) (hd : d.lie w) (he : e.lie w) (h1 : d.slots = e.slots) (h2 : d.ts = e.ts) (h3 : d.cs = e.cs) (hm : d.small) : Calls Try.prog 9 #[d.v, e.v] w (TellB true w) := by
  have n1 : e.tabs.n = d.tabs.n := by rw [← he.t.1, ← hd.t.1, h2]
  have n2 : e.code.n = d.code.n := by rw [← he.c.1, ← hd.c.1, h3]
  obtain ⟨W2, hW2⟩ : ∃ W2, W2 = ((w.alloc (.cells #[.int .i64 d.slots, .slice d.tabs.a d.tabs.n d.tabs.c, .slice d.code.a d.code.n d.code.c] 25)).alloc (.cells #[.int .i64 d.slots, .slice e.tabs.a d.tabs.n e.tabs.c, .slice e.code.a d.code.n e.code.c] 25)) := ⟨_, rfl⟩
  obtain ⟨pb, hpb⟩ : ∃ b, b = w.heap.size := ⟨_, rfl⟩
  obtain ⟨qb, hqb⟩ : ∃ b, b = w.heap.size + 1 := ⟨_, rfl⟩
  have HB : Hid (Below w.heap.size w W2) := by rw [hW2]; exact bl_alloc (bl_alloc (Below.refl _ _))
  have PB : Hid (PBox d W2 pb) := by rw [hW2, hpb]; exact (pbox_new d w).step (bl_alloc (Below.refl _ _))
  have QB : Hid (W2.cell? ⟨qb, 0, none⟩ = some (.int .i64 d.slots) ∧ W2.cell? ⟨qb, 1, none⟩ = some (.slice e.tabs.a d.tabs.n e.tabs.c) ∧ W2.cell? ⟨qb, 2, none⟩ = some (.slice e.code.a d.code.n e.code.c)) := by
    show _ ∧ _
    rw [hW2, hqb]
    refine ⟨by simp, by simp, by simp⟩
  have HD := hid (hd.step HB.out)
  have HE := hid (he.step HB.out)
  have H2 := hid h2
  have H3 := hid h3
  have N1 := hid n1
  have N2 := hid n2
  have EW := hid hW2
  have EP := hid hpb
  have EQ := hid hqb
  obtain ⟨hm1, hm2⟩ := hm
  dsimp only [ProgD.v]
  rw [← h1, n1, n2]
  clear hd he h1 h2 h3 n1 n2 hW2 hpb hqb
  have hb0 : (d.slots != d.slots) = false := by simp
  have hb1 : ((d.tabs.n : Int) != (d.tabs.n : Int)) = false := by simp
  have hb2 : ((d.code.n : Int) != (d.code.n : Int)) = false := by simp
  go_enter Try.func9, Try.ntmps9
  go_wp2
  rw [← EW.out, ← EQ.out, ← EP.out]
  clear EW EQ EP
  go_loopw [5] (fun q wr => ∃ k : Nat, k ≤ d.tabs.n ∧ q = .int .i64 k ∧ Hid (Below W2.heap.size W2 wr)) (fun q _ => d.tabs.n - (intOf q).toNat)
  case atStart => exact ⟨0, Nat.zero_le _, rfl, Below.refl _ _⟩
  case round =>
    obtain ⟨k, hk, rfl, hb⟩ := hrel
    obtain ⟨p0, p1, p2⟩ := PB.out.step hb.out
    have q1 := cell_keep QB.out.2.1 hb.out
    by_cases hlt : k < d.tabs.n
    · have hki : (k : Int) < (d.tabs.n : Int) := by omega
      obtain ⟨g1, o1, x, e1, hx, ⟨x0, _⟩, ⟨x1, _⟩, ⟨x2, _⟩⟩ := grow_at (HD.out.t.step ShapeD.keeps hb.out) hlt
      obtain ⟨g2, o2, y, e2, hy, ⟨y0, _⟩, ⟨y1, _⟩, ⟨y2, _⟩⟩ := grow_at (HE.out.t.step ShapeD.keeps hb.out) (show k < e.tabs.n by rw [N1.out]; exact hlt)
      rw [← H2.out, hx] at hy
      obtain rfl := Option.some.inj hy
      rw [e1] at p1
      rw [e2] at q1
      clear e1 e2 hx hy p0 p2
      go_wp2_with fail
      go_region_held3 (fun w' => w'.cell? ⟨pb, 1, none⟩ = some (.slice (some ⟨g1, o1, none⟩) d.tabs.n d.tabs.c) ∧ w'.cell? ⟨qb, 1, none⟩ = some (.slice (some ⟨g2, o2, none⟩) d.tabs.n e.tabs.c) ∧ w'.cell? ⟨g1, o1 + k * 3, none⟩ = some (.int .i64 x.keys) ∧ w'.cell? ⟨g1, o1 + k * 3 + 1, none⟩ = some (.int .i64 x.acts) ∧ w'.cell? ⟨g1, o1 + k * 3 + 2, none⟩ = some (.int .i64 x.args) ∧ w'.cell? ⟨g2, o2 + k * 3, none⟩ = some (.int .i64 x.keys) ∧ w'.cell? ⟨g2, o2 + k * 3 + 1, none⟩ = some (.int .i64 x.acts) ∧ w'.cell? ⟨g2, o2 + k * 3 + 2, none⟩ = some (.int .i64 x.args)) (go_keep) (fail)
      all_goals
        clear x0 x1 x2 y0 y1 y2 p1 q1
        go_wp2
        go_roundw
        case rel => exact ⟨k + 1, by omega, by go_num, hb.out.drew⟩
        case measure => simp [intOf]; omega
    · have hki : ¬ (k : Int) < (d.tabs.n : Int) := by omega
      go_wp2
      go_loopw [6] (fun q wr => ∃ k : Nat, k ≤ d.code.n ∧ q = .int .i64 k ∧ Hid (Below W2.heap.size W2 wr)) (fun q _ => d.code.n - (intOf q).toNat)
      case atStart => exact ⟨0, Nat.zero_le _, rfl, hb⟩
      case round =>
        obtain ⟨k, hk, rfl, hb⟩ := hrel
        obtain ⟨p0, p1, p2⟩ := PB.out.step hb.out
        have q2 := cell_keep QB.out.2.2 hb.out
        by_cases hlt : k < d.code.n
        · have hki : (k : Int) < (d.code.n : Int) := by omega
          obtain ⟨g1, o1, x, e1, hx, ⟨x0, _⟩, ⟨x1, _⟩, ⟨x2, _⟩, ⟨x3, _⟩, ⟨x4, _⟩, ⟨x5, _⟩⟩ := grow_at (HD.out.c.step InsD.keeps hb.out) hlt
          obtain ⟨g2, o2, y, e2, hy, ⟨y0, _⟩, ⟨y1, _⟩, ⟨y2, _⟩, ⟨y3, _⟩, ⟨y4, _⟩, ⟨y5, _⟩⟩ := grow_at (HE.out.c.step InsD.keeps hb.out) (show k < e.code.n by rw [N2.out]; exact hlt)
          rw [← H3.out, hx] at hy
          obtain rfl := Option.some.inj hy
          rw [e1] at p2
          rw [e2] at q2
          clear e1 e2 hx hy p0 p1
          go_wp2_with fail
          go_region_held3 (fun w' => w'.cell? ⟨pb, 2, none⟩ = some (.slice (some ⟨g1, o1, none⟩) d.code.n d.code.c) ∧ w'.cell? ⟨qb, 2, none⟩ = some (.slice (some ⟨g2, o2, none⟩) d.code.n e.code.c) ∧ w'.cell? ⟨g1, o1 + k * 6, none⟩ = some (.int .i64 x.op) ∧ w'.cell? ⟨g1, o1 + k * 6 + 1, none⟩ = some (.int .i64 x.r) ∧ w'.cell? ⟨g1, o1 + k * 6 + 2, none⟩ = some (.int .i64 x.s) ∧ w'.cell? ⟨g1, o1 + k * 6 + 3, none⟩ = some (.int .i64 x.k) ∧ w'.cell? ⟨g1, o1 + k * 6 + 4, none⟩ = some (.int .i64 x.to) ∧ w'.cell? ⟨g1, o1 + k * 6 + 5, none⟩ = some (.int .u64 x.n) ∧ w'.cell? ⟨g2, o2 + k * 6, none⟩ = some (.int .i64 x.op) ∧ w'.cell? ⟨g2, o2 + k * 6 + 1, none⟩ = some (.int .i64 x.r) ∧ w'.cell? ⟨g2, o2 + k * 6 + 2, none⟩ = some (.int .i64 x.s) ∧ w'.cell? ⟨g2, o2 + k * 6 + 3, none⟩ = some (.int .i64 x.k) ∧ w'.cell? ⟨g2, o2 + k * 6 + 4, none⟩ = some (.int .i64 x.to) ∧ w'.cell? ⟨g2, o2 + k * 6 + 5, none⟩ = some (.int .u64 x.n)) (go_keep) (fail)
          all_goals
            clear x0 x1 x2 x3 x4 x5 y0 y1 y2 y3 y4 y5 p2 q2
            go_wp2
            go_roundw
            case rel => exact ⟨k + 1, by omega, by go_num, hb.out.drew⟩
            case measure => simp [intOf]; omega
        · have hki : ¬ (k : Int) < (d.code.n : Int) := by omega
          go_wp2
          go_ret
          exact ⟨rfl, bl_step HB.out hb.out⟩
end Go.Proofs.Ytmohffibkpecpaa
