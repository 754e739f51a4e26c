/- What was taken when a state has taken its header. -/
import Derived.Test.YtajelgjbgehahaaGreatVWVisit
import Derived.Test.YtajelgjbgehahaaGreatVQHead
namespace Go.Proofs.YtajelgjbgehahaaGreat
open Go.RowKit

theorem sizeC_good {ws : List Int} (h : sizeC ws = 0) : 1 ≤ ws.length ∧ ws.length ≤ 8 ∧ (∀ j, j < ws.length → Mth.Fit ws j) ∧ Mth.off ws ws.length % 8 = 0 ∧ Mth.off ws ws.length ≤ 256 := by
  unfold sizeC at h
  by_cases h1 : ws.length < 1 ∨ 8 < ws.length
  · rw [if_pos h1] at h; exact absurd h (by decide)
  rw [if_neg h1] at h
  by_cases h2 : ∀ j, j < ws.length → Mth.Fit ws j
  · rw [if_pos h2] at h
    by_cases h3 : Mth.off ws ws.length % 8 = 0 ∧ Mth.off ws ws.length ≤ 256
    · exact ⟨by omega, by omega, h2, h3.1, h3.2⟩
    · rw [if_neg h3] at h; exact absurd h (by decide)
  · rw [if_neg h2] at h; exact absurd h (by decide)

/-- pack.Size of a right header -/
theorem size_good (a : Option Addr) (m c : Nat) (ws : List Int) (w : World) (hw : Has .i64 w a m ws) (h : sizeC ws = 0) :
    Calls Tryz.prog 70 #[.agg #[.slice a m c]] w fun e w' => e = .returned (.tuple #[.int .i64 (sizeN ws : Int), .agg #[.int .i64 0, .int .i64 0]]) ∧ Below w.heap.size w w' := by
  obtain ⟨h1, h8, hf, h3, h4⟩ := sizeC_good h
  have hl := hw.1
  rw [hl] at h1 h8 hf h3 h4
  refine (size_end a m c ws w h1 h8 hw hf).mono fun e w' ⟨x, he, ht, hb⟩ => ⟨?_, hb⟩
  rw [he, ht.1 ⟨h3, h4⟩]
  unfold sizeN
  rw [hl]

theorem bitN_six {h : Int} (hh : h < 6) : bitN h < 2 ^ 6 := by
  unfold bitN
  split
  · decide
  · exact Nat.pow_lt_pow_right (by decide) (by omega)

/-- the cells that are asked in behind's region 4 -/
theorem bkeep {w w' : World} {q b0 hg ho : Nat} {v0 v1 v2 v3 : Value} (h : w.cell? ⟨q, 0, none⟩ = some v0 ∧ w.cell? ⟨b0, 0, none⟩ = some v1 ∧ w.cell? ⟨b0, 1, none⟩ = some v2 ∧ w.cell? ⟨hg, ho, none⟩ = some v3) (b : Below w.heap.size w w') : w'.cell? ⟨q, 0, none⟩ = some v0 ∧ w'.cell? ⟨b0, 0, none⟩ = some v1 ∧ w'.cell? ⟨b0, 1, none⟩ = some v2 ∧ w'.cell? ⟨hg, ho, none⟩ = some v3 :=
  ⟨cell_keep h.1 b, cell_keep h.2.1 b, cell_keep h.2.2.1 b, cell_keep h.2.2.2 b⟩

theorem bkeep2 {w : World} {q b0 hg ho B : Nat} {v0 v1 v2 v3 u0 u1 : Value} (nq : q ≠ B) (n0 : b0 ≠ B) (nh : hg ≠ B) (h : w.cell? ⟨q, 0, none⟩ = some v0 ∧ w.cell? ⟨b0, 0, none⟩ = some v1 ∧ w.cell? ⟨b0, 1, none⟩ = some v2 ∧ w.cell? ⟨hg, ho, none⟩ = some v3) : ((w.setCell ⟨B, 0, none⟩ u0).setCell ⟨B, 1, none⟩ u1).cell? ⟨q, 0, none⟩ = some v0 ∧ ((w.setCell ⟨B, 0, none⟩ u0).setCell ⟨B, 1, none⟩ u1).cell? ⟨b0, 0, none⟩ = some v1 ∧ ((w.setCell ⟨B, 0, none⟩ u0).setCell ⟨B, 1, none⟩ u1).cell? ⟨b0, 1, none⟩ = some v2 ∧ ((w.setCell ⟨B, 0, none⟩ u0).setCell ⟨B, 1, none⟩ u1).cell? ⟨hg, ho, none⟩ = some v3 :=
  have k : But B w ((w.setCell ⟨B, 0, none⟩ u0).setCell ⟨B, 1, none⟩ u1) := set_but.trans set_but
  ⟨k.cell nq h.1, k.cell n0 h.2.1, k.cell n0 h.2.2.1, k.cell nh h.2.2.2⟩

set_option maxHeartbeats 8000000 in
set_option maxRecDepth 20000 in
theorem behind_no (q : Nat) (x : StateD) (s : Wk.Sets) (w : World) (hh : x.head < 0) :
    Calls Tryz.prog 102 #[visV q x s] w fun e w' => e = .returned s.v ∧ Below w.heap.size w w' := by
  have HB : Hid (∀ o o' o'', Below w.heap.size w (((w.alloc o).alloc o').alloc o'')) := fun _ _ _ => bl_alloc (bl_alloc (bl_alloc (Below.refl _ _)))
  obtain ⟨a, b, c, d, e⟩ := s
  go_enter Tryz.func102, Tryz.ntmps102
  go_wp2
  exact bodyPost_ret (v := .agg #[.int .u64 (a : Int), .int .u64 (b : Int), .int .i64 (c : Int), .int .i64 (d : Int), .bool e]) (by simp [results, Tryz.results102, go_sem]) rfl ⟨rfl, HB.out _ _ _⟩

/-- what behind has laid: the visit, the answer, the sets -/
structure BehAt (q : Nat) (x : StateD) (s r : Wk.Sets) (b0 b1 b2 : Nat) (w : World) : Prop where
  vis : VisB q x s b0 w
  out : Five w b1 0 Wk.zero
  own : Five w b2 0 r
  f1 : ∀ o, w.frozen? ⟨b1, o, none⟩ = false
  f2 : ∀ o, w.frozen? ⟨b2, o, none⟩ = false
  n01 : b0 ≠ b1
  n02 : b0 ≠ b2
  n12 : b1 ≠ b2
  l2 : b1 < w.heap.size ∧ b2 < w.heap.size

theorem BehAt.step {q : Nat} {x : StateD} {s r : Wk.Sets} {b0 b1 b2 : Nat} {w w' : World} (h : BehAt q x s r b0 b1 b2 w) (b : Below w.heap.size w w') : BehAt q x s r b0 b1 b2 w' :=
  ⟨h.vis.step b, h.out.step b, h.own.step b, fun o => (b.frozen (p := ⟨b1, o, none⟩) h.l2.1).trans (h.f1 o), fun o => (b.frozen (p := ⟨b2, o, none⟩) h.l2.2).trans (h.f2 o), h.n01, h.n02, h.n12, Nat.lt_of_lt_of_le h.l2.1 b.size, Nat.lt_of_lt_of_le h.l2.2 b.size⟩

theorem beh_new (q : Nat) (x : StateD) (s : Wk.Sets) (w : World) : BehAt q x s s w.heap.size (w.heap.size + 1) (w.heap.size + 1 + 1) (((w.alloc (visB q x s)).alloc (.cells #[.int .u64 0, .int .u64 0, .int .i64 0, .int .i64 0, .bool false] 129)).alloc (.cells #[.int .u64 (s.must : Int), .int .u64 (s.may : Int), .int .i64 (s.least : Int), .int .i64 (s.most : Int), .bool s.there] 129)) := by
  refine ⟨(visB_new q x s w).step (bl_alloc (bl_alloc (Below.refl _ _))), ⟨?_, ?_, ?_, ?_, ?_⟩, ⟨?_, ?_, ?_, ?_, ?_⟩, fun o => ?_, fun o => ?_, by omega, by omega, by omega, by simp⟩
  · exact (World.cell?_alloc_past _ _ _ (by simp)).trans ((World.cell?_alloc_at _ _ _ _ (by simp)).trans rfl)
  · exact (World.cell?_alloc_past _ _ _ (by simp)).trans ((World.cell?_alloc_at _ _ _ _ (by simp)).trans rfl)
  · exact (World.cell?_alloc_past _ _ _ (by simp)).trans ((World.cell?_alloc_at _ _ _ _ (by simp)).trans rfl)
  · exact (World.cell?_alloc_past _ _ _ (by simp)).trans ((World.cell?_alloc_at _ _ _ _ (by simp)).trans rfl)
  · exact (World.cell?_alloc_past _ _ _ (by simp)).trans ((World.cell?_alloc_at _ _ _ _ (by simp)).trans rfl)
  · exact (World.cell?_alloc_at _ _ _ _ (by simp)).trans rfl
  · exact (World.cell?_alloc_at _ _ _ _ (by simp)).trans rfl
  · exact (World.cell?_alloc_at _ _ _ _ (by simp)).trans rfl
  · exact (World.cell?_alloc_at _ _ _ _ (by simp)).trans rfl
  · exact (World.cell?_alloc_at _ _ _ _ (by simp)).trans rfl
  · exact (World.frozen?_alloc_past _ _ _ (by simp)).trans (World.frozen?_alloc_at _ _ _ _ (by simp))
  · exact World.frozen?_alloc_at _ _ _ _ (by simp)

set_option maxHeartbeats 16000000 in
set_option maxRecDepth 20000 in
theorem behind_yes (q : Nat) (x : StateD) (s : Wk.Sets) (w : World) (hs : s.few) (hh : 0 ≤ x.head ∧ x.head < 6) {ha : Option Addr} {hn hc hg hof : Nat} {hd : HeadD} (hq : w.cell? ⟨q, 0, none⟩ = some (.slice ha hn hc)) (hx : x.head < (hn : Int)) (ea : ha = some ⟨hg, hof, none⟩) (hl : hd.lie w hg (hof + x.head.toNat)) (hz : sizeC hd.ws = 0) :
    Calls Tryz.prog 102 #[visV q x s] w fun e w' => e = .returned (Wk.shiftS (bitN x.head) (sizeN hd.ws) s).v ∧ Below w.heap.size w w' := by
  subst ea
  obtain ⟨W3, hW⟩ : ∃ W3, W3 = (((w.alloc (visB q x s)).alloc (.cells #[.int .u64 0, .int .u64 0, .int .i64 0, .int .i64 0, .bool false] 129)).alloc (.cells #[.int .u64 (s.must : Int), .int .u64 (s.may : Int), .int .i64 (s.least : Int), .int .i64 (s.most : Int), .bool s.there] 129)) := ⟨_, rfl⟩
  obtain ⟨b0, e0⟩ : ∃ b0, b0 = w.heap.size := ⟨_, rfl⟩
  obtain ⟨b1, e1⟩ : ∃ b1, b1 = w.heap.size + 1 := ⟨_, rfl⟩
  obtain ⟨b2, e2⟩ : ∃ b2, b2 = w.heap.size + 1 + 1 := ⟨_, rfl⟩
  have HA : Hid (BehAt q x s s b0 b1 b2 W3) := by rw [hW, e0, e1, e2]; exact beh_new q x s w
  have HB : Hid (Below w.heap.size w W3) := by rw [hW]; exact bl_alloc (bl_alloc (bl_alloc (Below.refl _ _)))
  have hb1 : w.heap.size ≤ b1 := by omega
  have hb2 : w.heap.size ≤ b2 := by omega
  have z0 := cell_keep hq HB.out
  have z1 := HA.out.vis.c0
  have z2 := HA.out.vis.c1
  have z3 := cell_keep hl.1.1 HB.out
  have HS : Hid (∀ w', Below W3.heap.size W3 w' → Calls Tryz.prog 70 #[.agg #[.slice hd.w.a hd.w.n hd.w.c]] w' fun e w'' => e = .returned (.tuple #[.int .i64 (sizeN hd.ws : Int), .agg #[.int .i64 0, .int .i64 0]]) ∧ Below w'.heap.size w' w'') := fun w' h => size_good _ _ _ _ w' (hl.2.step (bl_step HB.out h)) hz
  have HO : Hid (∀ w', Calls Tryz.prog 133 #[.int .i64 x.head] w' fun e w'' => e = .returned (.int .u64 (bitN x.head)) ∧ w'' = w') := fun w' => wbit_any x.head hh.2 w'
  have hnn : ¬ x.head < 0 := by omega
  have h0 : 0 ≤ x.head := hh.1
  have hbl := bitN_six hh.2
  have o1 := u64or s.must (bitN x.head) (few64 hs.mu) (few64 hbl)
  have o2 := u64or s.may (bitN x.head) (few64 hs.ma) (few64 hbl)
  have hsz : sizeN hd.ws ≤ 32 := by obtain ⟨_, _, _, _, h⟩ := sizeC_good hz; unfold sizeN; omega
  have hle := hs.le
  have hmo := hs.mo
  have EW := hid hW
  have E0 := hid e0
  have E1 := hid e1
  have E2 := hid e2
  clear hW e0 e1 e2 hz hl hq hs hbl hh
  generalize sizeN hd.ws = Z at *
  go_enter Tryz.func102, Tryz.ntmps102
  go_wp2_with fail
  rw [← EW.out, ← E2.out, ← E1.out, ← E0.out]
  clear EW E0 E1 E2
  have HCUR := hid (Below.refl W3.heap.size W3).drew
  have HC2 : Hid (∀ o, Below W3.heap.size W3 (W3.alloc o).drew) := fun o => (bl_alloc (Below.refl _ _)).drew
  have HFC : Hid (∀ wx, Below ((W3.alloc (.cells #[.int .i64 0, .int .i64 0] 28)).drew).heap.size ((W3.alloc (.cells #[.int .i64 0, .int .i64 0] 28)).drew) wx → wx.cell? ⟨W3.heap.size, 0, none⟩ = some (.int .i64 0) ∧ wx.cell? ⟨W3.heap.size, 1, none⟩ = some (.int .i64 0) ∧ wx.frozen? ⟨W3.heap.size, 0, none⟩ = false ∧ wx.frozen? ⟨W3.heap.size, 1, none⟩ = false) := fun wx h => by
    have hl : W3.heap.size < ((W3.alloc (.cells #[.int .i64 0, .int .i64 0] 28)).drew).heap.size := by simp
    exact ⟨(h.cell (p := ⟨W3.heap.size, 0, none⟩) hl).trans ((World.cell?_alloc_at _ _ _ _ rfl).trans rfl), (h.cell (p := ⟨W3.heap.size, 1, none⟩) hl).trans ((World.cell?_alloc_at _ _ _ _ rfl).trans rfl), (h.frozen (p := ⟨W3.heap.size, 0, none⟩) hl).trans (World.frozen?_alloc_at _ _ _ _ rfl), (h.frozen (p := ⟨W3.heap.size, 1, none⟩) hl).trans (World.frozen?_alloc_at _ _ _ _ rfl)⟩
  have hb3 : w.heap.size ≤ W3.heap.size := HB.out.size
  have nq : q ≠ W3.heap.size := Nat.ne_of_lt (World.block_lt_of_cell? W3 _ z0)
  have n0 : b0 ≠ W3.heap.size := Nat.ne_of_lt (World.block_lt_of_cell? W3 _ z2)
  have nh : hg ≠ W3.heap.size := Nat.ne_of_lt (World.block_lt_of_cell? W3 _ z3)
  have m1 : ¬ b1 = W3.heap.size := by have := HA.out.l2.1; omega
  have m2 : ¬ b2 = W3.heap.size := by have := HA.out.l2.2; omega
  go_region_held3 (fun w' => w'.cell? ⟨q, 0, none⟩ = some (.slice (some ⟨hg, hof, none⟩) hn hc) ∧ w'.cell? ⟨b0, 0, none⟩ = some (.pointer (some ⟨q, 0, none⟩)) ∧ w'.cell? ⟨b0, 1, none⟩ = some (.int .i64 x.head) ∧ w'.cell? ⟨hg, hof + x.head.toNat, none⟩ = some (.slice hd.w.a hd.w.n hd.w.c))
    (first
      | (go_split_ands; with_reducible exact bkeep ⟨by assumption, by assumption, by assumption, by assumption⟩ hbx)
      | (go_split_ands; with_reducible exact bkeep2 nq n0 nh ⟨by assumption, by assumption, by assumption, by assumption⟩)
      | go_keep)
    (first
      | (go_at_call 70; (with_reducible refine (HS.out _ HCUR.out).mono ?_); rintro e wx ⟨rfl, hbx⟩; have HXX := hid (HA.out.step (bl_step HCUR.out hbx)); have HBB := hid (bl_step HB.out (bl_step HCUR.out hbx)); have hwx : W3.heap.size ≤ wx.heap.size := (bl_step HCUR.out hbx).size)
      | (go_at_call 70; (with_reducible refine (HS.out _ (HC2.out _)).mono ?_); rintro e wx ⟨rfl, hbx⟩; have HXX := hid (HA.out.step (bl_step (HC2.out _) hbx)); have HBB := hid (bl_step HB.out (bl_step (HC2.out _) hbx)); obtain ⟨y0, y1, yf0, yf1⟩ := HFC.out _ hbx; have hwx : W3.heap.size ≤ wx.heap.size := (bl_step (HC2.out _) hbx).size))
  all_goals
    obtain ⟨⟨_, v1, _, _, _, _, _, _, _, _, _⟩, ⟨g0, g1, g2, g3, g4⟩, ⟨p0, p1, p2, p3, p4⟩, f1, f2, n01, n02, n12, l1, l2⟩ := HXX.out
    clear HS HCUR HC2 HFC HA HXX z0 z1 z2 z3 hbx HB hwx
    have f10 := f1 0
    have f11 := f1 1
    have f12 := f1 2
    have f13 := f1 3
    have f14 := f1 4
    have f20 := f2 0
    have f21 := f2 1
    have f22 := f2 2
    have f23 := f2 3
    simp only [Nat.zero_add] at g0 g1 g2 g3 g4 p0 p1 p2 p3 p4
    have H1 := hid hb1
    have H2 := hid hb2
    have H3 := hid hb3
    have l0 : b0 < wx.heap.size := World.block_lt_of_cell? wx _ v1
    clear f1 f2 h0 hnn hx hb1 hb2 hb3 nq nh
    go_wp2_with fail
    go_region_with (go_at_call 133; refine (HO.out _).mono ?_; rintro e wy ⟨rfl, rfl⟩)
    all_goals
      go_wp2_with fail
      go_region_with (go_at_call 133; refine (HO.out _).mono ?_; rintro e wy ⟨rfl, rfl⟩)
      all_goals
        clear HO
        go_wp2
        exact bodyPost_ret (v := .agg #[.int .u64 ((s.must ||| bitN x.head : Nat) : Int), .int .u64 ((s.may ||| bitN x.head : Nat) : Int), .int .i64 ((s.least : Int) + (Z : Int)), .int .i64 ((s.most : Int) + (Z : Int)), .bool s.there]) (by simp [results, Tryz.results102, go_sem, *]) rfl ⟨rfl, by
          (repeat (first | (with_reducible exact HBB.out) | (with_reducible refine bl_alloc ?_) | (with_reducible refine Below.drew ?_) | (with_reducible refine Below.setCell ?_ H1.out _) | (with_reducible refine Below.setCell ?_ H2.out _) | (with_reducible refine Below.setCell ?_ H3.out _)))⟩
end Go.Proofs.YtajelgjbgehahaaGreat
