/- (*machine).step. -/
import Derived.Test.YtmceifkjmknjcaaVReady
import Derived.Test.YtmceifkjmknjcaaVLoad
namespace Go.Proofs.Ytmceifkjmknjcaa
open Go.RowKit

/-- an instruction done: its code, the machine behind it; C: what a call does -/
def stepM (k : MK) (ts : List ShapeD) (C : MD → InsD → Int × MD) (m : MD) (x : InsD) : Int × MD :=
  if readyB ts m x = false then (15, m)
  else if x.op = 1 ∨ x.op = 2 ∨ x.op = 3 ∨ x.op = 4 ∨ x.op = 5 ∨ x.op = 7 ∨ x.op = 18 then (0, m.setR x.r.toNat (vmadeN k m x))
  else if x.op = 8 then (0, m.setS x.n.toNat (m.rn x.r.toNat) (m.rs x.r.toNat))
  else if x.op = 6 then (if roomB k.pk.n (m.rn x.s.toNat) (x.n.toNat + x.k.toNat) = true then (0, m.setR x.r.toNat (vnum (vloadL k (m.rn x.s.toNat + x.n.toNat) x.k.toNat))) else (16, m))
  else if x.op = 13 then C m x
  else if x.op = 14 then (0, m.send (vbytes (m.rn x.r.toNat) x.k.toNat))
  else if x.op = 15 then (if m.rn x.r.toNat ≤ k.pk.n then (0, m.send (k.zs.drop (m.rn x.r.toNat))) else (16, m))
  else (0, m)

/-- the packet as it lies -/
structure PkOk (W : World) (k : MK) : Prop where
  has : Has .u8 W k.pk.a k.pk.n k.zs
  nil : k.pk.nil0
  few : k.pk.n ≤ 600
  cap : k.pk.n ≤ k.pk.c
  port : k.port < 65536

/-- an instruction whose numbers may be -/
structure XFit (x : InsD) : Prop extends XOk x where
  n0 : 0 ≤ x.n ∧ x.n < 18446744073709551616
  ld : x.op = 6 → 1 ≤ x.k ∧ x.k ≤ 8 ∧ x.n ≤ 600
  pt : x.op = 14 → 1 ≤ x.k ∧ x.k ≤ 8

theorem vkeepP6 {w : World} {ib b p q : Nat} {v v' : Value} {o : Obj} {a1 a2 a3 a4 a5 a6 : Nat} {x1 x2 x3 x4 x5 x6 : Value} (hne : ib ≠ b) (h : w.cell? ⟨ib, a1, none⟩ = some x1 ∧ w.cell? ⟨ib, a2, none⟩ = some x2 ∧ w.cell? ⟨ib, a3, none⟩ = some x3 ∧ w.cell? ⟨ib, a4, none⟩ = some x4 ∧ w.cell? ⟨ib, a5, none⟩ = some x5 ∧ w.cell? ⟨ib, a6, none⟩ = some x6) :
    (((w.setCell ⟨b, p, none⟩ v).setCell ⟨b, q, none⟩ v').alloc o).cell? ⟨ib, a1, none⟩ = some x1 ∧ (((w.setCell ⟨b, p, none⟩ v).setCell ⟨b, q, none⟩ v').alloc o).cell? ⟨ib, a2, none⟩ = some x2 ∧ (((w.setCell ⟨b, p, none⟩ v).setCell ⟨b, q, none⟩ v').alloc o).cell? ⟨ib, a3, none⟩ = some x3 ∧ (((w.setCell ⟨b, p, none⟩ v).setCell ⟨b, q, none⟩ v').alloc o).cell? ⟨ib, a4, none⟩ = some x4 ∧ (((w.setCell ⟨b, p, none⟩ v).setCell ⟨b, q, none⟩ v').alloc o).cell? ⟨ib, a5, none⟩ = some x5 ∧ (((w.setCell ⟨b, p, none⟩ v).setCell ⟨b, q, none⟩ v').alloc o).cell? ⟨ib, a6, none⟩ = some x6 := by
  have key : ∀ {a : Nat} {x : Value}, w.cell? ⟨ib, a, none⟩ = some x → (((w.setCell ⟨b, p, none⟩ v).setCell ⟨b, q, none⟩ v').alloc o).cell? ⟨ib, a, none⟩ = some x := fun {a x} h =>
    cell_keep ((World.cell?_setCell_far _ _ _ _ (by exact fun e => hne e.symm)).trans ((World.cell?_setCell_far _ _ _ _ (by exact fun e => hne e.symm)).trans h)) (bl_alloc (Below.refl _ _))
  exact ⟨key h.1, key h.2.1, key h.2.2.1, key h.2.2.2.1, key h.2.2.2.2.1, key h.2.2.2.2.2⟩

theorem MAt.drew {W : World} {b : Nat} {k : MK} {m : MD} {w : World} (h : MAt W b k m w) : MAt W b k m w.drew := h.step (Below.refl _ _).drew

set_option maxHeartbeats 4000000 in
set_option maxRecDepth 20000 in
theorem vstep {W : World} {b : Nat} {k : MK} {m : MD} {w : World} (ts : List ShapeD) (C : MD → InsD → Int × MD) (h : MAt W b k m w) (hk : PkOk W k) (x : InsD) (hx : XFit x) (h13 : x.op ≠ 13) (hs : m.out.length ≤ 90000000) :
    Calls Try.prog 13 #[mptr b, x.v] w (MDone W b k (stepM k ts C m x).2 w (.int .i64 (stepM k ts C m x).1)) := by
  have hR := vready ts (w := w.alloc (.cells #[.int .i64 x.op, .int .i64 x.r, .int .i64 x.s, .int .i64 x.k, .int .i64 x.to, .int .u64 x.n] 40)) (h.step (bl_alloc (Below.refl _ _))) x hx.toXOk h13
  obtain ⟨op, r, s, kk, tt, n⟩ := x
  obtain ⟨⟨hr, hs', hn, hop⟩, hn0, hld, hpt⟩ := hx
  dsimp only at hr hs' hn h13 hop hn0 hld hpt hR
  replace hs' := hs'.resolve_left h13
  obtain ⟨r, rfl⟩ : ∃ i : Nat, r = i := ⟨r.toNat, by omega⟩
  obtain ⟨s, rfl⟩ : ∃ i : Nat, s = i := ⟨s.toNat, by omega⟩
  obtain ⟨n, rfl⟩ : ∃ i : Nat, n = i := ⟨n.toNat, by omega⟩
  dsimp only [InsD.v] at hR ⊢
  obtain ⟨W1, hW1⟩ : ∃ W1, W1 = w.alloc (.cells #[.int .i64 op, .int .i64 (r : Int), .int .i64 (s : Int), .int .i64 kk, .int .i64 tt, .int .u64 (n : Int)] 40) := ⟨_, rfl⟩
  obtain ⟨ib, hib⟩ : ∃ b, b = w.heap.size := ⟨_, rfl⟩
  have b1 : Below w.heap.size w W1 := by rw [hW1]; exact bl_alloc (Below.refl _ _)
  have IB : IBox ⟨op, r, s, kk, tt, n⟩ W1 ib := by rw [hW1, hib]; exact ibox_new ⟨op, r, s, kk, tt, n⟩ w
  rw [← hW1] at hR
  have HR := hid hR
  have HM := hid (h.step b1)
  have HIB := hid IB
  have HB := hid b1
  have EW := hid hW1
  have EB := hid hib
  obtain ⟨i0, i1, i2, i3, i4, i5⟩ := IB
  dsimp only at i0 i1 i2 i3 i4 i5
  have hil : ib < W1.heap.size := World.block_lt_of_cell? _ _ i0
  have hne : ib ≠ b := by
    have := h.lt
    omega
  have hri : (r : Int) < 10 := by omega
  generalize hS : stepM k ts C m ⟨op, r, s, kk, tt, n⟩ = S
  unfold stepM at hS
  dsimp only at hS
  rw [Int.toNat_natCast, Int.toNat_natCast, Int.toNat_natCast] at hS
  cases hq : readyB ts m ⟨op, r, s, kk, tt, n⟩ with
  | false =>
    rw [hq] at hS HR
    rw [if_pos rfl] at hS
    subst hS
    dsimp only
    clear hR hq h hk hW1 hib b1
    go_enter Try.func13, Try.ntmps13
    go_upto_region 1 with fail
    rw [← EW.out, ← EB.out]
    clear EW EB
    go_wp2_with fail
    refine HR.out.mono ?_
    rintro e w2 ⟨rfl, hb2⟩
    have HD : Hid (MDone W b k m w (.int .i64 15) (.returned (.int .i64 15)) w2) := ⟨rfl, HM.out.step hb2, GFram.below (bl_step HB.out hb2)⟩
    clear hb2 HR
    go_wp2
    go_ret
    exact HD.out
  | true =>
    rw [hq] at hS HR
    rw [if_neg (by decide)] at hS
    clear hR hq hW1 hib b1
    -- behind isReady: a world w2
    have HK : Hid (∀ w2, Below W1.heap.size W1 w2 → w2.cell? ⟨ib, 0, none⟩ = some (.int .i64 op) ∧ w2.cell? ⟨ib, 1, none⟩ = some (.int .i64 (r : Int)) ∧ w2.cell? ⟨ib, 2, none⟩ = some (.int .i64 (s : Int)) ∧ w2.cell? ⟨ib, 3, none⟩ = some (.int .i64 kk) ∧ w2.cell? ⟨ib, 4, none⟩ = some (.int .i64 tt) ∧ w2.cell? ⟨ib, 5, none⟩ = some (.int .u64 (n : Int)) ∧ ib < w2.heap.size ∧ MAt W b k m w2) := fun w2 hb => ⟨cell_keep i0 hb, cell_keep i1 hb, cell_keep i2 hb, cell_keep i3 hb, cell_keep i4 hb, cell_keep i5 hb, Nat.lt_of_lt_of_le hil hb.size, HM.out.step hb⟩
    have HFL := hid (fun n w => vfilled n w)
    by_cases q1 : op = 1 ∨ op = 2 ∨ op = 3 ∨ op = 4 ∨ op = 5 ∨ op = 7 ∨ op = 18
    · rw [if_pos q1] at hS
      subst hS
      dsimp only
      have HMD : Hid (∀ w2, MAt W b k m w2 → Calls Try.prog 22 #[mptr b, .agg #[.int .i64 op, .int .i64 (r : Int), .int .i64 (s : Int), .int .i64 kk, .int .i64 tt, .int .u64 (n : Int)]] w2 fun e w' => e = .returned (.int .u64 (vmadeN k m ⟨op, r, s, kk, tt, n⟩ : Int)) ∧ Below w2.heap.size w2 w') := fun w2 h2 => vmade h2 ⟨op, r, s, kk, tt, n⟩ hr hs' (by show (0 : Int) ≤ (n : Int); omega) (fun h7 => (hn (.inl h7)).2) q1
      have hvl := vmade_lt h ⟨op, r, s, kk, tt, n⟩ hn0 (by have := hk.port; omega)
      generalize vmadeN k m ⟨op, r, s, kk, tt, n⟩ = V at *
      have HVL := hid hvl
      have HMS : Hid (∀ w2 : World, MAt W b k m w2 → Below W1.heap.size W1 w2 → ∀ o, MDone W b k (m.setR r V) w (.int .i64 0) (.returned (.int .i64 0)) (((w2.setCell ⟨b, r * 2, none⟩ (.int .u64 (V : Int))).setCell ⟨b, r * 2 + 1, none⟩ (.bool true)).alloc o)) := fun w2 h2 hz o => ⟨rfl, (h2.putR (by omega) hvl).step (bl_alloc (Below.refl _ _)), (GFram.below (bl_step HB.out hz)).trans (((GFram.put _ _).trans (GFram.put _ _)).trans (GFram.below (bl_alloc (Below.refl _ _))))⟩
      clear hvl h hk hn hld hpt i0 i1 i2 i3 i4 i5 hil
      rcases q1 with rfl | rfl | rfl | rfl | rfl | rfl | rfl
      · go_enter Try.func13, Try.ntmps13
        go_upto_region 1 with fail
        rw [← EW.out, ← EB.out]
        clear EW EB
        have j0 := HIB.out.c0
        have j1 := HIB.out.c1
        have j2 := HIB.out.c2
        have j3 := HIB.out.c3
        have j4 := HIB.out.c4
        have j5 := HIB.out.c5
        dsimp only at j0 j1 j2 j3 j4 j5
        go_wp2_with fail
        refine HR.out.mono ?_
        rintro e w2 ⟨rfl, hb2⟩
        obtain ⟨i0, i1, i2, i3, i4, i5, hil, hm2⟩ := HK.out w2 hb2
        have HMW := hid hm2.drew
        have HMD2 := hid (HMD.out _ hm2.drew)
        have HKX : Hid (∀ wx, Below w2.drew.heap.size w2.drew wx → wx.cell? ⟨ib, 0, none⟩ = some (.int .i64 1) ∧ wx.cell? ⟨ib, 1, none⟩ = some (.int .i64 (r : Int)) ∧ wx.cell? ⟨ib, 2, none⟩ = some (.int .i64 (s : Int)) ∧ wx.cell? ⟨ib, 3, none⟩ = some (.int .i64 kk) ∧ wx.cell? ⟨ib, 4, none⟩ = some (.int .i64 tt) ∧ wx.cell? ⟨ib, 5, none⟩ = some (.int .u64 (n : Int)) ∧ ib < wx.heap.size ∧ wx.cell? ⟨b, r * 2, none⟩ = some (.int .u64 (m.rn r : Int)) ∧ wx.cell? ⟨b, r * 2 + 1, none⟩ = some (.bool (m.rs r)) ∧ wx.frozen? ⟨b, r * 2, none⟩ = false ∧ wx.frozen? ⟨b, r * 2 + 1, none⟩ = false ∧ b < wx.heap.size ∧ Hid (∀ o, MDone W b k (m.setR r V) w (.int .i64 0) (.returned (.int .i64 0)) (((wx.setCell ⟨b, r * 2, none⟩ (.int .u64 (V : Int))).setCell ⟨b, r * 2 + 1, none⟩ (.bool true)).alloc o))) := fun wx hb => by
          have hbx : Below W1.heap.size W1 wx := bl_step (bl_step hb2 (Below.refl w2.heap.size w2).drew) hb
          obtain ⟨k0, k1, k2, k3, k4, k5, kl, km⟩ := HK.out wx hbx
          exact ⟨k0, k1, k2, k3, k4, k5, kl, km.rn r (by omega), km.rs r (by omega), km.fz _, km.fz _, km.lt, HMS.out wx km hbx⟩
        clear j0 j1 j2 j3 j4 j5 HR HMD HMS hb2 hm2 HK HM
        go_wp2_with fail
        go_region_held3 (fun w' => w'.cell? ⟨ib, 0, none⟩ = some (.int .i64 1) ∧ w'.cell? ⟨ib, 1, none⟩ = some (.int .i64 (r : Int)) ∧ w'.cell? ⟨ib, 2, none⟩ = some (.int .i64 (s : Int)) ∧ w'.cell? ⟨ib, 3, none⟩ = some (.int .i64 kk) ∧ w'.cell? ⟨ib, 4, none⟩ = some (.int .i64 tt) ∧ w'.cell? ⟨ib, 5, none⟩ = some (.int .u64 (n : Int)))
          (first
            | go_keep
            | (go_split_ands; with_reducible exact vkeep6 ⟨by assumption, by assumption, by assumption, by assumption, by assumption, by assumption⟩ hbx)
            | (go_split_ands; exact vkeepP6 hne ⟨by assumption, by assumption, by assumption, by assumption, by assumption, by assumption⟩))
          (first
            | (go_at_call 22; refine HMD2.out.mono ?_; rintro e wx ⟨rfl, hbx⟩; obtain ⟨x0, x1, x2, x3, x4, x5, y2, y3, y4, y5, y6, y7, HDX⟩ := HKX.out wx hbx)
            | (go_at_call 21; refine (HFL.out _ _).mono ?_; rintro e wy ⟨rfl, rfl⟩))
        all_goals
          clear x0 x1 x2 x3 x4 x5 y2 y3 y4 y5 y6 y7
          go_wp2
          go_ret
          exact HDX.out _
      · go_enter Try.func13, Try.ntmps13
        go_upto_region 1 with fail
        rw [← EW.out, ← EB.out]
        clear EW EB
        have j0 := HIB.out.c0
        have j1 := HIB.out.c1
        have j2 := HIB.out.c2
        have j3 := HIB.out.c3
        have j4 := HIB.out.c4
        have j5 := HIB.out.c5
        dsimp only at j0 j1 j2 j3 j4 j5
        go_wp2_with fail
        refine HR.out.mono ?_
        rintro e w2 ⟨rfl, hb2⟩
        obtain ⟨i0, i1, i2, i3, i4, i5, hil, hm2⟩ := HK.out w2 hb2
        have HMW := hid hm2.drew
        have HMD2 := hid (HMD.out _ hm2.drew)
        have HKX : Hid (∀ wx, Below w2.drew.heap.size w2.drew wx → wx.cell? ⟨ib, 0, none⟩ = some (.int .i64 2) ∧ wx.cell? ⟨ib, 1, none⟩ = some (.int .i64 (r : Int)) ∧ wx.cell? ⟨ib, 2, none⟩ = some (.int .i64 (s : Int)) ∧ wx.cell? ⟨ib, 3, none⟩ = some (.int .i64 kk) ∧ wx.cell? ⟨ib, 4, none⟩ = some (.int .i64 tt) ∧ wx.cell? ⟨ib, 5, none⟩ = some (.int .u64 (n : Int)) ∧ ib < wx.heap.size ∧ wx.cell? ⟨b, r * 2, none⟩ = some (.int .u64 (m.rn r : Int)) ∧ wx.cell? ⟨b, r * 2 + 1, none⟩ = some (.bool (m.rs r)) ∧ wx.frozen? ⟨b, r * 2, none⟩ = false ∧ wx.frozen? ⟨b, r * 2 + 1, none⟩ = false ∧ b < wx.heap.size ∧ Hid (∀ o, MDone W b k (m.setR r V) w (.int .i64 0) (.returned (.int .i64 0)) (((wx.setCell ⟨b, r * 2, none⟩ (.int .u64 (V : Int))).setCell ⟨b, r * 2 + 1, none⟩ (.bool true)).alloc o))) := fun wx hb => by
          have hbx : Below W1.heap.size W1 wx := bl_step (bl_step hb2 (Below.refl w2.heap.size w2).drew) hb
          obtain ⟨k0, k1, k2, k3, k4, k5, kl, km⟩ := HK.out wx hbx
          exact ⟨k0, k1, k2, k3, k4, k5, kl, km.rn r (by omega), km.rs r (by omega), km.fz _, km.fz _, km.lt, HMS.out wx km hbx⟩
        clear j0 j1 j2 j3 j4 j5 HR HMD HMS hb2 hm2 HK HM
        go_wp2_with fail
        go_region_held3 (fun w' => w'.cell? ⟨ib, 0, none⟩ = some (.int .i64 2) ∧ w'.cell? ⟨ib, 1, none⟩ = some (.int .i64 (r : Int)) ∧ w'.cell? ⟨ib, 2, none⟩ = some (.int .i64 (s : Int)) ∧ w'.cell? ⟨ib, 3, none⟩ = some (.int .i64 kk) ∧ w'.cell? ⟨ib, 4, none⟩ = some (.int .i64 tt) ∧ w'.cell? ⟨ib, 5, none⟩ = some (.int .u64 (n : Int)))
          (first
            | go_keep
            | (go_split_ands; with_reducible exact vkeep6 ⟨by assumption, by assumption, by assumption, by assumption, by assumption, by assumption⟩ hbx)
            | (go_split_ands; exact vkeepP6 hne ⟨by assumption, by assumption, by assumption, by assumption, by assumption, by assumption⟩))
          (first
            | (go_at_call 22; refine HMD2.out.mono ?_; rintro e wx ⟨rfl, hbx⟩; obtain ⟨x0, x1, x2, x3, x4, x5, y2, y3, y4, y5, y6, y7, HDX⟩ := HKX.out wx hbx)
            | (go_at_call 21; refine (HFL.out _ _).mono ?_; rintro e wy ⟨rfl, rfl⟩))
        all_goals
          clear x0 x1 x2 x3 x4 x5 y2 y3 y4 y5 y6 y7
          go_wp2
          go_ret
          exact HDX.out _
      · go_enter Try.func13, Try.ntmps13
        go_upto_region 1 with fail
        rw [← EW.out, ← EB.out]
        clear EW EB
        have j0 := HIB.out.c0
        have j1 := HIB.out.c1
        have j2 := HIB.out.c2
        have j3 := HIB.out.c3
        have j4 := HIB.out.c4
        have j5 := HIB.out.c5
        dsimp only at j0 j1 j2 j3 j4 j5
        go_wp2_with fail
        refine HR.out.mono ?_
        rintro e w2 ⟨rfl, hb2⟩
        obtain ⟨i0, i1, i2, i3, i4, i5, hil, hm2⟩ := HK.out w2 hb2
        have HMW := hid hm2.drew
        have HMD2 := hid (HMD.out _ hm2.drew)
        have HKX : Hid (∀ wx, Below w2.drew.heap.size w2.drew wx → wx.cell? ⟨ib, 0, none⟩ = some (.int .i64 3) ∧ wx.cell? ⟨ib, 1, none⟩ = some (.int .i64 (r : Int)) ∧ wx.cell? ⟨ib, 2, none⟩ = some (.int .i64 (s : Int)) ∧ wx.cell? ⟨ib, 3, none⟩ = some (.int .i64 kk) ∧ wx.cell? ⟨ib, 4, none⟩ = some (.int .i64 tt) ∧ wx.cell? ⟨ib, 5, none⟩ = some (.int .u64 (n : Int)) ∧ ib < wx.heap.size ∧ wx.cell? ⟨b, r * 2, none⟩ = some (.int .u64 (m.rn r : Int)) ∧ wx.cell? ⟨b, r * 2 + 1, none⟩ = some (.bool (m.rs r)) ∧ wx.frozen? ⟨b, r * 2, none⟩ = false ∧ wx.frozen? ⟨b, r * 2 + 1, none⟩ = false ∧ b < wx.heap.size ∧ Hid (∀ o, MDone W b k (m.setR r V) w (.int .i64 0) (.returned (.int .i64 0)) (((wx.setCell ⟨b, r * 2, none⟩ (.int .u64 (V : Int))).setCell ⟨b, r * 2 + 1, none⟩ (.bool true)).alloc o))) := fun wx hb => by
          have hbx : Below W1.heap.size W1 wx := bl_step (bl_step hb2 (Below.refl w2.heap.size w2).drew) hb
          obtain ⟨k0, k1, k2, k3, k4, k5, kl, km⟩ := HK.out wx hbx
          exact ⟨k0, k1, k2, k3, k4, k5, kl, km.rn r (by omega), km.rs r (by omega), km.fz _, km.fz _, km.lt, HMS.out wx km hbx⟩
        clear j0 j1 j2 j3 j4 j5 HR HMD HMS hb2 hm2 HK HM
        go_wp2_with fail
        go_region_held3 (fun w' => w'.cell? ⟨ib, 0, none⟩ = some (.int .i64 3) ∧ w'.cell? ⟨ib, 1, none⟩ = some (.int .i64 (r : Int)) ∧ w'.cell? ⟨ib, 2, none⟩ = some (.int .i64 (s : Int)) ∧ w'.cell? ⟨ib, 3, none⟩ = some (.int .i64 kk) ∧ w'.cell? ⟨ib, 4, none⟩ = some (.int .i64 tt) ∧ w'.cell? ⟨ib, 5, none⟩ = some (.int .u64 (n : Int)))
          (first
            | go_keep
            | (go_split_ands; with_reducible exact vkeep6 ⟨by assumption, by assumption, by assumption, by assumption, by assumption, by assumption⟩ hbx)
            | (go_split_ands; exact vkeepP6 hne ⟨by assumption, by assumption, by assumption, by assumption, by assumption, by assumption⟩))
          (first
            | (go_at_call 22; refine HMD2.out.mono ?_; rintro e wx ⟨rfl, hbx⟩; obtain ⟨x0, x1, x2, x3, x4, x5, y2, y3, y4, y5, y6, y7, HDX⟩ := HKX.out wx hbx)
            | (go_at_call 21; refine (HFL.out _ _).mono ?_; rintro e wy ⟨rfl, rfl⟩))
        all_goals
          clear x0 x1 x2 x3 x4 x5 y2 y3 y4 y5 y6 y7
          go_wp2
          go_ret
          exact HDX.out _
      · go_enter Try.func13, Try.ntmps13
        go_upto_region 1 with fail
        rw [← EW.out, ← EB.out]
        clear EW EB
        have j0 := HIB.out.c0
        have j1 := HIB.out.c1
        have j2 := HIB.out.c2
        have j3 := HIB.out.c3
        have j4 := HIB.out.c4
        have j5 := HIB.out.c5
        dsimp only at j0 j1 j2 j3 j4 j5
        go_wp2_with fail
        refine HR.out.mono ?_
        rintro e w2 ⟨rfl, hb2⟩
        obtain ⟨i0, i1, i2, i3, i4, i5, hil, hm2⟩ := HK.out w2 hb2
        have HMW := hid hm2.drew
        have HMD2 := hid (HMD.out _ hm2.drew)
        have HKX : Hid (∀ wx, Below w2.drew.heap.size w2.drew wx → wx.cell? ⟨ib, 0, none⟩ = some (.int .i64 4) ∧ wx.cell? ⟨ib, 1, none⟩ = some (.int .i64 (r : Int)) ∧ wx.cell? ⟨ib, 2, none⟩ = some (.int .i64 (s : Int)) ∧ wx.cell? ⟨ib, 3, none⟩ = some (.int .i64 kk) ∧ wx.cell? ⟨ib, 4, none⟩ = some (.int .i64 tt) ∧ wx.cell? ⟨ib, 5, none⟩ = some (.int .u64 (n : Int)) ∧ ib < wx.heap.size ∧ wx.cell? ⟨b, r * 2, none⟩ = some (.int .u64 (m.rn r : Int)) ∧ wx.cell? ⟨b, r * 2 + 1, none⟩ = some (.bool (m.rs r)) ∧ wx.frozen? ⟨b, r * 2, none⟩ = false ∧ wx.frozen? ⟨b, r * 2 + 1, none⟩ = false ∧ b < wx.heap.size ∧ Hid (∀ o, MDone W b k (m.setR r V) w (.int .i64 0) (.returned (.int .i64 0)) (((wx.setCell ⟨b, r * 2, none⟩ (.int .u64 (V : Int))).setCell ⟨b, r * 2 + 1, none⟩ (.bool true)).alloc o))) := fun wx hb => by
          have hbx : Below W1.heap.size W1 wx := bl_step (bl_step hb2 (Below.refl w2.heap.size w2).drew) hb
          obtain ⟨k0, k1, k2, k3, k4, k5, kl, km⟩ := HK.out wx hbx
          exact ⟨k0, k1, k2, k3, k4, k5, kl, km.rn r (by omega), km.rs r (by omega), km.fz _, km.fz _, km.lt, HMS.out wx km hbx⟩
        clear j0 j1 j2 j3 j4 j5 HR HMD HMS hb2 hm2 HK HM
        go_wp2_with fail
        go_region_held3 (fun w' => w'.cell? ⟨ib, 0, none⟩ = some (.int .i64 4) ∧ w'.cell? ⟨ib, 1, none⟩ = some (.int .i64 (r : Int)) ∧ w'.cell? ⟨ib, 2, none⟩ = some (.int .i64 (s : Int)) ∧ w'.cell? ⟨ib, 3, none⟩ = some (.int .i64 kk) ∧ w'.cell? ⟨ib, 4, none⟩ = some (.int .i64 tt) ∧ w'.cell? ⟨ib, 5, none⟩ = some (.int .u64 (n : Int)))
          (first
            | go_keep
            | (go_split_ands; with_reducible exact vkeep6 ⟨by assumption, by assumption, by assumption, by assumption, by assumption, by assumption⟩ hbx)
            | (go_split_ands; exact vkeepP6 hne ⟨by assumption, by assumption, by assumption, by assumption, by assumption, by assumption⟩))
          (first
            | (go_at_call 22; refine HMD2.out.mono ?_; rintro e wx ⟨rfl, hbx⟩; obtain ⟨x0, x1, x2, x3, x4, x5, y2, y3, y4, y5, y6, y7, HDX⟩ := HKX.out wx hbx)
            | (go_at_call 21; refine (HFL.out _ _).mono ?_; rintro e wy ⟨rfl, rfl⟩))
        all_goals
          clear x0 x1 x2 x3 x4 x5 y2 y3 y4 y5 y6 y7
          go_wp2
          go_ret
          exact HDX.out _
      · go_enter Try.func13, Try.ntmps13
        go_upto_region 1 with fail
        rw [← EW.out, ← EB.out]
        clear EW EB
        have j0 := HIB.out.c0
        have j1 := HIB.out.c1
        have j2 := HIB.out.c2
        have j3 := HIB.out.c3
        have j4 := HIB.out.c4
        have j5 := HIB.out.c5
        dsimp only at j0 j1 j2 j3 j4 j5
        go_wp2_with fail
        refine HR.out.mono ?_
        rintro e w2 ⟨rfl, hb2⟩
        obtain ⟨i0, i1, i2, i3, i4, i5, hil, hm2⟩ := HK.out w2 hb2
        have HMW := hid hm2.drew
        have HMD2 := hid (HMD.out _ hm2.drew)
        have HKX : Hid (∀ wx, Below w2.drew.heap.size w2.drew wx → wx.cell? ⟨ib, 0, none⟩ = some (.int .i64 5) ∧ wx.cell? ⟨ib, 1, none⟩ = some (.int .i64 (r : Int)) ∧ wx.cell? ⟨ib, 2, none⟩ = some (.int .i64 (s : Int)) ∧ wx.cell? ⟨ib, 3, none⟩ = some (.int .i64 kk) ∧ wx.cell? ⟨ib, 4, none⟩ = some (.int .i64 tt) ∧ wx.cell? ⟨ib, 5, none⟩ = some (.int .u64 (n : Int)) ∧ ib < wx.heap.size ∧ wx.cell? ⟨b, r * 2, none⟩ = some (.int .u64 (m.rn r : Int)) ∧ wx.cell? ⟨b, r * 2 + 1, none⟩ = some (.bool (m.rs r)) ∧ wx.frozen? ⟨b, r * 2, none⟩ = false ∧ wx.frozen? ⟨b, r * 2 + 1, none⟩ = false ∧ b < wx.heap.size ∧ Hid (∀ o, MDone W b k (m.setR r V) w (.int .i64 0) (.returned (.int .i64 0)) (((wx.setCell ⟨b, r * 2, none⟩ (.int .u64 (V : Int))).setCell ⟨b, r * 2 + 1, none⟩ (.bool true)).alloc o))) := fun wx hb => by
          have hbx : Below W1.heap.size W1 wx := bl_step (bl_step hb2 (Below.refl w2.heap.size w2).drew) hb
          obtain ⟨k0, k1, k2, k3, k4, k5, kl, km⟩ := HK.out wx hbx
          exact ⟨k0, k1, k2, k3, k4, k5, kl, km.rn r (by omega), km.rs r (by omega), km.fz _, km.fz _, km.lt, HMS.out wx km hbx⟩
        clear j0 j1 j2 j3 j4 j5 HR HMD HMS hb2 hm2 HK HM
        go_wp2_with fail
        go_region_held3 (fun w' => w'.cell? ⟨ib, 0, none⟩ = some (.int .i64 5) ∧ w'.cell? ⟨ib, 1, none⟩ = some (.int .i64 (r : Int)) ∧ w'.cell? ⟨ib, 2, none⟩ = some (.int .i64 (s : Int)) ∧ w'.cell? ⟨ib, 3, none⟩ = some (.int .i64 kk) ∧ w'.cell? ⟨ib, 4, none⟩ = some (.int .i64 tt) ∧ w'.cell? ⟨ib, 5, none⟩ = some (.int .u64 (n : Int)))
          (first
            | go_keep
            | (go_split_ands; with_reducible exact vkeep6 ⟨by assumption, by assumption, by assumption, by assumption, by assumption, by assumption⟩ hbx)
            | (go_split_ands; exact vkeepP6 hne ⟨by assumption, by assumption, by assumption, by assumption, by assumption, by assumption⟩))
          (first
            | (go_at_call 22; refine HMD2.out.mono ?_; rintro e wx ⟨rfl, hbx⟩; obtain ⟨x0, x1, x2, x3, x4, x5, y2, y3, y4, y5, y6, y7, HDX⟩ := HKX.out wx hbx)
            | (go_at_call 21; refine (HFL.out _ _).mono ?_; rintro e wy ⟨rfl, rfl⟩))
        all_goals
          clear x0 x1 x2 x3 x4 x5 y2 y3 y4 y5 y6 y7
          go_wp2
          go_ret
          exact HDX.out _
      · go_enter Try.func13, Try.ntmps13
        go_upto_region 1 with fail
        rw [← EW.out, ← EB.out]
        clear EW EB
        have j0 := HIB.out.c0
        have j1 := HIB.out.c1
        have j2 := HIB.out.c2
        have j3 := HIB.out.c3
        have j4 := HIB.out.c4
        have j5 := HIB.out.c5
        dsimp only at j0 j1 j2 j3 j4 j5
        go_wp2_with fail
        refine HR.out.mono ?_
        rintro e w2 ⟨rfl, hb2⟩
        obtain ⟨i0, i1, i2, i3, i4, i5, hil, hm2⟩ := HK.out w2 hb2
        have HMW := hid hm2.drew
        have HMD2 := hid (HMD.out _ hm2.drew)
        have HKX : Hid (∀ wx, Below w2.drew.heap.size w2.drew wx → wx.cell? ⟨ib, 0, none⟩ = some (.int .i64 7) ∧ wx.cell? ⟨ib, 1, none⟩ = some (.int .i64 (r : Int)) ∧ wx.cell? ⟨ib, 2, none⟩ = some (.int .i64 (s : Int)) ∧ wx.cell? ⟨ib, 3, none⟩ = some (.int .i64 kk) ∧ wx.cell? ⟨ib, 4, none⟩ = some (.int .i64 tt) ∧ wx.cell? ⟨ib, 5, none⟩ = some (.int .u64 (n : Int)) ∧ ib < wx.heap.size ∧ wx.cell? ⟨b, r * 2, none⟩ = some (.int .u64 (m.rn r : Int)) ∧ wx.cell? ⟨b, r * 2 + 1, none⟩ = some (.bool (m.rs r)) ∧ wx.frozen? ⟨b, r * 2, none⟩ = false ∧ wx.frozen? ⟨b, r * 2 + 1, none⟩ = false ∧ b < wx.heap.size ∧ Hid (∀ o, MDone W b k (m.setR r V) w (.int .i64 0) (.returned (.int .i64 0)) (((wx.setCell ⟨b, r * 2, none⟩ (.int .u64 (V : Int))).setCell ⟨b, r * 2 + 1, none⟩ (.bool true)).alloc o))) := fun wx hb => by
          have hbx : Below W1.heap.size W1 wx := bl_step (bl_step hb2 (Below.refl w2.heap.size w2).drew) hb
          obtain ⟨k0, k1, k2, k3, k4, k5, kl, km⟩ := HK.out wx hbx
          exact ⟨k0, k1, k2, k3, k4, k5, kl, km.rn r (by omega), km.rs r (by omega), km.fz _, km.fz _, km.lt, HMS.out wx km hbx⟩
        clear j0 j1 j2 j3 j4 j5 HR HMD HMS hb2 hm2 HK HM
        go_wp2_with fail
        go_region_held3 (fun w' => w'.cell? ⟨ib, 0, none⟩ = some (.int .i64 7) ∧ w'.cell? ⟨ib, 1, none⟩ = some (.int .i64 (r : Int)) ∧ w'.cell? ⟨ib, 2, none⟩ = some (.int .i64 (s : Int)) ∧ w'.cell? ⟨ib, 3, none⟩ = some (.int .i64 kk) ∧ w'.cell? ⟨ib, 4, none⟩ = some (.int .i64 tt) ∧ w'.cell? ⟨ib, 5, none⟩ = some (.int .u64 (n : Int)))
          (first
            | go_keep
            | (go_split_ands; with_reducible exact vkeep6 ⟨by assumption, by assumption, by assumption, by assumption, by assumption, by assumption⟩ hbx)
            | (go_split_ands; exact vkeepP6 hne ⟨by assumption, by assumption, by assumption, by assumption, by assumption, by assumption⟩))
          (first
            | (go_at_call 22; refine HMD2.out.mono ?_; rintro e wx ⟨rfl, hbx⟩; obtain ⟨x0, x1, x2, x3, x4, x5, y2, y3, y4, y5, y6, y7, HDX⟩ := HKX.out wx hbx)
            | (go_at_call 21; refine (HFL.out _ _).mono ?_; rintro e wy ⟨rfl, rfl⟩))
        all_goals
          clear x0 x1 x2 x3 x4 x5 y2 y3 y4 y5 y6 y7
          go_wp2
          go_ret
          exact HDX.out _
      · go_enter Try.func13, Try.ntmps13
        go_upto_region 1 with fail
        rw [← EW.out, ← EB.out]
        clear EW EB
        have j0 := HIB.out.c0
        have j1 := HIB.out.c1
        have j2 := HIB.out.c2
        have j3 := HIB.out.c3
        have j4 := HIB.out.c4
        have j5 := HIB.out.c5
        dsimp only at j0 j1 j2 j3 j4 j5
        go_wp2_with fail
        refine HR.out.mono ?_
        rintro e w2 ⟨rfl, hb2⟩
        obtain ⟨i0, i1, i2, i3, i4, i5, hil, hm2⟩ := HK.out w2 hb2
        have HMW := hid hm2.drew
        have HMD2 := hid (HMD.out _ hm2.drew)
        have HKX : Hid (∀ wx, Below w2.drew.heap.size w2.drew wx → wx.cell? ⟨ib, 0, none⟩ = some (.int .i64 18) ∧ wx.cell? ⟨ib, 1, none⟩ = some (.int .i64 (r : Int)) ∧ wx.cell? ⟨ib, 2, none⟩ = some (.int .i64 (s : Int)) ∧ wx.cell? ⟨ib, 3, none⟩ = some (.int .i64 kk) ∧ wx.cell? ⟨ib, 4, none⟩ = some (.int .i64 tt) ∧ wx.cell? ⟨ib, 5, none⟩ = some (.int .u64 (n : Int)) ∧ ib < wx.heap.size ∧ wx.cell? ⟨b, r * 2, none⟩ = some (.int .u64 (m.rn r : Int)) ∧ wx.cell? ⟨b, r * 2 + 1, none⟩ = some (.bool (m.rs r)) ∧ wx.frozen? ⟨b, r * 2, none⟩ = false ∧ wx.frozen? ⟨b, r * 2 + 1, none⟩ = false ∧ b < wx.heap.size ∧ Hid (∀ o, MDone W b k (m.setR r V) w (.int .i64 0) (.returned (.int .i64 0)) (((wx.setCell ⟨b, r * 2, none⟩ (.int .u64 (V : Int))).setCell ⟨b, r * 2 + 1, none⟩ (.bool true)).alloc o))) := fun wx hb => by
          have hbx : Below W1.heap.size W1 wx := bl_step (bl_step hb2 (Below.refl w2.heap.size w2).drew) hb
          obtain ⟨k0, k1, k2, k3, k4, k5, kl, km⟩ := HK.out wx hbx
          exact ⟨k0, k1, k2, k3, k4, k5, kl, km.rn r (by omega), km.rs r (by omega), km.fz _, km.fz _, km.lt, HMS.out wx km hbx⟩
        clear j0 j1 j2 j3 j4 j5 HR HMD HMS hb2 hm2 HK HM
        go_wp2_with fail
        go_region_held3 (fun w' => w'.cell? ⟨ib, 0, none⟩ = some (.int .i64 18) ∧ w'.cell? ⟨ib, 1, none⟩ = some (.int .i64 (r : Int)) ∧ w'.cell? ⟨ib, 2, none⟩ = some (.int .i64 (s : Int)) ∧ w'.cell? ⟨ib, 3, none⟩ = some (.int .i64 kk) ∧ w'.cell? ⟨ib, 4, none⟩ = some (.int .i64 tt) ∧ w'.cell? ⟨ib, 5, none⟩ = some (.int .u64 (n : Int)))
          (first
            | go_keep
            | (go_split_ands; with_reducible exact vkeep6 ⟨by assumption, by assumption, by assumption, by assumption, by assumption, by assumption⟩ hbx)
            | (go_split_ands; exact vkeepP6 hne ⟨by assumption, by assumption, by assumption, by assumption, by assumption, by assumption⟩))
          (first
            | (go_at_call 22; refine HMD2.out.mono ?_; rintro e wx ⟨rfl, hbx⟩; obtain ⟨x0, x1, x2, x3, x4, x5, y2, y3, y4, y5, y6, y7, HDX⟩ := HKX.out wx hbx)
            | (go_at_call 21; refine (HFL.out _ _).mono ?_; rintro e wy ⟨rfl, rfl⟩))
        all_goals
          clear x0 x1 x2 x3 x4 x5 y2 y3 y4 y5 y6 y7
          go_wp2
          go_ret
          exact HDX.out _
    · rw [if_neg q1] at hS
      by_cases q8 : op = 8
      · rw [if_pos q8] at hS
        subst hS
        subst q8
        dsimp only
        have hn8 := hn (.inr rfl)
        have hni : (n : Int) < 96 := by omega
        clear h hk hld hpt i0 i1 i2 i3 i4 i5 hil q1 hn
        go_enter Try.func13, Try.ntmps13
        go_upto_region 1 with fail
        rw [← EW.out, ← EB.out]
        clear EW EB
        have j0 := HIB.out.c0
        have j1 := HIB.out.c1
        have j2 := HIB.out.c2
        have j3 := HIB.out.c3
        have j4 := HIB.out.c4
        have j5 := HIB.out.c5
        dsimp only at j0 j1 j2 j3 j4 j5
        go_wp2_with fail
        refine HR.out.mono ?_
        rintro e w2 ⟨rfl, hb2⟩
        obtain ⟨i0, i1, i2, i3, i4, i5, hil, hm2⟩ := HK.out w2 hb2
        have HB2 := hid (bl_step HB.out hb2)
        clear j0 j1 j2 j3 j4 j5 HR
        have r0 := hm2.rn r (by omega)
        have r1 := hm2.rs r (by omega)
        have s0 := hm2.sn n (by omega)
        have s1 := hm2.ss n (by omega)
        have z0 := hm2.fz (20 + n * 2)
        have z1 := hm2.fz (20 + n * 2 + 1)
        have hbl := hm2.lt
        have HD : Hid (MDone W b k (m.setS n (m.rn r) (m.rs r)) w (.int .i64 0) (.returned (.int .i64 0)) (((w2.setCell ⟨b, 20 + n * 2, none⟩ (.int .u64 (m.rn r : Int))).setCell ⟨b, 20 + n * 2 + 1, none⟩ (.bool (m.rs r)))).drew) := ⟨rfl, (hm2.putS (by omega) (hm2.ok.1 r)).drew, (GFram.below HB2.out).trans (((GFram.put _ _).trans (GFram.put _ _)).trans (GFram.below (Below.refl _ _).drew))⟩
        clear hb2 hm2 HK HM hn8
        generalize m.rn r = X at *
        generalize m.rs r = Y at *
        go_wp2_with fail
        go_region_law (fail)
        all_goals
          go_wp2
          go_ret
          exact HD.out
      rw [if_neg q8] at hS
      by_cases q6 : op = 6
      · rw [if_pos q6] at hS
        have hL : Hid (∀ w2, MAt W b k m w2 → Calls Try.prog 23 #[mptr b, .agg #[.int .i64 op, .int .i64 (r : Int), .int .i64 (s : Int), .int .i64 kk, .int .i64 tt, .int .u64 (n : Int)]] w2 (MDone W b k S.2 w2 (.int .i64 S.1))) := fun w2 h2 => by
          have hl6 := hld q6
          have := vload h2 hk.has hk.few hk.cap ⟨op, r, s, kk, tt, n⟩ hr hs' ⟨by show (0 : Int) ≤ (n : Int); omega, hl6.2.2⟩ ⟨hl6.1, hl6.2.1⟩
          dsimp only at this
          rw [Int.toNat_natCast, Int.toNat_natCast, Int.toNat_natCast] at this
          rw [← hS]
          split
          · rename_i hq
            rw [if_pos hq, if_pos hq] at this
            exact this
          · rename_i hq
            rw [if_neg hq, if_neg hq] at this
            exact this
        subst q6
        clear h hk hld hpt i0 i1 i2 i3 i4 i5 hil q1 hn q8 hS
        obtain ⟨c, m'⟩ := S
        dsimp only at hL ⊢
        go_enter Try.func13, Try.ntmps13
        go_upto_region 1 with fail
        rw [← EW.out, ← EB.out]
        clear EW EB
        have j0 := HIB.out.c0
        have j1 := HIB.out.c1
        have j2 := HIB.out.c2
        have j3 := HIB.out.c3
        have j4 := HIB.out.c4
        have j5 := HIB.out.c5
        dsimp only at j0 j1 j2 j3 j4 j5
        go_wp2_with fail
        refine HR.out.mono ?_
        rintro e w2 ⟨rfl, hb2⟩
        obtain ⟨i0, i1, i2, i3, i4, i5, hil, hm2⟩ := HK.out w2 hb2
        have HB2 := hid (bl_step HB.out hb2)
        clear j0 j1 j2 j3 j4 j5 HR
        have HL2 := hid (hL.out _ hm2)
        clear hL hb2 hm2 HK HM
        go_wp2_with fail
        refine HL2.out.mono ?_
        rintro e w3 ⟨rfl, hm3, hf3⟩
        have HD : Hid (MDone W b k m' w (.int .i64 c) (.returned (.int .i64 c)) w3) := ⟨rfl, hm3, (GFram.below HB2.out).trans hf3⟩
        clear hm3 hf3 HL2
        go_wp2
        go_ret
        exact HD.out
      rw [if_neg q6, if_neg h13] at hS
      have HRG : Hid (∀ w2, MAt W b k m w2 → Calls Try.prog 26 #[mptr b, .int .i64 (r : Int)] w2 fun e w' => e = .returned (.int .u64 (m.rn r : Int)) ∧ w' = w2) := fun w2 h2 => vreg h2 (by omega)
      by_cases q14 : op = 14
      · rw [if_pos q14] at hS
        have hk14 := hpt q14
        obtain ⟨kk, rfl⟩ : ∃ i : Nat, kk = i := ⟨kk.toNat, by omega⟩
        rw [Int.toNat_natCast] at hS
        have hP : Hid (∀ w2, MAt W b k m w2 → Calls Try.prog 25 #[mptr b, .int .u64 (m.rn r : Int), .int .i64 (kk : Int)] w2 (MDone W b k (m.send (vbytes (m.rn r) kk)) w2 (.tuple #[]))) := fun w2 h2 => vput h2 _ kk (by omega) hs
        subst hS
        subst q14
        clear h hk hld hpt i0 i1 i2 i3 i4 i5 hil q1 hn q8 q6
        dsimp only
        generalize m.send (vbytes (m.rn r) kk) = m' at *
        go_enter Try.func13, Try.ntmps13
        go_upto_region 1 with fail
        rw [← EW.out, ← EB.out]
        clear EW EB
        have j0 := HIB.out.c0
        have j1 := HIB.out.c1
        have j2 := HIB.out.c2
        have j3 := HIB.out.c3
        have j4 := HIB.out.c4
        have j5 := HIB.out.c5
        dsimp only at j0 j1 j2 j3 j4 j5
        go_wp2_with fail
        refine HR.out.mono ?_
        rintro e w2 ⟨rfl, hb2⟩
        obtain ⟨i0, i1, i2, i3, i4, i5, hil, hm2⟩ := HK.out w2 hb2
        have HB2 := hid (bl_step HB.out hb2)
        clear j0 j1 j2 j3 j4 j5 HR
        have HP2 := hid (hP.out _ hm2.drew)
        have HRG2 := hid (HRG.out _ hm2.drew)
        generalize m.rn r = X at *
        have HIB2 : Hid (IBox ⟨14, r, s, kk, tt, n⟩ w2 ib) := ⟨i0, i1, i2, i3, i4, i5⟩
        clear hP HRG hb2 hm2 HK HM
        go_wp2_with fail
        go_region_with (first
          | (go_at_call 26; refine HRG2.out.mono ?_; rintro e wx ⟨rfl, rfl⟩)
          | (go_at_call 25; refine HP2.out.mono ?_; rintro e wx ⟨rfl, hm3, hf3⟩))
        all_goals
          have HD : Hid (MDone W b k m' w (.int .i64 0) (.returned (.int .i64 0)) wx) := ⟨rfl, hm3, (GFram.below (bl_step HB2.out (Below.refl w2.heap.size w2).drew)).trans hf3⟩
          clear hm3 hf3 HP2
          go_wp2
          go_ret
          exact HD.out
      rw [if_neg q14] at hS
      by_cases q15 : op = 15
      · rw [if_pos q15] at hS
        have hL : Hid (∀ w2, MAt W b k m w2 → Calls Try.prog 27 #[mptr b, .int .u64 (m.rn r : Int)] w2 (MDone W b k S.2 w2 (.int .i64 S.1))) := fun w2 h2 => by
          have := vtail h2 hk.has hk.nil hk.few hk.cap (m.rn r) (h2.ok.1 r) hs
          rw [← hS]
          split
          · rename_i hq
            rw [if_pos hq, if_pos hq] at this
            exact this
          · rename_i hq
            rw [if_neg hq, if_neg hq] at this
            exact this
        subst q15
        clear h hk hld hpt i0 i1 i2 i3 i4 i5 hil q1 hn q8 q6 q14 hS
        obtain ⟨c, m'⟩ := S
        dsimp only at hL ⊢
        go_enter Try.func13, Try.ntmps13
        go_upto_region 1 with fail
        rw [← EW.out, ← EB.out]
        clear EW EB
        have j0 := HIB.out.c0
        have j1 := HIB.out.c1
        have j2 := HIB.out.c2
        have j3 := HIB.out.c3
        have j4 := HIB.out.c4
        have j5 := HIB.out.c5
        dsimp only at j0 j1 j2 j3 j4 j5
        go_wp2_with fail
        refine HR.out.mono ?_
        rintro e w2 ⟨rfl, hb2⟩
        obtain ⟨i0, i1, i2, i3, i4, i5, hil, hm2⟩ := HK.out w2 hb2
        have HB2 := hid (bl_step HB.out hb2)
        clear j0 j1 j2 j3 j4 j5 HR
        have HL2 := hid (hL.out _ hm2)
        have HRG2 := hid (HRG.out _ hm2)
        generalize m.rn r = X at *
        clear hL hb2 hm2 HK HM HRG
        go_wp2_with fail
        refine HRG2.out.mono ?_
        rintro e w3 ⟨rfl, rfl⟩
        go_wp2_with fail
        refine HL2.out.mono ?_
        rintro e w3 ⟨rfl, hm3, hf3⟩
        have HD : Hid (MDone W b k m' w (.int .i64 c) (.returned (.int .i64 c)) w3) := ⟨rfl, hm3, (GFram.below HB2.out).trans hf3⟩
        clear hm3 hf3 HL2
        go_wp2
        go_ret
        exact HD.out
      rw [if_neg q15] at hS
      subst hS
      have q : op = 9 ∨ op = 10 ∨ op = 11 ∨ op = 12 ∨ op = 16 ∨ op = 17 := by omega
      dsimp only
      clear h hk hld hpt i0 i1 i2 i3 i4 i5 hil q1 hn q8 q6 q14 q15 HRG
      rcases q with rfl | rfl | rfl | rfl | rfl | rfl
      all_goals
        go_enter Try.func13, Try.ntmps13
        go_upto_region 1 with fail
        rw [← EW.out, ← EB.out]
        clear EW EB
        have j0 := HIB.out.c0
        have j1 := HIB.out.c1
        have j2 := HIB.out.c2
        have j3 := HIB.out.c3
        have j4 := HIB.out.c4
        have j5 := HIB.out.c5
        dsimp only at j0 j1 j2 j3 j4 j5
        go_wp2_with fail
        refine HR.out.mono ?_
        rintro e w2 ⟨rfl, hb2⟩
        obtain ⟨i0, i1, i2, i3, i4, i5, hil, hm2⟩ := HK.out w2 hb2
        have HB2 := hid (bl_step HB.out hb2)
        clear j0 j1 j2 j3 j4 j5 HR
        have HD : Hid (MDone W b k m w (.int .i64 0) (.returned (.int .i64 0)) w2) := ⟨rfl, hm2, GFram.below HB2.out⟩
        clear hb2 hm2 HK HM
        go_wp2
        go_ret
        exact HD.out
end Go.Proofs.Ytmceifkjmknjcaa
