/- PackDoes answers true. -/
import Derived.Test.YtehejhpgehlifabPBegun
namespace Go.Proofs.Ytehejhpgehlifab
open Go.RowKit

/-- two faults lie in blocks of their own, behind the world W -/
structure St (W : World) (f g : Nat) (x0 x1 y0 y1 : Int) (X : World) : Prop where
  bel : Below W.heap.size W X
  hf : W.heap.size ≤ f
  hg : W.heap.size ≤ g
  ne : f ≠ g
  lf : f < X.heap.size
  lg : g < X.heap.size
  c0 : X.cell? ⟨f, 0, none⟩ = some (.int .i64 x0)
  c1 : X.cell? ⟨f, 1, none⟩ = some (.int .i64 x1)
  d0 : X.cell? ⟨g, 0, none⟩ = some (.int .i64 y0)
  d1 : X.cell? ⟨g, 1, none⟩ = some (.int .i64 y1)
  p0 : X.frozen? ⟨f, 0, none⟩ = false
  p1 : X.frozen? ⟨f, 1, none⟩ = false
  q0 : X.frozen? ⟨g, 0, none⟩ = false
  q1 : X.frozen? ⟨g, 1, none⟩ = false

theorem St.step {W X X' : World} {f g : Nat} {x0 x1 y0 y1 : Int} (h : St W f g x0 x1 y0 y1 X) (b : Below X.heap.size X X') : St W f g x0 x1 y0 y1 X' :=
  ⟨bl_step h.bel b, h.hf, h.hg, h.ne, Nat.lt_of_lt_of_le h.lf b.size, Nat.lt_of_lt_of_le h.lg b.size,
   (b.cell (p := ⟨f, 0, none⟩) h.lf).trans h.c0, (b.cell (p := ⟨f, 1, none⟩) h.lf).trans h.c1, (b.cell (p := ⟨g, 0, none⟩) h.lg).trans h.d0, (b.cell (p := ⟨g, 1, none⟩) h.lg).trans h.d1,
   (b.frozen (p := ⟨f, 0, none⟩) h.lf).trans h.p0, (b.frozen (p := ⟨f, 1, none⟩) h.lf).trans h.p1, (b.frozen (p := ⟨g, 0, none⟩) h.lg).trans h.q0, (b.frozen (p := ⟨g, 1, none⟩) h.lg).trans h.q1⟩

theorem put_first {X : World} {f : Nat} {x y : Int} (c0 : X.cell? ⟨f, 0, none⟩ = some (.int .i64 x)) (c1 : X.cell? ⟨f, 1, none⟩ = some (.int .i64 y)) (u v : Value) :
    ((X.setCell ⟨f, 0, none⟩ u).setCell ⟨f, 1, none⟩ v).cell? ⟨f, 0, none⟩ = some u ∧ ((X.setCell ⟨f, 0, none⟩ u).setCell ⟨f, 1, none⟩ v).cell? ⟨f, 1, none⟩ = some v := by
  have e1 : (X.setCell ⟨f, 0, none⟩ u).cell? ⟨f, 1, none⟩ = some (.int .i64 y) := (World.cell?_setCell_other _ _ _ _ (by simp)).trans c1
  refine ⟨?_, World.cell?_setCell_same _ _ _ e1⟩
  rw [World.cell?_setCell_other _ _ _ _ (by simp)]
  exact World.cell?_setCell_same _ _ _ c0

theorem put_other {X : World} {f g o : Nat} (h : f ≠ g) (u v : Value) : ((X.setCell ⟨f, 0, none⟩ u).setCell ⟨f, 1, none⟩ v).cell? ⟨g, o, none⟩ = X.cell? ⟨g, o, none⟩ := by
  rw [World.cell?_setCell_other _ _ _ _ (fun e => h (congrArg Addr.block e)), World.cell?_setCell_other _ _ _ _ (fun e => h (congrArg Addr.block e))]

theorem St.putF {W X : World} {f g : Nat} {x0 x1 y0 y1 : Int} (h : St W f g x0 x1 y0 y1 X) (u v : Int) : St W f g u v y0 y1 ((X.setCell ⟨f, 0, none⟩ (.int .i64 u)).setCell ⟨f, 1, none⟩ (.int .i64 v)) :=
  ⟨(h.bel.setCell h.hf _).setCell h.hf _, h.hf, h.hg, h.ne, by simpa [World.setCell] using h.lf, by simpa [World.setCell] using h.lg,
   (put_first h.c0 h.c1 _ _).1, (put_first h.c0 h.c1 _ _).2, (put_other h.ne _ _).trans h.d0, (put_other h.ne _ _).trans h.d1,
   by simpa using h.p0, by simpa using h.p1, by simpa using h.q0, by simpa using h.q1⟩

theorem St.putG {W X : World} {f g : Nat} {x0 x1 y0 y1 : Int} (h : St W f g x0 x1 y0 y1 X) (u v : Int) : St W f g x0 x1 u v ((X.setCell ⟨g, 0, none⟩ (.int .i64 u)).setCell ⟨g, 1, none⟩ (.int .i64 v)) :=
  ⟨(h.bel.setCell h.hg _).setCell h.hg _, h.hf, h.hg, h.ne, by simpa [World.setCell] using h.lf, by simpa [World.setCell] using h.lg,
   (put_other h.ne.symm _ _).trans h.c0, (put_other h.ne.symm _ _).trans h.c1, (put_first h.d0 h.d1 _ _).1, (put_first h.d0 h.d1 _ _).2,
   by simpa using h.p0, by simpa using h.p1, by simpa using h.q0, by simpa using h.q1⟩

theorem St.drewN {W X : World} {f g : Nat} {x0 x1 y0 y1 : Int} (h : St W f g x0 x1 y0 y1 X) (s : Nat) : St W f g x0 x1 y0 y1 (X.drewN s) :=
  ⟨below_drewN h.bel s, h.hf, h.hg, h.ne, h.lf, h.lg, h.c0, h.c1, h.d0, h.d1, h.p0, h.p1, h.q0, h.q1⟩

/-- how it begins -/
theorem st_first {W w5 w6 : World} {C A : Int} (b5 : Below W.heap.size W w5) (b6 : Below (w5.alloc (.cells #[.int .i64 C, .int .i64 A] 36)).heap.size (w5.alloc (.cells #[.int .i64 C, .int .i64 A] 36)) w6) :
    St W w5.heap.size w6.heap.size C A C A (w6.alloc (.cells #[.int .i64 C, .int .i64 A] 36)) := by
  have hs : w5.heap.size + 1 ≤ w6.heap.size := by have := b6.size; simpa using this
  have h5 := b5.size
  have b7 := bl_alloc (o := .cells #[.int .i64 C, .int .i64 A] 36) b6
  exact ⟨bl_alloc (bl_step (bl_alloc b5) b6), h5, by omega, by omega, by simp; omega, by simp,
    (b7.cell (p := ⟨w5.heap.size, 0, none⟩) (by simp)).trans (by simp), (b7.cell (p := ⟨w5.heap.size, 1, none⟩) (by simp)).trans (by simp), by simp, by simp,
    (b7.frozen (p := ⟨w5.heap.size, 0, none⟩) (by simp)).trans (by simp), (b7.frozen (p := ⟨w5.heap.size, 1, none⟩) (by simp)).trans (by simp), by simp, by simp⟩

set_option maxHeartbeats 400000 in
theorem pdoes_long (a b v : Option Addr) (m c len d n e : Nat) (t s : Int) (w : World) (h : (100 : Int) < (m : Int) ∨ (1000 : Int) < (len : Int) ∨ (100 : Int) < (n : Int)) :
    Calls Try.prog 5 #[.slice a m c, .slice b len d, .int .i64 t, .slice v n e, .int .i64 s] w fun e w' => e = .returned (.bool true) ∧ Below w.heap.size w w' := by
  by_cases h1 : (100 : Int) < (m : Int)
  · go_enter Try.func5, Try.ntmps5
    go_wp2_with fail
    refine (pack_begun _).mono ?_
    rintro e w1 ⟨rfl, hb1⟩
    go_wp2
    go_ret
    exact ⟨rfl, hb1⟩
  · by_cases h2 : (1000 : Int) < (len : Int)
    · go_enter Try.func5, Try.ntmps5
      go_wp2_with fail
      refine (pack_begun _).mono ?_
      rintro e w1 ⟨rfl, hb1⟩
      go_wp2
      go_ret
      exact ⟨rfl, hb1⟩
    · have h3 : (100 : Int) < (n : Int) := by omega
      go_enter Try.func5, Try.ntmps5
      go_wp2_with fail
      refine (pack_begun _).mono ?_
      rintro e w1 ⟨rfl, hb1⟩
      go_wp2
      go_ret
      exact ⟨rfl, hb1⟩

set_option maxRecDepth 20000 in
set_option maxHeartbeats 4000000 in
theorem pdoes_short (a b v : Option Addr) (m c len d n e : Nat) (t s : Int) (zs ls ws : List Int) (w : World) (h1 : (m : Int) ≤ 100) (h2 : (len : Int) ≤ 1000) (h3 : (n : Int) ≤ 100) (hd : len ≤ d)
    (na : a = none → m = 0 ∧ c = 0) (nb : b = none → len = 0 ∧ d = 0) (nv : v = none → n = 0 ∧ e = 0) (hw : Has .i64 w a m ws) (hz : Has .u8 w b len zs) (hv : Has .u64 w v n ls) :
    Calls Try.prog 5 #[.slice a m c, .slice b len d, .int .i64 t, .slice v n e, .int .i64 s] w fun e w' => e = .returned (.bool true) ∧ Below w.heap.size w w' := by
  obtain ⟨N, C0, A0, size1, size2⟩ := size_one m ws
  obtain ⟨L1, y1, C1, A1, hL1, read1, read2⟩ := read_one len m t zs ws (by omega)
  obtain ⟨L2, y2, C2, A2, hL2, write1, write2⟩ := write_one n m ls ws
  obtain ⟨x3, C3, A3, sum1, sum2⟩ := sum_one n m s ls ws (by omega)
  have G1 := hid size1
  have G2 := hid size2
  have G3 := hid read1
  have G4 := hid read2
  have G5 := hid write1
  have G6 := hid write2
  have G7 := hid sum1
  have G8 := hid sum2
  clear size1 size2 read1 read2 write1 write2 sum1 sum2
  have NA := hid na
  have NB := hid nb
  have NV := hid nv
  have HW := hid hw
  have HZ := hid hz
  have HV := hid hv
  clear na nb nv hw hz hv
  have hN : (N != N) = false := by simp
  go_enter Try.func5, Try.ntmps5
  go_wp2_with fail
  refine (pack_begun _).mono ?_
  rintro e w1 ⟨rfl, hb1⟩
  go_wp2_with (at_builtin; refine copyI_law rfl _ _ rfl rfl _ _ _ ws rfl NA.out ?c1 ?c2 ?_)
  case c1 => exact HW.out.step hb1
  case c2 => omega
  intro v2 w2 hown2 hb2
  obtain ⟨a2, cp2, rfl, hc2, hn2⟩ := own_is hown2
  have W2 := hid (has_ownI hown2 HW.out.2.1)
  have B2 := bl_step hb1 hb2
  clear hown2 hc2 hn2 hb1 hb2
  go_wp2_with (at_builtin; refine copy64_law rfl _ _ rfl rfl _ _ _ ls rfl NV.out ?c1 ?c2 ?_)
  case c1 => exact (HV.out.step B2).alloc
  case c2 => omega
  intro v3 w3 hown3 hb3'
  have hb3 : Below (w2.alloc (H0 a2 m cp2)).heap.size (w2.alloc (H0 a2 m cp2)) w3 := by simpa using hb3'
  clear hb3'
  obtain ⟨a3, cp3, rfl, hc3, hn3⟩ := own_is hown3
  have V3 := hid (has_own64 hown3 HV.out.nums)
  have N3 := hid hn3
  have B3 := bl_step (bl_alloc B2) hb3
  have W3 := hid (W2.out.alloc.step hb3)
  have hs3 : w2.heap.size < w3.heap.size := by have := hb3.size; simp at this; omega
  have hH3 : w3.cell? ⟨w2.heap.size, 0, none⟩ = some (.slice a2 m cp2) := (hb3.cell (p := ⟨w2.heap.size, 0, none⟩) (by simp)).trans (by simp)
  clear hown3 hc3 hn3 hb3 W2
  go_wp2_with (at_builtin; refine copy_law rfl _ _ rfl rfl _ _ _ zs rfl NB.out ?c1 ?c2 ?_)
  case c1 => exact HZ.out.step B3
  case c2 => omega
  intro v4 w4 hown4 hb4
  obtain ⟨a4, cp4, rfl, hc4, hn4⟩ := own_is hown4
  have Z4 := hid (has_own8 hown4 HZ.out.bytes)
  have B4 := bl_step B3 hb4
  have W4 := hid (W3.out.step hb4)
  have V4 := hid (V3.out.step hb4)
  have hs4 : w2.heap.size < w4.heap.size := by have := hb4.size; omega
  have hH4 : w4.cell? ⟨w2.heap.size, 0, none⟩ = some (.slice a2 m cp2) := (hb4.cell (p := ⟨w2.heap.size, 0, none⟩) hs3).trans hH3
  clear hown4 hn4 hb4 W3 V3 hs3 hH3 B2 B3
  go_wp2_with fail
  refine (G1.out _ _ _ W4.out).mono ?_
  rintro e w5 ⟨rfl, b5⟩
  have hH5 : w5.cell? ⟨w2.heap.size, 0, none⟩ = some (.slice a2 m cp2) := (b5.cell (p := ⟨w2.heap.size, 0, none⟩) hs4).trans hH4
  have hs5 : w2.heap.size < w5.heap.size := Nat.lt_of_lt_of_le hs4 b5.size
  go_wp2_with fail
  refine (G2.out _ _ _ (W4.out.step b5).alloc).mono ?_
  rintro e w6 ⟨rfl, b6⟩
  have S6 := st_first b5 b6
  obtain ⟨f0, f1, fs⟩ := fault2 b6
  have hH6 : w6.cell? ⟨w2.heap.size, 0, none⟩ = some (.slice a2 m cp2) := (b6.cell (p := ⟨w2.heap.size, 0, none⟩) (by simp; omega)).trans (((bl_alloc (Below.refl w5.heap.size w5)).cell (p := ⟨w2.heap.size, 0, none⟩) hs5).trans hH5)
  have hs6 : w2.heap.size < w6.heap.size := by omega
  have n1 : ¬ w5.heap.size = w2.heap.size := by omega
  have n2 : ¬ w2.heap.size = w5.heap.size := by omega
  have n3 : ¬ w6.heap.size = w2.heap.size := by omega
  have n4 : ¬ w2.heap.size = w6.heap.size := by omega
  have n5 : ¬ w5.heap.size = w6.heap.size := by omega
  have n6 : ¬ w6.heap.size = w5.heap.size := by omega
  have hc4' := hid hc4
  have hd' := hid hd
  clear hH5 b5 b6 G1 G2 hc4 hd
  go_wp2_with fail
  refine (G3.out _ _ _ _ _ hc4'.out (W4.out.step S6.bel) (Z4.out.step S6.bel)).mono ?_
  rintro e w7 ⟨g7, cp7, rfl, P7, b7⟩
  have S7 := S6.step b7
  clear f0 f1 fs hH6 hs5 hs6 b7 S6
  have c0 := S7.c0
  have c1 := S7.c1
  have d0 := S7.d0
  have d1 := S7.d1
  have p0 := S7.p0
  have p1 := S7.p1
  have q0 := S7.q0
  have q1 := S7.q1
  have hH := (S7.bel.cell (p := ⟨w2.heap.size, 0, none⟩) hs4).trans hH4
  have S7' := S7.putF C1 A1
  have P7' := hid (P7.put2 (by decide) c0 c1 (.int .i64 C1) (.int .i64 A1))
  clear P7
  go_wp2_with fail
  refine (G4.out _ _ _ _ _ hd'.out (W4.out.step S7'.bel) (HZ.out.step (bl_step B4 S7'.bel))).mono ?_
  rintro e w8 ⟨g8, cp8, rfl, P8, b8⟩
  clear c0 c1 d0 d1 p0 p1 q0 q1 hH
  have S8 := S7'.step b8
  have c0 := S8.c0
  have c1 := S8.c1
  have d0 := S8.d0
  have d1 := S8.d1
  have p0 := S8.p0
  have p1 := S8.p1
  have q0 := S8.q0
  have q1 := S8.q1
  have hH := (S8.bel.cell (p := ⟨w2.heap.size, 0, none⟩) hs4).trans hH4
  have S8' := S8.putG C1 A1
  have X8 := hid ((P7'.out.step b8).put2 (by decide) d0 d1 (.int .i64 C1) (.int .i64 A1))
  have Y8 := hid (P8.put2 (by decide) d0 d1 (.int .i64 C1) (.int .i64 A1))
  clear P7' P8 b8 S7 S7' G3 G4
  go_wp2_with fail
  refine (same_nums _ _ hL1 X8.out Y8.out).mono ?_
  rintro e w9 ⟨rfl, s9, rfl⟩
  have S9 := S8'.drewN s9
  clear X8 Y8 S8'
  go_wp2_with fail
  refine (G5.out _ _ _ _ _ (W4.out.step S9.bel) (V4.out.step S9.bel)).mono ?_
  rintro e w10 ⟨g10, cp10, rfl, P10, b10⟩
  clear c0 c1 d0 d1 p0 p1 q0 q1 hH
  have S10 := S9.step b10
  clear b10 S9 S8
  have c0 := S10.c0
  have c1 := S10.c1
  have d0 := S10.d0
  have d1 := S10.d1
  have p0 := S10.p0
  have p1 := S10.p1
  have q0 := S10.q0
  have q1 := S10.q1
  have hH := (S10.bel.cell (p := ⟨w2.heap.size, 0, none⟩) hs4).trans hH4
  have S10' := S10.putF C2 A2
  have P10' := hid (P10.put2 (by decide) c0 c1 (.int .i64 C2) (.int .i64 A2))
  clear P10
  go_wp2_with fail
  refine (G6.out _ _ _ _ _ (W4.out.step S10'.bel) (HV.out.step (bl_step B4 S10'.bel))).mono ?_
  rintro e w11 ⟨g11, cp11, rfl, P11, b11⟩
  clear c0 c1 d0 d1 p0 p1 q0 q1 hH
  have S11 := S10'.step b11
  have c0 := S11.c0
  have c1 := S11.c1
  have d0 := S11.d0
  have d1 := S11.d1
  have p0 := S11.p0
  have p1 := S11.p1
  have q0 := S11.q0
  have q1 := S11.q1
  have hH := (S11.bel.cell (p := ⟨w2.heap.size, 0, none⟩) hs4).trans hH4
  have S11' := S11.putG C2 A2
  have X11 := hid ((P10'.out.step b11).put2 (by decide) d0 d1 (.int .i64 C2) (.int .i64 A2))
  have Y11 := hid (P11.put2 (by decide) d0 d1 (.int .i64 C2) (.int .i64 A2))
  clear P10' P11 b11 S10 S10' G5 G6
  go_wp2_with fail
  refine (same_bytes _ _ X11.out Y11.out).mono ?_
  rintro e w12 ⟨rfl, rfl⟩
  clear X11 Y11 S11
  go_wp2_with fail
  refine (G7.out _ _ _ _ _ N3.out (W4.out.step S11'.bel) (V4.out.step S11'.bel)).mono ?_
  rintro e w13 ⟨rfl, b13⟩
  clear c0 c1 d0 d1 p0 p1 q0 q1 hH
  have S13 := S11'.step b13
  clear b13 S11'
  have c0 := S13.c0
  have c1 := S13.c1
  have d0 := S13.d0
  have d1 := S13.d1
  have p0 := S13.p0
  have p1 := S13.p1
  have q0 := S13.q0
  have q1 := S13.q1
  have hH := (S13.bel.cell (p := ⟨w2.heap.size, 0, none⟩) hs4).trans hH4
  have S13' := S13.putF C3 A3
  go_wp2_with fail
  refine (G8.out _ _ _ _ _ NV.out (W4.out.step S13'.bel) (HV.out.step (bl_step B4 S13'.bel))).mono ?_
  rintro e w14 ⟨rfl, b14⟩
  clear c0 c1 d0 d1 p0 p1 q0 q1 hH
  have S14 := S13'.step b14
  clear b14 S13 S13' G7 G8
  have c0 := S14.c0
  have c1 := S14.c1
  have d0 := S14.d0
  have d1 := S14.d1
  have p0 := S14.p0
  have p1 := S14.p1
  have q0 := S14.q0
  have q1 := S14.q1
  have hH := (S14.bel.cell (p := ⟨w2.heap.size, 0, none⟩) hs4).trans hH4
  have S14' := S14.putG C3 A3
  have hx3 : (x3 == x3) = true := by simp
  have m1 : m ≤ 1000 := by omega
  have m2 : n ≤ 1000 := by omega
  have BW := bl_step B4 S14'.bel
  go_wp2_with fail
  refine (same_ints _ _ m1 (W4.out.step S14'.bel) (HW.out.step BW)).mono ?_
  rintro e w15 ⟨rfl, s15, rfl⟩
  have S15 := S14'.drewN s15
  have BW2 := bl_step B4 S15.bel
  go_wp2_with fail
  refine (same_nums _ _ m2 (V4.out.step S15.bel) (HV.out.step BW2)).mono ?_
  rintro e w16 ⟨rfl, s16, rfl⟩
  have S16 := S14'.drewN (s15 + s16)
  have BW3 := bl_step B4 S16.bel
  have ZZ := Z4.out.step S16.bel
  have YY := HZ.out.step BW3
  clear S14 S14' S15 BW BW2 S16
  go_wp2_with fail
  refine (same_bytes _ _ ZZ YY).mono ?_
  rintro e w17 ⟨rfl, rfl⟩
  go_wp2
  go_ret
  exact ⟨rfl, BW3⟩
end Go.Proofs.Ytehejhpgehlifab
