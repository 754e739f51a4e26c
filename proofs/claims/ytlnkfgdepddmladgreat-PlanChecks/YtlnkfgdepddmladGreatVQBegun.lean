/- What planBegun does. -/
import Derived.Test.YtlnkfgdepddmladGreatVQCheck
import Derived.Test.YtlnkfgdepddmladGreatVQState
import Derived.Test.YtlnkfgdepddmladGreatVSize
namespace Go.Proofs.YtlnkfgdepddmladGreat
open Go.RowKit

set_option maxHeartbeats 2000000 in
set_option maxRecDepth 20000 in
/-- a header of one field of eight bits has no fault -/
theorem head_eight (d : PlanD) (w : World) (hl : d.lie w) (k : Nat) (hk : k < d.heads.n) (h8 : ∀ x, d.hs[k]? = some x → x.ws = [8]) :
    Calls Tryz.prog 46 #[d.v, .int .i64 k] w fun e w' => e = .returned (.int .i64 0) ∧ Below w.heap.size w w' := by
  obtain ⟨g, off, x, ea, hx, hp⟩ := row_at hl.hs hk
  rw [Nat.mul_one] at hp
  have e8 := h8 x hx
  have hz := hp.2
  rw [e8] at hz
  have hn : x.w.n = 1 := hz.1.symm
  have c0 := hp.1.1
  rw [hn] at hz c0
  have bw : ∀ o, Below w.heap.size w (w.alloc o) := fun o => bl_alloc (Below.refl _ _)
  have k0 : ∀ o, (w.alloc o).cell? ⟨g, off + k, none⟩ = some (.slice x.w.a 1 x.w.c) := fun o => cell_keep c0 (bw o)
  have HS : Hid (∀ o, Calls Tryz.prog 102 #[.agg #[.slice x.w.a 1 x.w.c]] (w.alloc o) fun e w' => e = .returned (.tuple #[.int .i64 1, .agg #[.int .i64 0, .int .i64 0]]) ∧ Below (w.alloc o).heap.size (w.alloc o) w') := fun o =>
    (size_end x.w.a 1 x.w.c [8] (w.alloc o) (by omega) (by omega) (hz.step (bw o)) (by
      intro j hj
      have : j = 0 := by omega
      subst this
      exact ⟨by decide, by decide⟩)).mono (by
      rintro e w' ⟨y, rfl, ht, hb⟩
      have h8 : Mth.off [8] 1 = 8 := by decide
      rw [h8] at ht
      exact ⟨by rw [ht.1 ⟨by decide, by decide⟩]; rfl, hb⟩)
  have hki : (k : Int) < (d.heads.n : Int) := by omega
  clear hl h8 hx hp e8 hz hn c0
  go_enter Tryz.func46, Tryz.ntmps46
  go_wp2_with fail
  refine (HS.out _).mono ?_
  rintro e w1 ⟨rfl, hb1⟩
  have HB := hid (bl_step (bw _) hb1)
  clear HS hb1 bw k0
  go_wp2
  go_ret
  exact ⟨rfl, bl_alloc HB.out⟩

/-- the plan of planBegun -/
@[reducible] def BD (p0 p1 p2 : Nat) (els : Int) : PlanD := ⟨⟨some ⟨p1, 0, none⟩, 1, 1⟩, [⟨⟨some ⟨p0, 0, none⟩, 1, 1⟩, [8]⟩], ⟨none, 0, 0⟩, [], ⟨some ⟨p2, 0, none⟩, 1, 1⟩, [⟨0, ⟨0, 0⟩, ⟨none, 0, 0⟩, [], els⟩], ⟨none, 0, 0⟩, [], ⟨none, 0, 0⟩, [], ⟨none, 0, 0⟩, [], ⟨none, 0, 0⟩, []⟩

theorem row_nil {α : Type} {k : Nat} {P : α → World → Nat → Nat → Prop} {w : World} : QRow k P w ⟨none, 0, 0⟩ ([] : List α) := ⟨rfl, by simp⟩

/-- the cells of that plan -/
structure BCells (w : World) (p0 p1 p2 : Nat) (els : Int) : Prop where
  c0 : w.cell? ⟨p0, 0, none⟩ = some (.int .i64 8)
  c1 : w.cell? ⟨p1, 0, none⟩ = some (.slice (some ⟨p0, 0, none⟩) 1 1)
  s0 : w.cell? ⟨p2, 0, none⟩ = some (.int .i64 0)
  s1 : w.cell? ⟨p2, 1, none⟩ = some (.int .i64 0)
  s2 : w.cell? ⟨p2, 2, none⟩ = some (.int .i64 0)
  s3 : w.cell? ⟨p2, 3, none⟩ = some (.slice none 0 0)
  s4 : w.cell? ⟨p2, 4, none⟩ = some (.int .i64 els)

theorem BCells.step {w w' : World} {p0 p1 p2 : Nat} {els : Int} (h : BCells w p0 p1 p2 els) (b : Below w.heap.size w w') : BCells w' p0 p1 p2 els :=
  ⟨cell_keep h.c0 b, cell_keep h.c1 b, cell_keep h.s0 b, cell_keep h.s1 b, cell_keep h.s2 b, cell_keep h.s3 b, cell_keep h.s4 b⟩

theorem BCells.lie {w : World} {p0 p1 p2 : Nat} {els : Int} (h : BCells w p0 p1 p2 els) (he : (Lit.int .i64 els).wf = true) : (BD p0 p1 p2 els).lie w := by
  have hz : Has .i64 w (some ⟨p0, 0, none⟩) 1 [8] := by
    refine ⟨rfl, ?_, .inr ⟨p0, 0, rfl, World.block_lt_of_cell? w _ h.c0, fun i hi => ?_⟩⟩
    · intro n hn
      simp only [List.mem_cons, List.not_mem_nil, or_false] at hn
      subst hn
      decide
    · have : i = 0 := by omega
      subst this
      simpa using h.c0
  have wf0 : (Lit.int .i64 0).wf = true := by decide
  refine ⟨⟨rfl, fun i d hd => ?_⟩, has_nil _ _, ⟨rfl, fun i d hd => ?_⟩, row_nil, row_nil, row_nil, has_nil _ _, Nat.le_refl _⟩
  · match i, hd with
    | 0, hd =>
      obtain rfl : _ = d := Option.some.inj hd
      exact ⟨p1, 0, rfl, ⟨by simpa using h.c1, by simp [QSl.nil0]⟩, hz⟩
  · match i, hd with
    | 0, hd =>
      obtain rfl : _ = d := Option.some.inj hd
      exact ⟨p2, 0, rfl, ⟨h.s0, wf0⟩, ⟨h.s1, wf0⟩, ⟨h.s2, wf0⟩, ⟨h.s3, fun _ => ⟨rfl, rfl⟩⟩, ⟨h.s4, he⟩, row_nil⟩

def bcs (els : Int) (k n : Nat) : Int := if k = 2 then wayC 1 n els else 0

theorem begun_check {w : World} {p0 p1 p2 : Nat} {els : Int} (h : BCells w p0 p1 p2 els) (he : (Lit.int .i64 els).wf = true) : Calls Tryz.prog 21 #[(BD p0 p1 p2 els).v] w (CheckDone (BD p0 p1 p2 els) (bcs els) w) := by
  refine check_any _ _ w fun k hk w' hb n hn => ?_
  have hl := (h.step hb).lie he
  rcases seven_ways hk with rfl | rfl | rfl | rfl | rfl | rfl | rfl
  · exact (head_eight _ w' hl n hn (fun x hx => by
      have : n = 0 := by have : n < 1 := hn; omega
      subst this
      obtain rfl : _ = x := Option.some.inj hx
      rfl))
  · exact absurd hn (Nat.not_lt_zero _)
  · have : n = 0 := by have : n < 1 := hn; omega
    subst this
    exact state_nil _ w' hl 0 hn _ rfl rfl ⟨(by decide : (0 : Int) ≤ 0), (by decide : (0 : Int) < ((1 : Nat) : Int))⟩
  · exact absurd hn (Nat.not_lt_zero _)
  · exact absurd hn (Nat.not_lt_zero _)
  · exact absurd hn (Nat.not_lt_zero _)
  · exact absurd hn (Nat.not_lt_zero _)

theorem begun_good {p0 p1 p2 : Nat} {C A : Int} (h : CheckIs (BD p0 p1 p2 1000) (bcs 1000) C A) : C = 0 := by
  have hz : ∀ k n, bcs 1000 k n = 0 := by
    intro k n
    unfold bcs wayC
    split <;> simp
  rcases h with ⟨k, hk, hf, hC, _⟩ | ⟨_, h, _⟩
  · rcases hf with ⟨hm, _⟩ | ⟨_, ⟨n, _, hn, _⟩ | ⟨_, h, _⟩⟩
    · exfalso
      rcases seven_ways hk with rfl | rfl | rfl | rfl | rfl | rfl | rfl <;> simp [manyOf, leastOf, mostOf] at hm
    · exact absurd (hz _ _) hn
    · exact h
  · exact h

theorem begun_bad {p0 p1 p2 : Nat} {C A : Int} (h : CheckIs (BD p0 p1 p2 0) (bcs 0) C A) : C = 11 ∧ A = 3000 := by
  have h2 : bcs 0 2 0 = 11 := by decide
  have hz : ∀ k n, k ≠ 2 → bcs 0 k n = 0 := by
    intro k n hk
    simp [bcs, hk]
  rcases h with ⟨k, hk, hf, hC, _⟩ | ⟨h, _, _⟩
  · rcases hf with ⟨hm, _⟩ | ⟨_, ⟨n, hlt, hn, _, hc, ha⟩ | ⟨_, h, _⟩⟩
    · exfalso
      rcases seven_ways hk with rfl | rfl | rfl | rfl | rfl | rfl | rfl <;> simp [manyOf, leastOf, mostOf] at hm
    · by_cases ek : k = 2
      · subst ek
        have : n = 0 := by have : n < 1 := hlt; omega
        subst this
        exact ⟨by rw [hc, h2], by rw [ha]; decide⟩
      · exact absurd (hz _ _ ek) hn
    · exact absurd h hC
  · exfalso
    obtain ⟨A, hf⟩ := h 2 (by omega)
    rcases hf with ⟨hm, _⟩ | ⟨_, ⟨n, hlt, hn, _, hc, _⟩ | ⟨h, _⟩⟩
    · simp [manyOf, leastOf, mostOf] at hm
    · exact hn hc.symm
    · have := h 0 (show 0 < 1 by omega)
      rw [h2] at this
      omega

/-- the store of planBegun: another Else -/
theorem BCells.put {w : World} {p0 p1 p2 : Nat} {els : Int} (h : BCells w p0 p1 p2 els) (y : Int) : BCells (w.setCell ⟨p2, 4, none⟩ (.int .i64 y)) p0 p1 p2 y := by
  refine ⟨?_, ?_, ?_, ?_, ?_, ?_, World.cell?_setCell_same _ _ _ h.s4⟩
  · rw [World.cell?_setCell_other _ _ _ _ (by simp)]; exact h.c0
  · rw [World.cell?_setCell_other _ _ _ _ (by simp)]; exact h.c1
  · rw [World.cell?_setCell_other _ _ _ _ (by simp)]; exact h.s0
  · rw [World.cell?_setCell_other _ _ _ _ (by simp)]; exact h.s1
  · rw [World.cell?_setCell_other _ _ _ _ (by simp)]; exact h.s2
  · rw [World.cell?_setCell_other _ _ _ _ (by simp)]; exact h.s3

abbrev B0 : Obj := .cells #[.int .i64 8] 3
abbrev B1 (p0 : Nat) : Obj := .cells #[.slice (some ⟨p0, 0, none⟩) 1 1] 94
abbrev B2 : Obj := .cells #[.int .i64 0, .int .i64 0, .int .i64 0, .slice none 0 0, .int .i64 1000] 99

theorem begun_cells (w : World) (o : Obj) : BCells ((((w.alloc B0).alloc (B1 w.heap.size)).alloc B2).alloc o) w.heap.size (w.heap.size + 1) (w.heap.size + 1 + 1) 1000 := by
  refine ⟨?_, ?_, ?_, ?_, ?_, ?_, ?_⟩
  · exact (World.cell?_alloc_past _ _ _ (by simp; omega)).trans ((World.cell?_alloc_past _ _ _ (by simp; omega)).trans ((World.cell?_alloc_past _ _ _ (by simp)).trans ((World.cell?_alloc_at _ _ _ _ rfl).trans rfl)))
  · exact (World.cell?_alloc_past _ _ _ (by simp)).trans ((World.cell?_alloc_past _ _ _ (by simp)).trans ((World.cell?_alloc_at _ _ _ _ (by simp)).trans rfl))
  all_goals exact (World.cell?_alloc_past _ _ _ (by simp)).trans ((World.cell?_alloc_at _ _ _ _ (by simp)).trans rfl)

set_option maxHeartbeats 4000000 in
set_option maxRecDepth 20000 in
theorem plan_begun (w : World) : Calls Tryz.prog 18 #[] w fun e w' => e = .returned (.bool true) ∧ Below w.heap.size w w' := by
  obtain ⟨p0, e0⟩ : ∃ p0, p0 = w.heap.size := ⟨_, rfl⟩
  obtain ⟨p1, e1⟩ : ∃ p1, p1 = w.heap.size + 1 := ⟨_, rfl⟩
  obtain ⟨p2, e2⟩ : ∃ p2, p2 = w.heap.size + 1 + 1 := ⟨_, rfl⟩
  obtain ⟨p3, e3⟩ : ∃ p3, p3 = w.heap.size + 1 + 1 + 1 := ⟨_, rfl⟩
  obtain ⟨W4, eW⟩ : ∃ W4, W4 = ((((w.alloc B0).alloc (B1 w.heap.size)).alloc B2).alloc (.cells #[.slice (some ⟨w.heap.size + 1, 0, none⟩) 1 1, .slice none 0 0, .slice (some ⟨w.heap.size + 1 + 1, 0, none⟩) 1 1, .slice none 0 0, .slice none 0 0, .slice none 0 0, .slice none 0 0] 65)) := ⟨_, rfl⟩
  have BC : BCells W4 p0 p1 p2 1000 := by rw [eW, e0, e1, e2]; exact begun_cells w _
  have HB : Hid (Below w.heap.size w W4) := by rw [eW]; exact bl_alloc (bl_alloc (bl_alloc (bl_alloc (Below.refl _ _))))
  have hpw : w.heap.size ≤ p2 := by omega
  have hs : W4.heap.size = p3 + 1 := by rw [eW, e3]; simp
  have hp23 : p2 < p3 := by omega
  have g0 : W4.cell? ⟨p3, 0, none⟩ = some (.slice (some ⟨p1, 0, none⟩) 1 1) := by rw [eW, e3, e1]; exact (World.cell?_alloc_at _ _ _ _ (by simp)).trans rfl
  have g2 : W4.cell? ⟨p3, 2, none⟩ = some (.slice (some ⟨p2, 0, none⟩) 1 1) := by rw [eW, e3, e2]; exact (World.cell?_alloc_at _ _ _ _ (by simp)).trans rfl
  have gn : ∀ j, j = 1 ∨ j = 3 ∨ j = 4 ∨ j = 5 ∨ j = 6 → W4.cell? ⟨p3, j, none⟩ = some (.slice none 0 0) := by
    intro j hj
    rw [eW, e3]
    rcases hj with rfl | rfl | rfl | rfl | rfl <;> exact (World.cell?_alloc_at _ _ _ _ (by simp)).trans rfl
  have fz : W4.frozen? ⟨p2, 4, none⟩ = false := by rw [eW, e2]; exact (World.frozen?_alloc_past _ _ _ (by simp)).trans (World.frozen?_alloc_at _ _ _ _ (by simp))
  have E0 := hid e0
  have E1 := hid e1
  have E2 := hid e2
  have E3 := hid e3
  have EW := hid eW
  clear e0 e1 e2 e3 eW
  have HC1 := hid (begun_check BC (by decide))
  have HBC := hid BC
  clear BC
  go_enter Tryz.func18, Tryz.ntmps18
  go_wp2_with fail
  rw [← EW.out, ← E3.out, ← E2.out, ← E1.out, ← E0.out]
  refine HC1.out.mono ?_
  rintro e w1 ⟨C, A, hc, rfl, hb1⟩
  obtain rfl := begun_good hc
  clear hc HC1 EW E0 E1 E2 E3
  have B1' := hid (HBC.out.step hb1)
  have HB1 := hid (bl_step HB.out hb1)
  have q0 := cell_keep g0 hb1
  have q1 := cell_keep (gn 1 (by simp)) hb1
  have q2 := cell_keep g2 hb1
  have q3 := cell_keep (gn 3 (by simp)) hb1
  have q4 := cell_keep (gn 4 (by simp)) hb1
  have q5 := cell_keep (gn 5 (by simp)) hb1
  have q6 := cell_keep (gn 6 (by simp)) hb1
  have z := B1'.out.s4
  have fz1 : w1.frozen? ⟨p2, 4, none⟩ = false := (hb1.frozen (p := ⟨p2, 4, none⟩) (by simp; omega)).trans fz
  have s1 : p3 < w1.heap.size := by have := hb1.size; omega
  have s2 : p2 < w1.heap.size := by omega
  clear g0 g2 gn fz hb1 HBC HB hs
  have B2' : Hid (∀ o, BCells ((w1.setCell ⟨p2, 4, none⟩ (.int .i64 0)).alloc o) p0 p1 p2 0) := fun o => (B1'.out.put 0).step (bl_alloc (Below.refl _ _))
  have HC2 : Hid (∀ o, Calls Tryz.prog 21 #[(BD p0 p1 p2 0).v] ((w1.setCell ⟨p2, 4, none⟩ (.int .i64 0)).alloc o) (CheckDone (BD p0 p1 p2 0) (bcs 0) ((w1.setCell ⟨p2, 4, none⟩ (.int .i64 0)).alloc o))) := fun o => begun_check (B2'.out o) (by decide)
  have HB2 : Hid (∀ o, Below w.heap.size w ((w1.setCell ⟨p2, 4, none⟩ (.int .i64 0)).alloc o)) := fun o => bl_alloc (HB1.out.setCell hpw _)
  have q0' : ∀ o, ((w1.setCell ⟨p2, 4, none⟩ (.int .i64 0)).alloc o).cell? ⟨p3, 0, none⟩ = some (.slice (some ⟨p1, 0, none⟩) 1 1) := fun o => cell_keep (by rw [World.cell?_setCell_other _ _ _ _ (by simp)]; exact q0) (bl_alloc (Below.refl _ _))
  have q1' : ∀ o, ((w1.setCell ⟨p2, 4, none⟩ (.int .i64 0)).alloc o).cell? ⟨p3, 1, none⟩ = some (.slice none 0 0) := fun o => cell_keep (by rw [World.cell?_setCell_other _ _ _ _ (by simp)]; exact q1) (bl_alloc (Below.refl _ _))
  have q2' : ∀ o, ((w1.setCell ⟨p2, 4, none⟩ (.int .i64 0)).alloc o).cell? ⟨p3, 2, none⟩ = some (.slice (some ⟨p2, 0, none⟩) 1 1) := fun o => cell_keep (by rw [World.cell?_setCell_other _ _ _ _ (by simp)]; exact q2) (bl_alloc (Below.refl _ _))
  have q3' : ∀ o, ((w1.setCell ⟨p2, 4, none⟩ (.int .i64 0)).alloc o).cell? ⟨p3, 3, none⟩ = some (.slice none 0 0) := fun o => cell_keep (by rw [World.cell?_setCell_other _ _ _ _ (by simp)]; exact q3) (bl_alloc (Below.refl _ _))
  have q4' : ∀ o, ((w1.setCell ⟨p2, 4, none⟩ (.int .i64 0)).alloc o).cell? ⟨p3, 4, none⟩ = some (.slice none 0 0) := fun o => cell_keep (by rw [World.cell?_setCell_other _ _ _ _ (by simp)]; exact q4) (bl_alloc (Below.refl _ _))
  have q5' : ∀ o, ((w1.setCell ⟨p2, 4, none⟩ (.int .i64 0)).alloc o).cell? ⟨p3, 5, none⟩ = some (.slice none 0 0) := fun o => cell_keep (by rw [World.cell?_setCell_other _ _ _ _ (by simp)]; exact q5) (bl_alloc (Below.refl _ _))
  have q6' : ∀ o, ((w1.setCell ⟨p2, 4, none⟩ (.int .i64 0)).alloc o).cell? ⟨p3, 6, none⟩ = some (.slice none 0 0) := fun o => cell_keep (by rw [World.cell?_setCell_other _ _ _ _ (by simp)]; exact q6) (bl_alloc (Below.refl _ _))
  have Q := hid (And.intro q0' (And.intro q1' (And.intro q2' (And.intro q3' (And.intro q4' (And.intro q5' q6'))))))
  clear q0' q1' q2' q3' q4' q5' q6'
  go_wp2_with fail
  refine (HC2.out _).mono ?_
  rintro e w2 ⟨C, A2, hc, rfl, hb2⟩
  obtain ⟨rfl, rfl⟩ := begun_bad hc
  have t0 := cell_keep (Q.out.1 _) hb2
  have t1 := cell_keep (Q.out.2.1 _) hb2
  have t2 := cell_keep (Q.out.2.2.1 _) hb2
  have t3 := cell_keep (Q.out.2.2.2.1 _) hb2
  have t4 := cell_keep (Q.out.2.2.2.2.1 _) hb2
  have t5 := cell_keep (Q.out.2.2.2.2.2.1 _) hb2
  have t6 := cell_keep (Q.out.2.2.2.2.2.2 _) hb2
  have HWD : Hid (Calls Tryz.prog 43 #[(BD p0 p1 p2 0).v, .agg #[.int .i64 0, .int .i64 0], .slice none 0 0] w2 fun e w' => e = .returned (.int .i64 8) ∧ Below w2.heap.size w2 w') :=
    width_any (BD p0 p1 p2 0) 0 0 none 0 0 [] w2 (((B2'.out _).step hb2).lie (by decide)) (has_nil _ _)
  have HB3 := hid (bl_step (HB2.out _) hb2)
  clear hc hb2 Q HC2 q0 q1 q2 q3 q4 q5 q6 B1' B2' HB1 HB2 z fz1 s1 s2
  go_wp2_with fail
  refine HWD.out.mono ?_
  rintro e w3 ⟨rfl, hb3⟩
  have HB4 := hid (bl_step HB3.out hb3)
  clear hb3 HB3 HWD t0 t1 t2 t3 t4 t5 t6
  go_wp2
  go_ret
  exact ⟨rfl, HB4.out⟩
end Go.Proofs.YtlnkfgdepddmladGreat
