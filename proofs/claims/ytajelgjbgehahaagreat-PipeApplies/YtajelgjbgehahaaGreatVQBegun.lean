/- What planBegun does. -/
import Derived.Test.YtajelgjbgehahaaGreatVQCheck
import Derived.Test.YtajelgjbgehahaaGreatJ12
import Derived.Test.YtajelgjbgehahaaGreatVSize
namespace Go.Proofs.YtajelgjbgehahaaGreat
open Go.RowKit

set_option maxHeartbeats 2000000 in
set_option maxRecDepth 20000 in
/-- a header of one field of eight bits has no fault -/
theorem head_eight (d : PlanD) (w : World) (hl : d.lie w) (k : Nat) (hk : k < d.heads.n) (h8 : ∀ x, d.hs[k]? = some x → x.ws = [8]) :
    Calls Tryz.prog 93 #[d.v, .int .i64 k] w fun e w' => e = .returned (.int .i64 0) ∧ Below w.heap.size w w' := by
  obtain ⟨g, off, x, ea, hx, hp⟩ := row_at hl.hs hk
  rw [Nat.mul_one] at hp
  have e8 := h8 x hx
  have hz := hp.2
  rw [e8] at hz
  have hn : x.w.n = 1 := hz.1.symm
  have c0 := hp.1.1
  rw [hn] at hz c0
  have bw : ∀ o, Below w.heap.size w (w.alloc o) := fun o => bl_alloc (Below.refl _ _)
  have k0 : ∀ o, (w.alloc o).cell? ⟨g, off + k, none⟩ = some (.slice x.w.a 1 x.w.c) := fun o => cell_keep c0 (bw o)
  have HS : Hid (∀ o, Calls Tryz.prog 70 #[.agg #[.slice x.w.a 1 x.w.c]] (w.alloc o) fun e w' => e = .returned (.tuple #[.int .i64 1, .agg #[.int .i64 0, .int .i64 0]]) ∧ Below (w.alloc o).heap.size (w.alloc o) w') := fun o =>
    (size_end x.w.a 1 x.w.c [8] (w.alloc o) (by omega) (by omega) (hz.step (bw o)) (by
      intro j hj
      have : j = 0 := by omega
      subst this
      exact ⟨by decide, by decide⟩)).mono (by
      rintro e w' ⟨y, rfl, ht, hb⟩
      have h8 : Mth.off [8] 1 = 8 := by decide
      rw [h8] at ht
      exact ⟨by rw [ht.1 ⟨by decide, by decide⟩]; rfl, hb⟩)
  have hki : (k : Int) < (d.heads.n : Int) := by omega
  clear hl h8 hx hp e8 hz hn c0
  go_enter Tryz.func93, Tryz.ntmps93
  go_wp2_with fail
  refine (HS.out _).mono ?_
  rintro e w1 ⟨rfl, hb1⟩
  have HB := hid (bl_step (bw _) hb1)
  clear HS hb1 bw k0
  go_wp2
  go_ret
  exact ⟨rfl, bl_alloc HB.out⟩

/-- the plan of planBegun -/
@[reducible] def BD (p0 p1 p2 : Nat) (els : Int) : PlanD := ⟨⟨some ⟨p1, 0, none⟩, 1, 1⟩, [⟨⟨some ⟨p0, 0, none⟩, 1, 1⟩, [8]⟩], ⟨none, 0, 0⟩, [], ⟨some ⟨p2, 0, none⟩, 1, 1⟩, [⟨0, ⟨0, 0⟩, ⟨none, 0, 0⟩, [], els⟩], ⟨none, 0, 0⟩, [], ⟨none, 0, 0⟩, [], ⟨none, 0, 0⟩, [], ⟨none, 0, 0⟩, []⟩

theorem row_nil {α : Type} {k : Nat} {P : α → World → Nat → Nat → Prop} {w : World} : QRow k P w ⟨none, 0, 0⟩ ([] : List α) := ⟨rfl, by simp⟩

/-- the cells of that plan -/
structure BCells (w : World) (p0 p1 p2 : Nat) (els : Int) : Prop where
  c0 : w.cell? ⟨p0, 0, none⟩ = some (.int .i64 8)
  c1 : w.cell? ⟨p1, 0, none⟩ = some (.slice (some ⟨p0, 0, none⟩) 1 1)
  s0 : w.cell? ⟨p2, 0, none⟩ = some (.int .i64 0)
  s1 : w.cell? ⟨p2, 1, none⟩ = some (.int .i64 0)
  s2 : w.cell? ⟨p2, 2, none⟩ = some (.int .i64 0)
  s3 : w.cell? ⟨p2, 3, none⟩ = some (.slice none 0 0)
  s4 : w.cell? ⟨p2, 4, none⟩ = some (.int .i64 els)

theorem BCells.step {w w' : World} {p0 p1 p2 : Nat} {els : Int} (h : BCells w p0 p1 p2 els) (b : Below w.heap.size w w') : BCells w' p0 p1 p2 els :=
  ⟨cell_keep h.c0 b, cell_keep h.c1 b, cell_keep h.s0 b, cell_keep h.s1 b, cell_keep h.s2 b, cell_keep h.s3 b, cell_keep h.s4 b⟩

theorem BCells.lie {w : World} {p0 p1 p2 : Nat} {els : Int} (h : BCells w p0 p1 p2 els) (he : (Lit.int .i64 els).wf = true) : (BD p0 p1 p2 els).lie w := by
  have hz : Has .i64 w (some ⟨p0, 0, none⟩) 1 [8] := by
    refine ⟨rfl, ?_, .inr ⟨p0, 0, rfl, World.block_lt_of_cell? w _ h.c0, fun i hi => ?_⟩⟩
    · intro n hn
      simp only [List.mem_cons, List.not_mem_nil, or_false] at hn
      subst hn
      decide
    · have : i = 0 := by omega
      subst this
      simpa using h.c0
  have wf0 : (Lit.int .i64 0).wf = true := by decide
  refine ⟨⟨rfl, fun i d hd => ?_⟩, has_nil _ _, ⟨rfl, fun i d hd => ?_⟩, row_nil, row_nil, row_nil, has_nil _ _, Nat.le_refl _⟩
  · match i, hd with
    | 0, hd =>
      obtain rfl : _ = d := Option.some.inj hd
      exact ⟨p1, 0, rfl, ⟨by simpa using h.c1, by simp [QSl.nil0]⟩, hz⟩
  · match i, hd with
    | 0, hd =>
      obtain rfl : _ = d := Option.some.inj hd
      exact ⟨p2, 0, rfl, ⟨h.s0, wf0⟩, ⟨h.s1, wf0⟩, ⟨h.s2, wf0⟩, ⟨h.s3, fun _ => ⟨rfl, rfl⟩⟩, ⟨h.s4, he⟩, row_nil⟩

def bcs (els : Int) (k n : Nat) : Int := if k = 2 then wayC 1 n els else 0

theorem begun_check {w : World} {p0 p1 p2 : Nat} {els : Int} (h : BCells w p0 p1 p2 els) (he : (Lit.int .i64 els).wf = true) : Calls Tryz.prog 73 #[(BD p0 p1 p2 els).v] w (CheckDone (BD p0 p1 p2 els) (bcs els) w) := by
  refine check_any _ _ w fun k hk w' hb n hn => ?_
  have hl := (h.step hb).lie he
  rcases seven_ways hk with rfl | rfl | rfl | rfl | rfl | rfl | rfl
  · exact (head_eight _ w' hl n hn (fun x hx => by
      have : n = 0 := by have : n < 1 := hn; omega
      subst this
      obtain rfl : _ = x := Option.some.inj hx
      rfl))
  · exact absurd hn (Nat.not_lt_zero _)
  · have : n = 0 := by have : n < 1 := hn; omega
    subst this
    exact state_nil _ w' hl 0 hn _ rfl rfl ⟨(by decide : (0 : Int) ≤ 0), (by decide : (0 : Int) < ((1 : Nat) : Int))⟩
  · exact absurd hn (Nat.not_lt_zero _)
  · exact absurd hn (Nat.not_lt_zero _)
  · exact absurd hn (Nat.not_lt_zero _)
  · exact absurd hn (Nat.not_lt_zero _)

theorem begun_good {p0 p1 p2 : Nat} {C A : Int} (h : CheckIs (BD p0 p1 p2 1000) (bcs 1000) C A) : C = 0 := by
  have hz : ∀ k n, bcs 1000 k n = 0 := by
    intro k n
    unfold bcs wayC
    split <;> simp
  rcases h with ⟨k, hk, hf, hC, _⟩ | ⟨_, h, _⟩
  · rcases hf with ⟨hm, _⟩ | ⟨_, ⟨n, _, hn, _⟩ | ⟨_, h, _⟩⟩
    · exfalso
      rcases seven_ways hk with rfl | rfl | rfl | rfl | rfl | rfl | rfl <;> simp [manyOf, leastOf, mostOf] at hm
    · exact absurd (hz _ _) hn
    · exact h
  · exact h

theorem begun_bad {p0 p1 p2 : Nat} {C A : Int} (h : CheckIs (BD p0 p1 p2 0) (bcs 0) C A) : C = 11 ∧ A = 3000 := by
  have h2 : bcs 0 2 0 = 11 := by decide
  have hz : ∀ k n, k ≠ 2 → bcs 0 k n = 0 := by
    intro k n hk
    simp [bcs, hk]
  rcases h with ⟨k, hk, hf, hC, _⟩ | ⟨h, _, _⟩
  · rcases hf with ⟨hm, _⟩ | ⟨_, ⟨n, hlt, hn, _, hc, ha⟩ | ⟨_, h, _⟩⟩
    · exfalso
      rcases seven_ways hk with rfl | rfl | rfl | rfl | rfl | rfl | rfl <;> simp [manyOf, leastOf, mostOf] at hm
    · by_cases ek : k = 2
      · subst ek
        have : n = 0 := by have : n < 1 := hlt; omega
        subst this
        exact ⟨by rw [hc, h2], by rw [ha]; decide⟩
      · exact absurd (hz _ _ ek) hn
    · exact absurd h hC
  · exfalso
    obtain ⟨A, hf⟩ := h 2 (by omega)
    rcases hf with ⟨hm, _⟩ | ⟨_, ⟨n, hlt, hn, _, hc, _⟩ | ⟨h, _⟩⟩
    · simp [manyOf, leastOf, mostOf] at hm
    · exact hn hc.symm
    · have := h 0 (show 0 < 1 by omega)
      rw [h2] at this
      omega

/-- the store of planBegun: another Else -/
theorem BCells.put {w : World} {p0 p1 p2 : Nat} {els : Int} (h : BCells w p0 p1 p2 els) (y : Int) : BCells (w.setCell ⟨p2, 4, none⟩ (.int .i64 y)) p0 p1 p2 y := by
  refine ⟨?_, ?_, ?_, ?_, ?_, ?_, World.cell?_setCell_same _ _ _ h.s4⟩
  · rw [World.cell?_setCell_other _ _ _ _ (by simp)]; exact h.c0
  · rw [World.cell?_setCell_other _ _ _ _ (by simp)]; exact h.c1
  · rw [World.cell?_setCell_other _ _ _ _ (by simp)]; exact h.s0
  · rw [World.cell?_setCell_other _ _ _ _ (by simp)]; exact h.s1
  · rw [World.cell?_setCell_other _ _ _ _ (by simp)]; exact h.s2
  · rw [World.cell?_setCell_other _ _ _ _ (by simp)]; exact h.s3

abbrev B0 : Obj := .cells #[.int .i64 8] 3
abbrev B1 (p0 : Nat) : Obj := .cells #[.slice (some ⟨p0, 0, none⟩) 1 1] 63
abbrev B2 : Obj := .cells #[.int .i64 0, .int .i64 0, .int .i64 0, .slice none 0 0, .int .i64 1000] 66

theorem begun_cells (w : World) (o : Obj) : BCells ((((w.alloc B0).alloc (B1 w.heap.size)).alloc B2).alloc o) w.heap.size (w.heap.size + 1) (w.heap.size + 1 + 1) 1000 := by
  refine ⟨?_, ?_, ?_, ?_, ?_, ?_, ?_⟩
  · exact (World.cell?_alloc_past _ _ _ (by simp; omega)).trans ((World.cell?_alloc_past _ _ _ (by simp; omega)).trans ((World.cell?_alloc_past _ _ _ (by simp)).trans ((World.cell?_alloc_at _ _ _ _ rfl).trans rfl)))
  · exact (World.cell?_alloc_past _ _ _ (by simp)).trans ((World.cell?_alloc_past _ _ _ (by simp)).trans ((World.cell?_alloc_at _ _ _ _ (by simp)).trans rfl))
  all_goals exact (World.cell?_alloc_past _ _ _ (by simp)).trans ((World.cell?_alloc_at _ _ _ _ (by simp)).trans rfl)

end Go.Proofs.YtajelgjbgehahaaGreat
