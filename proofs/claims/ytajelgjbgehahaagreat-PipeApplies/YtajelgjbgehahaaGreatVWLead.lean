/- What a walker's lead does: the sets of one place are joined. -/
import Derived.Test.YtajelgjbgehahaaGreatVWSmall
import Derived.Deep.RegionHeld3
import Derived.Deep.MidRow
namespace Go.Proofs.YtajelgjbgehahaaGreat
open Go.RowKit

/-- the five cells of sets -/
structure Five (w : World) (g o : Nat) (s : Wk.Sets) : Prop where
  c0 : w.cell? ⟨g, o, none⟩ = some (.int .u64 (s.must : Int))
  c1 : w.cell? ⟨g, o + 1, none⟩ = some (.int .u64 (s.may : Int))
  c2 : w.cell? ⟨g, o + 2, none⟩ = some (.int .i64 (s.least : Int))
  c3 : w.cell? ⟨g, o + 3, none⟩ = some (.int .i64 (s.most : Int))
  c4 : w.cell? ⟨g, o + 4, none⟩ = some (.bool s.there)

theorem Five.step {w w' : World} {g o : Nat} {s : Wk.Sets} (h : Five w g o s) (b : Below w.heap.size w w') : Five w' g o s :=
  ⟨cell_keep h.c0 b, cell_keep h.c1 b, cell_keep h.c2 b, cell_keep h.c3 b, cell_keep h.c4 b⟩

/-- nothing old has turned but one block -/
structure But (g : Nat) (w w' : World) : Prop where
  low : Below g w w'
  up : ∀ k, k < w.heap.size → k ≠ g → w'.heap[k]? = w.heap[k]?

theorem But.refl (g : Nat) (w : World) : But g w w := ⟨Below.refl _ _, fun _ _ _ => rfl⟩
theorem But.trans {g : Nat} {a b c : World} (h : But g a b) (k : But g b c) : But g a c :=
  ⟨h.low.trans k.low, fun i hi hg => (k.up i (Nat.lt_of_lt_of_le hi h.low.size) hg).trans (h.up i hi hg)⟩
theorem But.of {g : Nat} {w w' : World} (h : Below w.heap.size w w') (hg : g ≤ w.heap.size) : But g w w' := ⟨h.mono hg, fun k hk _ => h.block k hk⟩
theorem But.cell {g : Nat} {w w' : World} (h : But g w w') {k o : Nat} {v : Value} (hk : k ≠ g) (hc : w.cell? ⟨k, o, none⟩ = some v) : w'.cell? ⟨k, o, none⟩ = some v := by
  have hl := World.block_lt_of_cell? w _ hc
  have e := h.up k hl hk
  simp only [World.cell?] at hc ⊢
  rw [e]; exact hc
theorem But.frozen {g : Nat} {w w' : World} (h : But g w w') {k o : Nat} (hk : k ≠ g) (hl : k < w.heap.size) : w'.frozen? ⟨k, o, none⟩ = w.frozen? ⟨k, o, none⟩ := by
  simp only [World.frozen?, h.up k hl hk]
theorem But.five {g : Nat} {w w' : World} (h : But g w w') {k o : Nat} {s : Wk.Sets} (hk : k ≠ g) (hf : Five w k o s) : Five w' k o s :=
  ⟨h.cell hk hf.c0, h.cell hk hf.c1, h.cell hk hf.c2, h.cell hk hf.c3, h.cell hk hf.c4⟩
theorem But.size {g : Nat} {w w' : World} (h : But g w w') : w.heap.size ≤ w'.heap.size := h.low.size

/-- the sets of all places, as they lie -/
structure Ahd (g : Nat) (A : List Wk.Sets) (w : World) : Prop where
  cs : ∀ i s, A[i]? = some s → Five w g (i * 5) s
  fz : ∀ o, w.frozen? ⟨g, o, none⟩ = false
  lt : g < w.heap.size

theorem Ahd.step {w w' : World} {g : Nat} {A : List Wk.Sets} (h : Ahd g A w) (b : Below w.heap.size w w') : Ahd g A w' :=
  ⟨fun i s hs => (h.cs i s hs).step b, fun o => (b.frozen (p := ⟨g, o, none⟩) h.lt).trans (h.fz o), Nat.lt_of_lt_of_le h.lt b.size⟩

/-- the world with the five cells stored -/
@[reducible] def put5 (w : World) (g o : Nat) (s : Wk.Sets) : World := ((((w.setCell ⟨g, o, none⟩ (.int .u64 (s.must : Int))).setCell ⟨g, o + 1, none⟩ (.int .u64 (s.may : Int))).setCell ⟨g, o + 2, none⟩ (.int .i64 (s.least : Int))).setCell ⟨g, o + 3, none⟩ (.int .i64 (s.most : Int))).setCell ⟨g, o + 4, none⟩ (.bool s.there)

theorem cell_other {w : World} {g o p : Nat} {v : Value} {u : Option Value} (h : w.cell? ⟨g, p, none⟩ = u) (hne : o ≠ p) : (w.setCell ⟨g, o, none⟩ v).cell? ⟨g, p, none⟩ = u := by
  rw [World.cell?_setCell_other _ _ _ _ (by intro e; simp only [Addr.mk.injEq] at e; omega)]
  exact h

theorem put5_far {w : World} {g o p : Nat} {s : Wk.Sets} (hne : p < o ∨ o + 5 ≤ p) : (put5 w g o s).cell? ⟨g, p, none⟩ = w.cell? ⟨g, p, none⟩ :=
  cell_other (cell_other (cell_other (cell_other (cell_other rfl (by omega)) (by omega)) (by omega)) (by omega)) (by omega)

theorem put5_five {w : World} {g o : Nat} {s x : Wk.Sets} (h : Five w g o x) : Five (put5 w g o s) g o s := by
  refine ⟨?_, ?_, ?_, ?_, ?_⟩
  · exact cell_other (cell_other (cell_other (cell_other (World.cell?_setCell_same _ _ _ h.c0) (by omega)) (by omega)) (by omega)) (by omega)
  · exact cell_other (cell_other (cell_other (World.cell?_setCell_same _ _ _ (cell_other h.c1 (by omega))) (by omega)) (by omega)) (by omega)
  · exact cell_other (cell_other (World.cell?_setCell_same _ _ _ (cell_other (cell_other h.c2 (by omega)) (by omega))) (by omega)) (by omega)
  · exact cell_other (World.cell?_setCell_same _ _ _ (cell_other (cell_other (cell_other h.c3 (by omega)) (by omega)) (by omega))) (by omega)
  · exact World.cell?_setCell_same _ _ _ (cell_other (cell_other (cell_other (cell_other h.c4 (by omega)) (by omega)) (by omega)) (by omega))

theorem set_but {w : World} {g o : Nat} {v : Value} : But g w (w.setCell ⟨g, o, none⟩ v) :=
  ⟨(Below.refl g w).setCell (p := ⟨g, o, none⟩) (Nat.le_refl g) _, fun _ _ hk => Below.heap_setCell _ _ _ _ hk⟩

theorem put5_but (w : World) (g o : Nat) (s : Wk.Sets) : But g w (put5 w g o s) := set_but.trans (set_but.trans (set_but.trans (set_but.trans set_but)))

theorem put5_ahd {g : Nat} {A : List Wk.Sets} {w : World} {j : Nat} {x : Wk.Sets} (h : Ahd g A w) (hj : A[j]? = some x) (s : Wk.Sets) : Ahd g (A.set j s) (put5 w g (j * 5) s) := by
  refine ⟨fun i y hy => ?_, fun o => ?_, ?_⟩
  · rw [List.getElem?_set] at hy
    by_cases e : j = i
    · subst e
      rw [if_pos rfl, if_pos (List.getElem?_eq_some_iff.1 hj).1] at hy
      cases hy
      exact put5_five (h.cs j x hj)
    · rw [if_neg e] at hy
      have hf := h.cs i y hy
      have far : ∀ k, k < 5 → (put5 w g (j * 5) s).cell? ⟨g, i * 5 + k, none⟩ = w.cell? ⟨g, i * 5 + k, none⟩ := fun k hk => put5_far (by omega)
      exact ⟨(far 0 (by decide)).trans hf.c0, (far 1 (by decide)).trans hf.c1, (far 2 (by decide)).trans hf.c2, (far 3 (by decide)).trans hf.c3, (far 4 (by decide)).trans hf.c4⟩
  · simp only [World.frozen?_setCell]
    exact h.fz o
  · simp only [World.size_setCell]
    exact h.lt

/-- the walker's own block -/
@[reducible] def wkBox (d : PlanD) (g : Nat) : Obj := .cells #[.slice d.heads.a d.heads.n d.heads.c, .slice d.mta.a d.mta.n d.mta.c, .slice d.states.a d.states.n d.states.c, .slice d.acts.a d.acts.n d.acts.c, .slice d.tabs.a d.tabs.n d.tabs.c, .slice d.nodes.a d.nodes.n d.nodes.c, .slice d.out.a d.out.n d.out.c, .slice (some ⟨g, 0, none⟩) (d.states.n + 1) (d.states.n + 1)] 172

/-- what of the walker's block is asked -/
structure WkB (d : PlanD) (q g : Nat) (w : World) : Prop where
  h0 : w.cell? ⟨q, 0, none⟩ = some (.slice d.heads.a d.heads.n d.heads.c)
  h2 : w.cell? ⟨q, 2, none⟩ = some (.slice d.states.a d.states.n d.states.c)
  h7 : w.cell? ⟨q, 7, none⟩ = some (.slice (some ⟨g, 0, none⟩) (d.states.n + 1) (d.states.n + 1))
  ne : q ≠ g

theorem WkB.step {d : PlanD} {q g : Nat} {w w' : World} (h : WkB d q g w) (b : Below w.heap.size w w') : WkB d q g w' := ⟨cell_keep h.h0 b, cell_keep h.h2 b, cell_keep h.h7 b, h.ne⟩
theorem WkB.but {d : PlanD} {q g : Nat} {w w' : World} (h : WkB d q g w) (b : But g w w') : WkB d q g w' := ⟨b.cell h.ne h.h0, b.cell h.ne h.h2, b.cell h.ne h.h7, h.ne⟩

/-- the sets behind a way that leads there -/
def leadA (n : Nat) (A : List Wk.Sets) (s : Wk.Sets) (to : Int) : List Wk.Sets := if to = 1001 then A else A.set (tgtN n to) (Wk.joinS (A.getD (tgtN n to) Wk.zero) s)

theorem keep6 {w w' : World} {q b : Nat} {v u0 u1 u2 u3 u4 : Value} (h : w.cell? ⟨q, 7, none⟩ = some v ∧ w.cell? ⟨b, 0, none⟩ = some u0 ∧ w.cell? ⟨b, 1, none⟩ = some u1 ∧ w.cell? ⟨b, 2, none⟩ = some u2 ∧ w.cell? ⟨b, 3, none⟩ = some u3 ∧ w.cell? ⟨b, 4, none⟩ = some u4) (k : Below w.heap.size w w') : w'.cell? ⟨q, 7, none⟩ = some v ∧ w'.cell? ⟨b, 0, none⟩ = some u0 ∧ w'.cell? ⟨b, 1, none⟩ = some u1 ∧ w'.cell? ⟨b, 2, none⟩ = some u2 ∧ w'.cell? ⟨b, 3, none⟩ = some u3 ∧ w'.cell? ⟨b, 4, none⟩ = some u4 :=
  ⟨cell_keep h.1 k, cell_keep h.2.1 k, cell_keep h.2.2.1 k, cell_keep h.2.2.2.1 k, cell_keep h.2.2.2.2.1 k, cell_keep h.2.2.2.2.2 k⟩

theorem keep6b {w : World} {g o : Nat} {r : Wk.Sets} {q b : Nat} {v u0 u1 u2 u3 u4 : Value} (hq : q ≠ g) (hb : b ≠ g) (h : w.cell? ⟨q, 7, none⟩ = some v ∧ w.cell? ⟨b, 0, none⟩ = some u0 ∧ w.cell? ⟨b, 1, none⟩ = some u1 ∧ w.cell? ⟨b, 2, none⟩ = some u2 ∧ w.cell? ⟨b, 3, none⟩ = some u3 ∧ w.cell? ⟨b, 4, none⟩ = some u4) : (put5 w g o r).cell? ⟨q, 7, none⟩ = some v ∧ (put5 w g o r).cell? ⟨b, 0, none⟩ = some u0 ∧ (put5 w g o r).cell? ⟨b, 1, none⟩ = some u1 ∧ (put5 w g o r).cell? ⟨b, 2, none⟩ = some u2 ∧ (put5 w g o r).cell? ⟨b, 3, none⟩ = some u3 ∧ (put5 w g o r).cell? ⟨b, 4, none⟩ = some u4 :=
  have k := put5_but w g o r
  ⟨k.cell hq h.1, k.cell hb h.2.1, k.cell hb h.2.2.1, k.cell hb h.2.2.2.1, k.cell hb h.2.2.2.2.1, k.cell hb h.2.2.2.2.2⟩

theorem Tryz.szSets : (Tryz.prog.info? 129).map (·.size) = some 5 := by kernel_rfl

/-- sets are stored, in a region that draws -/
theorem store5R {w : World} {ops : Array Oper} {o : Oper} {a : Act} {K : Act → World → Prop} {Q : Exit → Act → World → Prop} {E : Prop} {T : TypeId} (hT : (Tryz.prog.info? T).map (·.size) = some 5) (hgd : o.guard = none) (x y : Operand) (ho : o.op = .store T x y) (g f : Nat) (s t : Wk.Sets)
    (hx : a.eval x = .pointer (some ⟨g, f, none⟩)) (hy : a.eval y = .agg #[.int .u64 (s.must : Int), .int .u64 (s.may : Int), .int .i64 (s.least : Int), .int .i64 (s.most : Int), .bool s.there]) (hf : Five w g f t) (hz : ∀ o, w.frozen? ⟨g, o, none⟩ = false)
    (h : K (a.put o.dst undef) (put5 w g f s)) : if Region.wanted o (yielded ops a.tmps) = true then Oper.wp Tryz.prog o a w K Q else E := by
  have hw : Region.wanted o (yielded ops a.tmps) = true := by simp [Region.wanted, hgd]
  rw [if_pos hw]
  refine wp_store_mid T x y ho g f _ hx hy (fun j hj => ⟨?_, hz _⟩) hT (by simp [Value.oneCell']) h
  have hj : j < 5 := hj
  rcases (show j = 0 ∨ j = 1 ∨ j = 2 ∨ j = 3 ∨ j = 4 by omega) with rfl | rfl | rfl | rfl | rfl
  · rw [Nat.add_zero, hf.c0]; rfl
  · rw [hf.c1]; rfl
  · rw [hf.c2]; rfl
  · rw [hf.c3]; rfl
  · rw [hf.c4]; rfl

def LeadDone (g : Nat) (A : List Wk.Sets) (w : World) (e : Ending) (w' : World) : Prop := e = .returned (.tuple #[]) ∧ Ahd g A w' ∧ But g w w'

set_option maxHeartbeats 8000000 in
set_option maxRecDepth 20000 in
theorem lead_at {d : PlanD} {q g : Nat} {A : List Wk.Sets} {w : World} (s x : Wk.Sets) (to : Int) (j : Nat) (hb : WkB d q g w) (ha : Ahd g A w) (hs : s.few) (hx : x.few) (hj : A[j]? = some x) (hl : A.length = d.states.n + 1) (h1 : to ≠ 1001) (h2 : to = 1000 ∧ j = d.states.n ∨ to ≠ 1000 ∧ to = (j : Int)) :
    Calls Tryz.prog 103 #[.pointer (some ⟨q, 0, none⟩), .int .i64 to, s.v] w (LeadDone g (A.set j (Wk.joinS x s)) w) := by
  have hjl : j < d.states.n + 1 := by have := (List.getElem?_eq_some_iff.1 hj).1; omega
  obtain ⟨m, hmm⟩ : ∃ m, m = d.states.n + 1 := ⟨_, rfl⟩
  obtain ⟨W1, hW⟩ : ∃ W1, W1 = w.alloc (.cells #[.int .u64 (s.must : Int), .int .u64 (s.may : Int), .int .i64 (s.least : Int), .int .i64 (s.most : Int), .bool s.there] 129) := ⟨_, rfl⟩
  have b1 : Below w.heap.size w W1 := by rw [hW]; exact bl_alloc (Below.refl _ _)
  have hbs : Five W1 w.heap.size 0 s := by rw [hW]; refine ⟨?_, ?_, ?_, ?_, ?_⟩ <;> exact (World.cell?_alloc_at _ _ _ _ rfl).trans rfl
  have hb1 := hb.step b1
  have ha1 := ha.step b1
  obtain ⟨z0, z2, z7, hne⟩ := hb1
  obtain ⟨x0, x1, x2, x3, x4⟩ := ha1.cs j x hj
  obtain ⟨y0, y1, y2, y3, y4⟩ := hbs
  have hbd : Below W1.heap.size W1 W1.drew := (Below.refl _ _).drew
  have HJ : Hid (Calls Tryz.prog 134 #[.agg #[.int .u64 (x.must : Int), .int .u64 (x.may : Int), .int .i64 (x.least : Int), .int .i64 (x.most : Int), .bool x.there], .agg #[.int .u64 (s.must : Int), .int .u64 (s.may : Int), .int .i64 (s.least : Int), .int .i64 (s.most : Int), .bool s.there]] W1.drew fun e w'' => e = .returned (.agg #[.int .u64 ((Wk.joinS x s).must : Int), .int .u64 ((Wk.joinS x s).may : Int), .int .i64 ((Wk.joinS x s).least : Int), .int .i64 ((Wk.joinS x s).most : Int), .bool (Wk.joinS x s).there]) ∧ Below W1.drew.heap.size W1.drew w'') := join_any x s hx hs W1.drew
  have HE : Hid (∀ w', Below W1.heap.size W1 w' → LeadDone g (A.set j (Wk.joinS x s)) w (.returned (.tuple #[])) (put5 w' g (j * 5) (Wk.joinS x s))) := fun w' h => ⟨rfl, put5_ahd (ha1.step h) hj _, (But.of (bl_step b1 h) (Nat.le_of_lt ha.lt)).trans (put5_but _ _ _ _)⟩
  have HA := hid ha1
  have EW := hid hW
  obtain ⟨b, hbb⟩ : ∃ b, b = w.heap.size := ⟨_, rfl⟩
  rw [← hbb] at y0 y1 y2 y3 y4
  simp only [Nat.zero_add] at y1 y2 y3 y4
  have EB := hid hbb
  have hbg : b ≠ g := by have := ha.lt; omega
  have hji : (j : Int) < (m : Int) := by omega
  have hj0 : (0 : Int) ≤ (j : Int) := by omega
  rw [← hmm] at z7
  have HC : Hid (∀ w', Below W1.heap.size W1 w' → w'.cell? ⟨q, 7, none⟩ = some (.slice (some ⟨g, 0, none⟩) m m) ∧ Five w' g (j * 5) x ∧ ∀ o, w'.frozen? ⟨g, o, none⟩ = false) := fun w' h => ⟨cell_keep z7 h, (HA.out.step h).cs j x hj, (HA.out.step h).fz⟩
  have k2 : ∀ o, (w.alloc o).cell? ⟨q, 2, none⟩ = some (.slice d.states.a d.states.n d.states.c) := fun o => cell_keep hb.h2 (bl_alloc (Below.refl _ _))
  generalize Wk.joinS x s = r at *
  clear hb ha hW hbb hs hx ha1 hj hl hjl hmm HA b1
  rcases h2 with ⟨rfl, hjn⟩ | ⟨h2, rfl⟩
  · have k3 : ∀ o, (w.alloc o).cell? ⟨q, 2, none⟩ = some (.slice d.states.a j d.states.c) := fun o => by rw [hjn]; exact k2 o
    clear hjn h1 hbg hne z0 z2 k2
    go_enter Tryz.func103, Tryz.ntmps103
    go_wp2_with fail
    rw [← EW.out, ← EB.out]
    clear EW EB
    go_region_with (go_at_call 134; refine HJ.out.mono ?_; rintro e wx ⟨rfl, hbx⟩; have HX := hid (bl_step hbd hbx); obtain ⟨t7, ⟨t0, t1, t2, t3, t4⟩, tf⟩ := HC.out _ HX.out; have f0 := tf (j * 5); have f1 := tf (j * 5 + 1); have f2 := tf (j * 5 + 2); have f3 := tf (j * 5 + 3); have f4 := tf (j * 5 + 4); clear hbx tf x0 x1 x2 x3 x4 y0 y1 y2 y3 y4 z7 hbd k3)
    all_goals
      have HY := hid (HE.out _ HX.out)
      clear HX HC HE
      go_wp2
      go_end0
      exact HY.out
  · have e1 : ((j : Int) == 1001) = false := by rw [beq_eq_false_iff_ne]; exact h1
    have e2 : ((j : Int) == 1000) = false := by rw [beq_eq_false_iff_ne]; exact h2
    clear h1 h2 hbg hne z0 z2
    go_enter Tryz.func103, Tryz.ntmps103
    go_wp2_with fail
    rw [← EW.out, ← EB.out]
    clear EW EB
    go_region_with (go_at_call 134; refine HJ.out.mono ?_; rintro e wx ⟨rfl, hbx⟩; have HX := hid (bl_step hbd hbx); obtain ⟨t7, ⟨t0, t1, t2, t3, t4⟩, tf⟩ := HC.out _ HX.out; have f0 := tf (j * 5); have f1 := tf (j * 5 + 1); have f2 := tf (j * 5 + 2); have f3 := tf (j * 5 + 3); have f4 := tf (j * 5 + 4); clear hbx tf x0 x1 x2 x3 x4 y0 y1 y2 y3 y4 z7 hbd k2)
    all_goals
      have HY := hid (HE.out _ HX.out)
      clear HX HC HE
      go_wp2
      go_end0
      exact HY.out
end Go.Proofs.YtajelgjbgehahaaGreat
