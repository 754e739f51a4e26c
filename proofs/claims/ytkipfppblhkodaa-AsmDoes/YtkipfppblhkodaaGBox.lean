/- What is told of a right program; boxes. (Taken out of GEnc, GWr3, GRd3 in round 15, for seats without the writer.) -/
import Derived.Test.YtkipfppblhkodaaGChk
import Derived.Test.YtkipfppblhkodaaGRow
namespace Go.Proofs.Ytkipfppblhkodaa
open Go.RowKit

theorem gbox_cell {w : World} {b : Nat} {cs : Array Value} {T : TypeId} {f : Nat × Nat} (h : w.heap[b]? = some (.cells cs T f)) (i : Nat) : w.cell? ⟨b, i, none⟩ = cs[i]? := by simp [World.cell?, h]
theorem galloc_at (w : World) (cs : Array Value) (T : TypeId) : (w.alloc (.cells cs T)).heap[w.heap.size]? = some (.cells cs T (0, 0)) := heap_alloc_new w _
def kShapeE (t : ShapeD) : List Value := [.int .i64 t.keys, .int .i64 t.acts, .int .i64 t.args]
def kInsE (x : InsD) : List Value := [.int .i64 x.op, .int .i64 x.r, .int .i64 x.s, .int .i64 x.k, .int .i64 x.to, .int .u64 x.n]

/-- what is told of a right instruction's numbers -/
structure InsFit (x : InsD) : Prop where
  op : 0 ≤ x.op ∧ x.op < 256
  r : 0 ≤ x.r ∧ x.r < 256
  s : 0 ≤ x.s ∧ x.s < 256
  k : 0 ≤ x.k ∧ x.k < 256
  to : 0 ≤ x.to ∧ x.to < 65536
  n : 0 ≤ x.n ∧ x.n < 18446744073709551616

theorem inB_true {n a b : Int} (h : inB n a b = true) : a ≤ n ∧ n ≤ b := by simpa [inB] using h

theorem ins_fit {slots : Int} {ts : List ShapeD} {m i : Int} {x : InsD} (hs : slots ≤ 96) (ht : ∀ t ∈ ts, 1 ≤ t.keys ∧ t.keys ≤ 3 ∧ 0 ≤ t.args ∧ t.args ≤ 3) (hm : m ≤ 60000) (hi : 0 ≤ i) (hn : 0 ≤ x.n ∧ x.n < 18446744073709551616) (h : insN slots ts m i x = 0) : InsFit x := by
  unfold insN at h
  by_cases h1 : (formB x && fitsB slots ts x) = false
  · rw [if_pos h1] at h; exact absurd h (by decide)
  rw [if_neg h1] at h
  simp only [Bool.and_eq_false_iff, not_or, Bool.not_eq_false] at h1
  obtain ⟨hf, hq⟩ := h1
  by_cases h2 : (hasT x.op && decide (m - 1 - i ≤ x.to)) = true
  · rw [if_pos h2] at h; exact absurd h (by decide)
  clear h
  unfold formB at hf
  simp only [Bool.and_eq_true, decide_eq_true_eq] at hf
  obtain ⟨⟨⟨f1, f2⟩, f3⟩, f4⟩ := hf
  have f1 := inB_true f1
  unfold bareB at f2
  simp only [Bool.and_eq_true, Bool.or_eq_true, decide_eq_true_eq] at f2
  obtain ⟨⟨⟨⟨b1, b2⟩, b3⟩, b4⟩, b5⟩ := f2
  unfold regsB at f3
  simp only [Bool.and_eq_true, Bool.or_eq_true, decide_eq_true_eq] at f3
  obtain ⟨g1, g2⟩ := f3
  have g1 := inB_true g1
  have hto : x.to < 65536 := by
    rcases b4 with b4 | b4
    · simp only [b4, Bool.true_and, decide_eq_true_eq] at h2
      omega
    · omega
  have hcall : x.op = 13 → 0 ≤ x.s ∧ x.s ≤ 96 ∧ 0 ≤ x.k ∧ x.k ≤ 96 := by
    intro e
    unfold fitsB at hq
    rw [if_neg (by omega), if_neg (by omega), if_neg (by omega), if_neg (by omega), if_neg (by omega), if_pos e] at hq
    unfold callB at hq
    cases hg : ts[x.n.toNat]? with
    | none => rw [hg] at hq; simp at hq
    | some t =>
      rw [hg] at hq
      simp only [Bool.and_eq_true] at hq
      have q1 := inB_true hq.1
      have q2 := inB_true hq.2
      have := ht t (List.mem_of_getElem? hg)
      omega
  have hk : 0 ≤ x.k ∧ x.k < 256 := by
    by_cases e3 : x.op = 3
    · unfold fitsB at hq
      rw [if_pos e3] at hq
      have := inB_true hq
      omega
    by_cases e6 : x.op = 6
    · unfold fitsB at hq
      rw [if_neg e3, if_pos e6] at hq
      simp only [Bool.and_eq_true] at hq
      have := inB_true hq.1
      omega
    by_cases e14 : x.op = 14
    · unfold fitsB at hq
      rw [if_neg e3, if_neg e6, if_pos e14] at hq
      have := inB_true hq
      omega
    by_cases e13 : x.op = 13
    · have := hcall e13; omega
    rcases b3 with b3 | b3
    · exfalso
      unfold hasK fieldsN at b3
      repeat' split at b3
      all_goals first
        | omega
        | exact absurd b3 (by decide)
    · omega
  have hs' : 0 ≤ x.s ∧ x.s < 256 := by
    rcases g2 with g2 | g2
    · have := hcall g2; omega
    · have := inB_true g2; omega
  exact ⟨by omega, by omega, hs', hk, by omega, hn⟩

theorem inss_all {slots : Int} {ts : List ShapeD} {m : Int} : ∀ {cs : List InsD} {i : Int}, 0 ≤ i → (inssN slots ts m cs i).1 = 0 → ∀ x ∈ cs, ∃ j, 0 ≤ j ∧ insN slots ts m j x = 0 := by
  intro cs
  induction cs with
  | nil => intro i _ _ x hx; simp at hx
  | cons y r ih =>
    intro i hi h x hx
    rw [inssN] at h
    by_cases h1 : insN slots ts m i y = 0
    · rw [if_pos h1] at h
      rcases List.mem_cons.1 hx with rfl | hx
      · exact ⟨i, hi, h1⟩
      · exact ih (by omega) h x hx
    · rw [if_neg h1] at h
      exact absurd h h1

/-- a right program's numbers -/
structure ProgFit (slots : Int) (ts : List ShapeD) (cs : List InsD) : Prop where
  s : 0 ≤ slots ∧ slots ≤ 96
  nt : ts.length ≤ 5
  nc : 1 ≤ cs.length ∧ cs.length ≤ 60000
  t : ∀ t ∈ ts, (1 ≤ t.keys ∧ t.keys ≤ 3) ∧ (1 ≤ t.acts ∧ t.acts ≤ 8) ∧ (0 ≤ t.args ∧ t.args ≤ 3)
  c : ∀ x ∈ cs, InsFit x

theorem chk_fit {slots : Int} {ts : List ShapeD} {cs : List InsD} (hw : ∀ x ∈ cs, x.wf) (h : (chkW slots ts cs).1 = 0) : ProgFit slots ts cs := by
  unfold chkW at h
  by_cases h1 : (sizesN slots ts cs.length).1 ≠ 0
  · rw [if_pos h1] at h; exact absurd h h1
  rw [if_neg h1] at h
  by_cases h2 : (inssN slots ts cs.length cs 0).1 ≠ 0
  · rw [if_pos h2] at h; exact absurd h h2
  clear h
  have h1 : (sizesN slots ts cs.length).1 = 0 := by simpa using h1
  have h2 : (inssN slots ts cs.length cs 0).1 = 0 := by simpa using h2
  unfold sizesN at h1
  by_cases a1 : inB slots 0 96 = false
  · rw [if_pos a1] at h1; exact absurd h1 (by decide)
  rw [if_neg a1] at h1
  have a1' := inB_true (by simpa using a1 : inB slots 0 96 = true)
  by_cases a2 : (decide (5 < (ts.length : Int)) || !inB cs.length 1 60000) = true
  · rw [if_pos a2] at h1; exact absurd h1 (by decide)
  rw [if_neg a2] at h1
  simp only [Bool.or_eq_true, decide_eq_true_eq, Bool.not_eq_true', not_or, Bool.not_eq_false] at a2
  have a3 := inB_true a2.2
  have ht : ∀ t ∈ ts, (1 ≤ t.keys ∧ t.keys ≤ 3) ∧ (1 ≤ t.acts ∧ t.acts ≤ 8) ∧ (0 ≤ t.args ∧ t.args ≤ 3) := fun t ht => by
    have := shapes_all h1 t ht
    unfold shapeB at this
    simp only [Bool.and_eq_true] at this
    exact ⟨inB_true this.1.1, inB_true this.1.2, inB_true this.2⟩
  refine ⟨a1', by omega, by omega, ht, fun x hx => ?_⟩
  obtain ⟨j, hj, e⟩ := inss_all (by decide) h2 x hx
  have := bounds_u64 (hw x hx).2.2.2.2.2
  exact ins_fit a1'.2 (fun t h => ⟨(ht t h).1.1, (ht t h).1.2, (ht t h).2.2⟩) (by omega) hj (by omega) e

theorem ProgD.lie.wfs {d : ProgD} {w : World} (h : d.lie w) : ∀ x ∈ d.cs, x.wf := by
  intro x hx
  obtain ⟨i, hi, rfl⟩ := List.getElem_of_mem hx
  obtain ⟨g, off, _, hp⟩ := h.c.2 i _ (List.getElem?_eq_getElem hi)
  exact hp.wf
/-- the program's block and the fault's, as Encode lays them -/
structure GEncAt (d : ProgD) (w W2 : World) (s f : Nat) : Prop where
  p : PBox d W2 s
  ff : W2.heap[f]? = some (.cells #[.int .i64 0, .int .i64 0] 43 (0, 0))
  wf : w.heap.size ≤ f
  sl : s < f

theorem genc_at (d : ProgD) (w : World) : GEncAt d w ((w.alloc (.cells #[.int .i64 d.slots, .slice d.tabs.a d.tabs.n d.tabs.c, .slice d.code.a d.code.n d.code.c] 41)).alloc (.cells #[.int .i64 0, .int .i64 0] 43)) w.heap.size (w.heap.size + 1) :=
  ⟨(pbox_new d w).step (bl_alloc (Below.refl _ _)), by
    have := galloc_at (w.alloc (.cells #[.int .i64 d.slots, .slice d.tabs.a d.tabs.n d.tabs.c, .slice d.code.a d.code.n d.code.c] 41)) #[.int .i64 0, .int .i64 0] 43
    simpa using this, by omega, by omega⟩

theorem GEncAt.step {d : ProgD} {w W2 W3 : World} {s f : Nat} (h : GEncAt d w W2 s f) (b : Below W2.heap.size W2 W3) : GEncAt d w W3 s f :=
  ⟨h.p.step b, (b.block f (Array.getElem?_eq_some_iff.1 h.ff).1).trans h.ff, h.wf, h.sl⟩
theorem Try.ginfoShape : (Try.prog.info? 52).map (fun i => (i.zero, i.size, i.bytes)) = some (some (.agg #[.int .i64 0, .int .i64 0, .int .i64 0]), 3, 24) := by kernel_rfl
theorem Try.ginfoIns : (Try.prog.info? 34).map (fun i => (i.zero, i.size, i.bytes)) = some (some (.agg #[.int .i64 0, .int .i64 0, .int .i64 0, .int .i64 0, .int .i64 0, .int .u64 0]), 6, 48) := by kernel_rfl
theorem cell_blk {w w' : World} {g o : Nat} {v : Value} (h : w'.heap[g]? = w.heap[g]?) (hc : w.cell? ⟨g, o, none⟩ = some v) : w'.cell? ⟨g, o, none⟩ = some v := by
  simp only [World.cell?, h] at hc ⊢
  exact hc
theorem CI.blk {w w' : World} {g o : Nat} {n : Int} (h : CI w g o n) (e : w'.heap[g]? = w.heap[g]?) : CI w' g o n := ⟨cell_blk e h.1, h.2⟩
theorem CU.blk {w w' : World} {g o : Nat} {n : Int} (h : CU w g o n) (e : w'.heap[g]? = w.heap[g]?) : CU w' g o n := ⟨cell_blk e h.1, h.2⟩
theorem ProgD.lie.blk {d : ProgD} {w w' : World} (h : d.lie w) (ht : ∀ ad, d.tabs.a = some ad → w'.heap[ad.block]? = w.heap[ad.block]?) (hc : ∀ ad, d.code.a = some ad → w'.heap[ad.block]? = w.heap[ad.block]?) : d.lie w' := by
  refine ⟨h.ws, h.n1, h.n2, ⟨h.t.1, fun i x hx => ?_⟩, ⟨h.c.1, fun i x hx => ?_⟩⟩
  · obtain ⟨g, off, e, hp⟩ := h.t.2 i x hx
    have q : w'.heap[g]? = w.heap[g]? := ht _ e
    exact ⟨g, off, e, hp.1.blk q, hp.2.1.blk q, hp.2.2.blk q⟩
  · obtain ⟨g, off, e, hp⟩ := h.c.2 i x hx
    have q : w'.heap[g]? = w.heap[g]? := hc _ e
    exact ⟨g, off, e, hp.1.blk q, hp.2.1.blk q, hp.2.2.1.blk q, hp.2.2.2.1.blk q, hp.2.2.2.2.1.blk q, hp.2.2.2.2.2.blk q⟩
end Go.Proofs.Ytkipfppblhkodaa
