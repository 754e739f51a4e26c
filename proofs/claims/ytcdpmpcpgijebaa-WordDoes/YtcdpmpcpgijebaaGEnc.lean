/- word.Encode. -/
import Derived.Test.YtcdpmpcpgijebaaGWr3
import Derived.Lib.SlBytesConst
namespace Go.Proofs.Ytcdpmpcpgijebaa
open Go.RowKit

def gencL (slots : Int) (ts : List ShapeD) (cs : List InsD) : List Int := [83, 87, 1] ++ progL slots ts cs

/-- what is told of a right instruction's numbers -/
structure InsFit (x : InsD) : Prop where
  op : 0 ≤ x.op ∧ x.op < 256
  r : 0 ≤ x.r ∧ x.r < 256
  s : 0 ≤ x.s ∧ x.s < 256
  k : 0 ≤ x.k ∧ x.k < 256
  to : 0 ≤ x.to ∧ x.to < 65536
  n : 0 ≤ x.n ∧ x.n < 18446744073709551616

theorem inB_true {n a b : Int} (h : inB n a b = true) : a ≤ n ∧ n ≤ b := by simpa [inB] using h

theorem ins_fit {slots : Int} {ts : List ShapeD} {m i : Int} {x : InsD} (hs : slots ≤ 96) (ht : ∀ t ∈ ts, 1 ≤ t.keys ∧ t.keys ≤ 3 ∧ 0 ≤ t.args ∧ t.args ≤ 3) (hm : m ≤ 60000) (hi : 0 ≤ i) (hn : 0 ≤ x.n ∧ x.n < 18446744073709551616) (h : insN slots ts m i x = 0) : InsFit x := by
  unfold insN at h
  by_cases h1 : (formB x && fitsB slots ts x) = false
  · rw [if_pos h1] at h; exact absurd h (by decide)
  rw [if_neg h1] at h
  simp only [Bool.and_eq_false_iff, not_or, Bool.not_eq_false] at h1
  obtain ⟨hf, hq⟩ := h1
  by_cases h2 : (hasT x.op && decide (m - 1 - i ≤ x.to)) = true
  · rw [if_pos h2] at h; exact absurd h (by decide)
  clear h
  unfold formB at hf
  simp only [Bool.and_eq_true, decide_eq_true_eq] at hf
  obtain ⟨⟨⟨f1, f2⟩, f3⟩, f4⟩ := hf
  have f1 := inB_true f1
  unfold bareB at f2
  simp only [Bool.and_eq_true, Bool.or_eq_true, decide_eq_true_eq] at f2
  obtain ⟨⟨⟨⟨b1, b2⟩, b3⟩, b4⟩, b5⟩ := f2
  unfold regsB at f3
  simp only [Bool.and_eq_true, Bool.or_eq_true, decide_eq_true_eq] at f3
  obtain ⟨g1, g2⟩ := f3
  have g1 := inB_true g1
  have hto : x.to < 65536 := by
    rcases b4 with b4 | b4
    · simp only [b4, Bool.true_and, decide_eq_true_eq] at h2
      omega
    · omega
  have hcall : x.op = 13 → 0 ≤ x.s ∧ x.s ≤ 96 ∧ 0 ≤ x.k ∧ x.k ≤ 96 := by
    intro e
    unfold fitsB at hq
    rw [if_neg (by omega), if_neg (by omega), if_neg (by omega), if_neg (by omega), if_neg (by omega), if_pos e] at hq
    unfold callB at hq
    cases hg : ts[x.n.toNat]? with
    | none => rw [hg] at hq; simp at hq
    | some t =>
      rw [hg] at hq
      simp only [Bool.and_eq_true] at hq
      have q1 := inB_true hq.1
      have q2 := inB_true hq.2
      have := ht t (List.mem_of_getElem? hg)
      omega
  have hk : 0 ≤ x.k ∧ x.k < 256 := by
    by_cases e3 : x.op = 3
    · unfold fitsB at hq
      rw [if_pos e3] at hq
      have := inB_true hq
      omega
    by_cases e6 : x.op = 6
    · unfold fitsB at hq
      rw [if_neg e3, if_pos e6] at hq
      simp only [Bool.and_eq_true] at hq
      have := inB_true hq.1
      omega
    by_cases e14 : x.op = 14
    · unfold fitsB at hq
      rw [if_neg e3, if_neg e6, if_pos e14] at hq
      have := inB_true hq
      omega
    by_cases e13 : x.op = 13
    · have := hcall e13; omega
    rcases b3 with b3 | b3
    · exfalso
      unfold hasK fieldsN at b3
      repeat' split at b3
      all_goals first
        | omega
        | exact absurd b3 (by decide)
    · omega
  have hs' : 0 ≤ x.s ∧ x.s < 256 := by
    rcases g2 with g2 | g2
    · have := hcall g2; omega
    · have := inB_true g2; omega
  exact ⟨by omega, by omega, hs', hk, by omega, hn⟩

theorem inss_all {slots : Int} {ts : List ShapeD} {m : Int} : ∀ {cs : List InsD} {i : Int}, 0 ≤ i → (inssN slots ts m cs i).1 = 0 → ∀ x ∈ cs, ∃ j, 0 ≤ j ∧ insN slots ts m j x = 0 := by
  intro cs
  induction cs with
  | nil => intro i _ _ x hx; simp at hx
  | cons y r ih =>
    intro i hi h x hx
    rw [inssN] at h
    by_cases h1 : insN slots ts m i y = 0
    · rw [if_pos h1] at h
      rcases List.mem_cons.1 hx with rfl | hx
      · exact ⟨i, hi, h1⟩
      · exact ih (by omega) h x hx
    · rw [if_neg h1] at h
      exact absurd h h1

/-- a right program's numbers -/
structure ProgFit (slots : Int) (ts : List ShapeD) (cs : List InsD) : Prop where
  s : 0 ≤ slots ∧ slots ≤ 96
  nt : ts.length ≤ 5
  nc : 1 ≤ cs.length ∧ cs.length ≤ 60000
  t : ∀ t ∈ ts, (1 ≤ t.keys ∧ t.keys ≤ 3) ∧ (1 ≤ t.acts ∧ t.acts ≤ 8) ∧ (0 ≤ t.args ∧ t.args ≤ 3)
  c : ∀ x ∈ cs, InsFit x

theorem chk_fit {slots : Int} {ts : List ShapeD} {cs : List InsD} (hw : ∀ x ∈ cs, x.wf) (h : (chkW slots ts cs).1 = 0) : ProgFit slots ts cs := by
  unfold chkW at h
  by_cases h1 : (sizesN slots ts cs.length).1 ≠ 0
  · rw [if_pos h1] at h; exact absurd h h1
  rw [if_neg h1] at h
  by_cases h2 : (inssN slots ts cs.length cs 0).1 ≠ 0
  · rw [if_pos h2] at h; exact absurd h h2
  clear h
  have h1 : (sizesN slots ts cs.length).1 = 0 := by simpa using h1
  have h2 : (inssN slots ts cs.length cs 0).1 = 0 := by simpa using h2
  unfold sizesN at h1
  by_cases a1 : inB slots 0 96 = false
  · rw [if_pos a1] at h1; exact absurd h1 (by decide)
  rw [if_neg a1] at h1
  have a1' := inB_true (by simpa using a1 : inB slots 0 96 = true)
  by_cases a2 : (decide (5 < (ts.length : Int)) || !inB cs.length 1 60000) = true
  · rw [if_pos a2] at h1; exact absurd h1 (by decide)
  rw [if_neg a2] at h1
  simp only [Bool.or_eq_true, decide_eq_true_eq, Bool.not_eq_true', not_or, Bool.not_eq_false] at a2
  have a3 := inB_true a2.2
  have ht : ∀ t ∈ ts, (1 ≤ t.keys ∧ t.keys ≤ 3) ∧ (1 ≤ t.acts ∧ t.acts ≤ 8) ∧ (0 ≤ t.args ∧ t.args ≤ 3) := fun t ht => by
    have := shapes_all h1 t ht
    unfold shapeB at this
    simp only [Bool.and_eq_true] at this
    exact ⟨inB_true this.1.1, inB_true this.1.2, inB_true this.2⟩
  refine ⟨a1', by omega, by omega, ht, fun x hx => ?_⟩
  obtain ⟨j, hj, e⟩ := inss_all (by decide) h2 x hx
  have := bounds_u64 (hw x hx).2.2.2.2.2
  exact ins_fit a1'.2 (fun t h => ⟨(ht t h).1.1, (ht t h).1.2, (ht t h).2.2⟩) (by omega) hj (by omega) e

theorem ProgD.lie.wfs {d : ProgD} {w : World} (h : d.lie w) : ∀ x ∈ d.cs, x.wf := by
  intro x hx
  obtain ⟨i, hi, rfl⟩ := List.getElem_of_mem hx
  obtain ⟨g, off, _, hp⟩ := h.c.2 i _ (List.getElem?_eq_getElem hi)
  exact hp.wf

/-- what Encode does -/
def GEncDone (d : ProgD) (w : World) (e : Ending) (w' : World) : Prop :=
  ((chkW d.slots d.ts d.cs).1 ≠ 0 ∧ e = .returned (.tuple #[.slice none 0 0, .agg #[.int .i64 (chkW d.slots d.ts d.cs).1, .int .i64 (chkW d.slots d.ts d.cs).2]]) ∧ Below w.heap.size w w') ∨
  ((chkW d.slots d.ts d.cs).1 = 0 ∧ ∃ a c, e = .returned (.tuple #[.slice a (gencL d.slots d.ts d.cs).length c, .agg #[.int .i64 0, .int .i64 0]]) ∧ GRowB w.heap.size (.slice a (gencL d.slots d.ts d.cs).length c) (gencL d.slots d.ts d.cs) w' ∧ Below w.heap.size w w')

/-- the program's block and the fault's, as Encode lays them -/
structure GEncAt (d : ProgD) (w W2 : World) (s f : Nat) : Prop where
  p : PBox d W2 s
  ff : W2.heap[f]? = some (.cells #[.int .i64 0, .int .i64 0] 31 (0, 0))
  wf : w.heap.size ≤ f
  sl : s < f

theorem genc_at (d : ProgD) (w : World) : GEncAt d w ((w.alloc (.cells #[.int .i64 d.slots, .slice d.tabs.a d.tabs.n d.tabs.c, .slice d.code.a d.code.n d.code.c] 25)).alloc (.cells #[.int .i64 0, .int .i64 0] 31)) w.heap.size (w.heap.size + 1) :=
  ⟨(pbox_new d w).step (bl_alloc (Below.refl _ _)), by
    have := galloc_at (w.alloc (.cells #[.int .i64 d.slots, .slice d.tabs.a d.tabs.n d.tabs.c, .slice d.code.a d.code.n d.code.c] 25)) #[.int .i64 0, .int .i64 0] 31
    simpa using this, by omega, by omega⟩

theorem GEncAt.step {d : ProgD} {w W2 W3 : World} {s f : Nat} (h : GEncAt d w W2 s f) (b : Below W2.heap.size W2 W3) : GEncAt d w W3 s f :=
  ⟨h.p.step b, (b.block f (Array.getElem?_eq_some_iff.1 h.ff).1).trans h.ff, h.wf, h.sl⟩

set_option maxHeartbeats 4000000 in
set_option maxRecDepth 20000 in
theorem genc_bad (d : ProgD) (w : World) (hl : d.lie w) (hs : d.small) (hc : (chkW d.slots d.ts d.cs).1 ≠ 0) : Calls Try.prog 10 #[d.v] w (GEncDone d w) := by
  obtain ⟨W2, hW⟩ : ∃ W2, W2 = ((w.alloc (.cells #[.int .i64 d.slots, .slice d.tabs.a d.tabs.n d.tabs.c, .slice d.code.a d.code.n d.code.c] 25)).alloc (.cells #[.int .i64 0, .int .i64 0] 31)) := ⟨_, rfl⟩
  obtain ⟨s, es⟩ : ∃ s, s = w.heap.size := ⟨_, rfl⟩
  obtain ⟨f, ef⟩ : ∃ f, f = w.heap.size + 1 := ⟨_, rfl⟩
  have HA : Hid (GEncAt d w W2 s f) := by rw [hW, es, ef]; exact genc_at d w
  have HB : Hid (Below w.heap.size w W2) := by rw [hW]; exact bl_alloc (bl_alloc (Below.refl _ _))
  have HCK := hid (gcheck d W2 (hl.step HB.out) hs)
  have HE : Hid (∀ w', Below w.heap.size w w' → GEncDone d w (.returned (.tuple #[.slice none 0 0, .agg #[.int .i64 (chkW d.slots d.ts d.cs).1, .int .i64 (chkW d.slots d.ts d.cs).2]])) w') := fun w' h => .inl ⟨hc, rfl, h⟩
  have hne : ((chkW d.slots d.ts d.cs).1 != 0) = true := by rw [bne_iff_ne]; exact hc
  have EW := hid hW
  have ES := hid es
  have EF := hid ef
  clear hl hs hc hW es ef
  unfold TellF at HCK
  generalize (chkW d.slots d.ts d.cs).1 = C at *
  generalize (chkW d.slots d.ts d.cs).2 = A at *
  dsimp only [ProgD.v] at HCK ⊢
  go_enter Try.func10, Try.ntmps10
  go_wp2_with fail
  rw [← EW.out, ← EF.out, ← ES.out]
  refine HCK.out.mono ?_
  rintro e w1 ⟨rfl, hb1⟩
  clear HCK EW ES EF
  have HA1 := hid (HA.out.step hb1)
  have HB1 := hid (bl_step HB.out hb1)
  have c0 := gbox_cell HA1.out.ff 0
  have c1 := gbox_cell HA1.out.ff 1
  have z0 : w1.frozen? ⟨f, 0, none⟩ = false := by simp [World.frozen?, HA1.out.ff]
  have z1 : w1.frozen? ⟨f, 1, none⟩ = false := by simp [World.frozen?, HA1.out.ff]
  have hfl : f < w1.heap.size := (Array.getElem?_eq_some_iff.1 HA1.out.ff).1
  have HX : Hid (∀ o, GEncDone d w (.returned (.tuple #[.slice none 0 0, .agg #[.int .i64 C, .int .i64 A]])) (((w1.setCell ⟨f, 0, none⟩ (.int .i64 C)).setCell ⟨f, 1, none⟩ (.int .i64 A)).alloc o).drew) := fun o => HE.out _ (bl_alloc ((HB1.out.setCell (p := ⟨f, 0, none⟩) HA.out.wf _).setCell (p := ⟨f, 1, none⟩) HA.out.wf _)).drew
  clear HA HB HA1 HE HB1 hb1
  go_wp2_with fail
  go_region
  all_goals
    go_wp2
    exact bodyPost_ret (v := .tuple #[.slice none 0 0, .agg #[.int .i64 C, .int .i64 A]]) (by simp [results, Try.results10, go_sem, *]) rfl (HX.out _)

theorem gwr_new {w : World} : GWr w.heap.size (w.heap.size + 1) [83, 87, 1] ((w.alloc (.cells #[.int .u8 83, .int .u8 87, .int .u8 1] 5 (3, 4))).alloc (.cells #[.slice (some ⟨w.heap.size, 0, none⟩) 3 3] 57)) := by
  refine ⟨⟨some ⟨w.heap.size, 0, none⟩, 3, ?_, .inr ⟨w.heap.size, #[.int .u8 83, .int .u8 87, .int .u8 1], (3, 4), rfl, Nat.le_refl _, ?_, rfl, by decide⟩⟩, by omega, ?_⟩
  · have := galloc_at (w.alloc (.cells #[.int .u8 83, .int .u8 87, .int .u8 1] 5 (3, 4))) #[.slice (some ⟨w.heap.size, 0, none⟩) 3 3] 57
    simpa using this
  · have hb : Below (w.alloc (.cells #[.int .u8 83, .int .u8 87, .int .u8 1] 5 (3, 4))).heap.size (w.alloc (.cells #[.int .u8 83, .int .u8 87, .int .u8 1] 5 (3, 4))) ((w.alloc (.cells #[.int .u8 83, .int .u8 87, .int .u8 1] 5 (3, 4))).alloc (.cells #[.slice (some ⟨w.heap.size, 0, none⟩) 3 3] 57)) := bl_alloc (Below.refl _ _)
    exact (hb.block w.heap.size (by simp)).trans (heap_alloc_new w _)
  · intro x hx
    simp only [List.mem_cons, List.not_mem_nil, or_false] at hx
    rcases hx with rfl | rfl | rfl <;> decide

theorem GRowB.far {B B' : Nat} {v : Value} {bs : List Int} {w : World} (h : GRowB B v bs w) (hB : B' ≤ B) : GRowB B' v bs w := by
  rcases h with h | ⟨g, cur, f, e, hg, r⟩
  · refine .inl ⟨h.1, ?_⟩
    rcases h.2 with h2 | ⟨g, c, cur, hv, hb, r⟩
    · exact .inl h2
    · exact .inr ⟨g, c, cur, hv, Nat.le_trans hB hb, r⟩
  · exact .inr ⟨g, cur, f, e, Nat.le_trans hB hg, r⟩

/-- a store into a block that holds no bytes -/
theorem GRowB.put {B : Nat} {v : Value} {bs : List Int} {w : World} (h : GRowB B v bs w) {f o : Nat} {cs : Array Value} {T : TypeId} {fz : Nat × Nat} (hf : w.heap[f]? = some (.cells cs T fz)) (hT : T ≠ 5) (u : Value) : GRowB B v bs (w.setCell ⟨f, o, none⟩ u) := by
  have hne : ∀ k, v.ownBlock = some k → k ≠ f := fun k hk e => by
    obtain ⟨_, cur, f', hh⟩ := h.blk hk
    rw [e, hf] at hh
    simp only [Option.some.injEq, Obj.cells.injEq] at hh
    exact hT hh.2.1
  rcases h with h | ⟨g, cur, f', e, hg, hh, r⟩
  · exact .inl (ownsRow_setCell_other h (fun e => hne f e rfl) _)
  · refine .inr ⟨g, cur, f', e, hg, ?_, r⟩
    rw [Below.heap_setCell _ _ _ _ (hne g (by rw [e]; rfl))]
    exact hh

set_option maxHeartbeats 4000000 in
set_option maxRecDepth 20000 in
theorem genc_good (d : ProgD) (w : World) (hl : d.lie w) (hs : d.small) (hc : (chkW d.slots d.ts d.cs).1 = 0) : Calls Try.prog 10 #[d.v] w (GEncDone d w) := by
  obtain ⟨W2, hW⟩ : ∃ W2, W2 = ((w.alloc (.cells #[.int .i64 d.slots, .slice d.tabs.a d.tabs.n d.tabs.c, .slice d.code.a d.code.n d.code.c] 25)).alloc (.cells #[.int .i64 0, .int .i64 0] 31)) := ⟨_, rfl⟩
  obtain ⟨s, es⟩ : ∃ s, s = w.heap.size := ⟨_, rfl⟩
  obtain ⟨f, ef⟩ : ∃ f, f = w.heap.size + 1 := ⟨_, rfl⟩
  have HA : Hid (GEncAt d w W2 s f) := by rw [hW, es, ef]; exact genc_at d w
  have HB : Hid (Below w.heap.size w W2) := by rw [hW]; exact bl_alloc (bl_alloc (Below.refl _ _))
  have HCK := hid (gcheck d W2 (hl.step HB.out) hs)
  have FIT := hid (chk_fit hl.wfs hc)
  have HE : Hid (∀ a c w', GRowB w.heap.size (.slice a ([83, 87, 1] ++ progL d.slots d.ts d.cs).length c) ([83, 87, 1] ++ progL d.slots d.ts d.cs) w' → Below w.heap.size w w' → GEncDone d w (.returned (.tuple #[.slice a ([83, 87, 1] ++ progL d.slots d.ts d.cs).length c, .agg #[.int .i64 0, .int .i64 0]])) w') := fun a c w' h1 h2 => .inr ⟨hc, a, c, rfl, h1, h2⟩
  have EW := hid hW
  have ES := hid es
  have EF := hid ef
  have HL := hid hl
  have HC0 := hid hc
  have HS := hid hs
  clear hl hs hc hW es ef
  unfold TellF at HCK
  rw [HC0.out] at HCK
  dsimp only [ProgD.v] at HCK ⊢
  go_enter Try.func10, Try.ntmps10
  go_wp2_with fail
  rw [← EW.out, ← EF.out, ← ES.out]
  refine HCK.out.mono ?_
  rintro e w1 ⟨rfl, hb1⟩
  clear HCK EW ES EF HC0
  generalize (chkW d.slots d.ts d.cs).2 = A
  obtain ⟨W3, hW3⟩ : ∃ W3, W3 = w1.alloc (.cells #[.int .i64 0, .int .i64 A] 31) := ⟨_, rfl⟩
  have b3 : Below W2.heap.size W2 W3 := by rw [hW3]; exact bl_alloc hb1
  have HA3 := hid (HA.out.step b3)
  have HB3 := hid (bl_step HB.out b3)
  have EW3 := hid hW3
  obtain ⟨W4, hW4⟩ : ∃ W4, W4 = ((W3.alloc (.cells #[.int .u8 83, .int .u8 87, .int .u8 1] 5 (3, 4))).alloc (.cells #[.slice (some ⟨W3.heap.size, 0, none⟩) 3 3] 57)) := ⟨_, rfl⟩
  obtain ⟨p, hp⟩ : ∃ p, p = W3.heap.size + 1 := ⟨_, rfl⟩
  have HWR : Hid (GWr W3.heap.size p [83, 87, 1] W4) := by rw [hW4, hp]; exact gwr_new
  have b4 : Below W3.heap.size W3 W4 := by rw [hW4]; exact bl_alloc (bl_alloc (Below.refl _ _))
  have HA4 := hid (HA3.out.step b4)
  have HPL := hid (gwprog W3 p [83, 87, 1] d W4 HWR.out b4 (HL.out.step HB3.out) HS.out FIT.out.s.1 (by decide) (fun t ht => by have := FIT.out.t t ht; exact ⟨by omega, by omega, by omega⟩) (fun x hx => by have := FIT.out.c x hx; exact ⟨this.op.1, this.r.1, this.s.1, this.k.1, this.to.1, this.n.1⟩))
  dsimp only [ProgD.v] at HPL
  have HB4 := hid (bl_step HB3.out b4)
  have hpf : p ≠ f := by have := (Array.getElem?_eq_some_iff.1 HA3.out.ff).1; omega
  have HPF := hid hpf
  have HW3S : Hid (w.heap.size ≤ W3.heap.size) := HB3.out.size
  have hs3 : W3.heap.size = w1.heap.size + 1 := by rw [hW3]; simp
  rw [EW3.out] at hW4
  have E4 : Hid (((w1.alloc (.cells #[.int .i64 0, .int .i64 A] 31)).alloc (.cells #[.int .u8 83, .int .u8 87, .int .u8 1] 5 (3, 4))).alloc (.cells #[.slice (some ⟨w1.heap.size + 1, 0, none⟩) 3 3] 57) = W4) := by
    show _ = _
    rw [hW4]
    simp
  have EP : Hid (w1.heap.size + 1 + 1 = p) := by show _ = _; omega
  have hcv : (convert 26 26 (.slice (some ⟨w1.heap.size + 1, 0, none⟩) 3 3)).run Try.prog ((w1.alloc (.cells #[.int .i64 0, .int .i64 A] 31)).alloc (.cells #[.int .u8 83, .int .u8 87, .int .u8 1] 5)) = .ok (.slice (some ⟨w1.heap.size + 1, 0, none⟩) 3 3) ((w1.alloc (.cells #[.int .i64 0, .int .i64 A] 31)).alloc (.cells #[.int .u8 83, .int .u8 87, .int .u8 1] 5 (3, 4))) := by
    have := Lib.run_convert_bytes_const (P := Try.prog) (w1.alloc (.cells #[.int .i64 0, .int .i64 A] 31)) 26 5 #[.int .u8 83, .int .u8 87, .int .u8 1] 3 3 Try.underlying26 Try.underlying5
    simpa using this
  have m0 : (((w1.alloc (.cells #[.int .i64 0, .int .i64 A] 31)).alloc (.cells #[.int .u8 83, .int .u8 87, .int .u8 1] 5 (3, 4))).alloc (.cells #[.slice (some ⟨w1.heap.size + 1, 0, none⟩) 3 3] 57)).cell? ⟨s, 0, none⟩ = some (.int .i64 d.slots) := by rw [E4.out]; exact HA4.out.p.c0
  have m1 : (((w1.alloc (.cells #[.int .i64 0, .int .i64 A] 31)).alloc (.cells #[.int .u8 83, .int .u8 87, .int .u8 1] 5 (3, 4))).alloc (.cells #[.slice (some ⟨w1.heap.size + 1, 0, none⟩) 3 3] 57)).cell? ⟨s, 1, none⟩ = some (.slice d.tabs.a d.tabs.n d.tabs.c) := by rw [E4.out]; exact HA4.out.p.c1
  have m2 : (((w1.alloc (.cells #[.int .i64 0, .int .i64 A] 31)).alloc (.cells #[.int .u8 83, .int .u8 87, .int .u8 1] 5 (3, 4))).alloc (.cells #[.slice (some ⟨w1.heap.size + 1, 0, none⟩) 3 3] 57)).cell? ⟨s, 2, none⟩ = some (.slice d.code.a d.code.n d.code.c) := by rw [E4.out]; exact HA4.out.p.c2
  clear hW4 hp b4 HA3 HB3 EW3 HWR hW3 b3 hb1 HA HB hs3 hpf
  go_wp2_with fail
  rw [E4.out, EP.out]
  refine HPL.out.mono ?_
  rintro e w5 ⟨rfl, h5, hb5, hf5⟩
  clear hcv E4 EP HPL m0 m1 m2
  have HB5 := hid (HB4.out.trans (hb5.mono HW3S.out))
  have HF5 : Hid (w5.heap[f]? = some (.cells #[.int .i64 0, .int .i64 0] 31 (0, 0))) := hf5.2 f _ _ _ (Ne.symm HPF.out) (by decide) HA4.out.ff
  have HFW : Hid (w.heap.size ≤ f) := HA4.out.wf
  obtain ⟨a, c, k1, k2, k3, hrow⟩ := h5.at
  have HROW := hid (hrow.far HW3S.out)
  have y0 := gbox_cell HF5.out 0
  have y1 := gbox_cell HF5.out 1
  have z0 : w5.frozen? ⟨f, 0, none⟩ = false := by simp [World.frozen?, HF5.out]
  have z1 : w5.frozen? ⟨f, 1, none⟩ = false := by simp [World.frozen?, HF5.out]
  have hfl : f < w5.heap.size := (Array.getElem?_eq_some_iff.1 HF5.out).1
  have HX : Hid (GEncDone d w (.returned (.tuple #[.slice a ([83, 87, 1] ++ progL d.slots d.ts d.cs).length c, .agg #[.int .i64 0, .int .i64 0]])) ((w5.setCell ⟨f, 0, none⟩ (.int .i64 0)).setCell ⟨f, 1, none⟩ (.int .i64 0))) := by
    have hF6 : (w5.setCell ⟨f, 0, none⟩ (.int .i64 0)).heap[f]? = some (.cells #[.int .i64 0, .int .i64 0] 31 (0, 0)) := by simp [World.setCell, Array.getElem?_modify, HF5.out]
    exact HE.out a c _ ((HROW.out.put HF5.out (by decide) _).put hF6 (by decide) _) ((HB5.out.setCell (p := ⟨f, 0, none⟩) HFW.out _).setCell (p := ⟨f, 1, none⟩) HFW.out _)
  obtain ⟨N, hN⟩ : ∃ N, N = ([83, 87, 1] ++ progL d.slots d.ts d.cs).length := ⟨_, rfl⟩
  rw [← hN] at k1 HX
  clear hN HROW hrow HE HB5 HF5 HFW h5 hb5 hf5 HB4 HA4 HPF HW3S HL HS FIT
  go_wp2
  exact bodyPost_ret (v := .tuple #[.slice a N c, .agg #[.int .i64 0, .int .i64 0]]) (by simp [results, Try.results10, go_sem, *]) rfl HX.out

theorem gencode (d : ProgD) (w : World) (hl : d.lie w) (hs : d.small) : Calls Try.prog 10 #[d.v] w (GEncDone d w) := by
  by_cases hc : (chkW d.slots d.ts d.cs).1 = 0
  · exact genc_good d w hl hs hc
  · exact genc_bad d w hl hs hc
end Go.Proofs.Ytcdpmpcpgijebaa
