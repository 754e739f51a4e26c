/- The document's program of bytes: ProgramOf. -/
import Derived.Test.YtcdpmpcpgijebaaGRefG
import Derived.Test.YtcdpmpcpgijebaaGRefB
import Derived.Test.YtcdpmpcpgijebaaGOwn
namespace Go.Proofs.Ytcdpmpcpgijebaa
open Go.RowKit

theorem num1 {zs : List Int} {i : Nat} (h : GByt zs) (hi : i < zs.length) : ((numB ((zs.drop i).take 1) : Nat) : Int) = zs.getD i 0 := by
  have hx := List.getElem?_eq_getElem hi
  rw [num_one hx, List.getD_eq_getElem?_getD, hx, Option.getD_some]
  have := h _ (List.getElem_mem hi)
  omega

theorem num2 {zs : List Int} {i : Nat} (h : GByt zs) (hi : i + 1 < zs.length) : ((numB ((zs.drop i).take 2) : Nat) : Int) = 256 * zs.getD i 0 + zs.getD (i + 1) 0 := by
  have hx := List.getElem?_eq_getElem (show i < zs.length by omega)
  have hy := List.getElem?_eq_getElem hi
  have h1 := h _ (List.getElem_mem (show i < zs.length by omega))
  have h2 := h _ (List.getElem_mem hi)
  rw [List.drop_eq_getElem_cons (show i < zs.length by omega), List.drop_eq_getElem_cons hi, List.getD_eq_getElem?_getD, List.getD_eq_getElem?_getD, hx, hy]
  simp only [List.take_succ_cons, List.take_zero, numB, List.foldl_cons, List.foldl_nil, Option.getD_some]
  omega

theorem tab_at {zs : List Int} {p : Nat} (h : GByt zs) (hp : p + 3 ≤ zs.length) : tabOf (zs.drop p) = ⟨zs.getD p 0, zs.getD (p + 1) 0, zs.getD (p + 2) 0⟩ := by
  unfold tabOf
  simp only [List.drop_drop]
  rw [num1 h (by omega), num1 h (by omega), show p + (1 + 1) = p + 2 by omega, num1 h (by omega)]

theorem ins_at {zs : List Int} {p : Nat} (h : GByt zs) (hp : p + 14 ≤ zs.length) : insOf (zs.drop p) = ⟨zs.getD p 0, zs.getD (p + 1) 0, zs.getD (p + 2) 0, zs.getD (p + 3) 0, 256 * zs.getD (p + 4) 0 + zs.getD (p + 5) 0, ((numB ((zs.drop (p + 6)).take 8) : Nat) : Int)⟩ := by
  unfold insOf
  simp only [List.drop_drop]
  rw [num1 h (by omega), num1 h (by omega), show p + (1 + 1) = p + 2 by omega, num1 h (by omega), show p + (1 + (1 + 1)) = p + 3 by omega, num1 h (by omega), show p + (1 + (1 + (1 + 1))) = p + 4 by omega, num2 h (by omega), show p + (1 + (1 + (1 + (1 + 2)))) = p + 6 by omega]

/-- what is being read, as it lies: the box of the program and its rows -/
structure OfAt (W3 : World) (pb : Nat) (slots : Int) (ta : Option Addr) (i tc : Nat) (ca : Option Addr) (j cc : Nat) (ts : List ShapeD) (cs : List InsD) (w : World) : Prop where
  rn : GRn pb W3 w
  box : w.heap[pb]? = some (.cells #[.int .i64 slots, .slice ta i tc, .slice ca j cc] 25 (0, 0))
  t : w.ownsRow W3.heap.size 50 3 (.slice ta i tc) i (ts.flatMap kShapeE)
  c : w.ownsRow W3.heap.size 47 6 (.slice ca j cc) j (cs.flatMap kInsE)
  lt : pb < W3.heap.size

theorem own_blk {w : World} {base n k c : Nat} {T : TypeId} {a : Option Addr} {xs : List Value} (h : w.ownsRow base T k (.slice a n c) n xs) {b : Nat} (hb : (Value.slice a n c).ownBlock = some b) : base ≤ b ∧ ∃ cur, w.heap[b]? = some (.cells cur T (0, 0)) := by
  rcases h.2 with ⟨e, _⟩ | ⟨g, cap, cur, e, h1, h2, _⟩
  · rw [e] at hb; simp [Value.ownBlock] at hb
  · rw [e] at hb
    simp only [Value.ownBlock, Option.some.injEq] at hb
    subst hb
    exact ⟨h1, cur, h2⟩

/-- a table more: the append's run, and what lies then -/
theorem OfAt.tab {W3 : World} {pb : Nat} {slots : Int} {ta ca : Option Addr} {i tc j cc : Nat} {ts : List ShapeD} {cs : List InsD} {w : World} (h : OfAt W3 pb slots ta i tc ca j cc ts cs w) (x : ShapeD) (hi : i ≤ 1000) :
    ∃ g cap w6, (Builtin.append_ #[22, 22] 22 #[.slice ta i tc, .slice (some ⟨w.heap.size, 0, none⟩) 1 1]).run Try.prog (w.alloc (.cells #[.int .i64 x.keys, .int .i64 x.acts, .int .i64 x.args] 50)) = .ok (.slice (some ⟨g, 0, none⟩) (i + 1) cap) w6 ∧ (w6.cell? ⟨pb, 1, none⟩ = some (.slice ta i tc) ∧ w6.frozen? ⟨pb, 1, none⟩ = false ∧ pb < w6.heap.size) ∧ OfAt W3 pb slots (some ⟨g, 0, none⟩) (i + 1) cap ca j cc (ts ++ [x]) cs (w6.setCell ⟨pb, 1, none⟩ (.slice (some ⟨g, 0, none⟩) (i + 1) cap)) := by
  have hs3 := h.rn.size
  have hlt := h.lt
  have b1 : Below w.heap.size w (w.alloc (.cells #[.int .i64 x.keys, .int .i64 x.acts, .int .i64 x.args] 50)) := bl_alloc (Below.refl _ _)
  have hs1 := b1.size
  obtain ⟨g, cap, w6, hrun, ho, hg, _⟩ := grun_app (w := w.alloc (.cells #[.int .i64 x.keys, .int .i64 x.acts, .int .i64 x.args] 50)) (ad := ⟨w.heap.size, 0, none⟩) (m := 1) (c := 1) (news := kShapeE x) 22 Try.underlying22 Try.ginfoShape rfl (by decide) (gowns_below h.t b1) rfl (fun k u hu => gsrc_of (cs := kShapeE x) k u hu) (kShape_one x) (by decide) (by unfold maxLen; omega) (by omega) (by omega)
  have hT1 := gowns_below h.t b1
  have hC1 := gowns_below h.c b1
  have hbx1 := (b1.block pb (by omega)).trans h.box
  have hnp : some pb ≠ (Value.slice ta i tc).ownBlock := fun e => by
    have := (own_blk hT1 e.symm).1
    omega
  have hbx6 := (hg.block pb (by omega) hnp).trans hbx1
  have hne : ∀ b, (Value.slice ca j cc).ownBlock = some b → some b ≠ (Value.slice ta i tc).ownBlock := fun b hb e => by
    obtain ⟨_, cur1, q1⟩ := own_blk hC1 hb
    obtain ⟨_, cur2, q2⟩ := own_blk hT1 e.symm
    rw [q1] at q2
    simp only [Option.some.injEq, Obj.cells.injEq] at q2
    exact absurd q2.2.1 (by decide)
  have hC6 : w6.ownsRow W3.heap.size 47 6 (.slice ca j cc) j (cs.flatMap kInsE) := by
    refine ⟨hC1.1, ?_⟩
    rcases hC1.2 with q | ⟨g2, c2, cur, e, q1, q2, r⟩
    · exact .inl q
    · exact .inr ⟨g2, c2, cur, e, q1, (hg.block g2 (Array.getElem?_eq_some_iff.1 q2).1 (hne g2 (by rw [e]; rfl))).trans q2, r⟩
  have hgp : g ≠ pb := fun e => by
    have := (own_blk ho (b := g) rfl).1
    omega
  have hcp : ∀ b, (Value.slice ca j cc).ownBlock = some b → b ≠ pb := fun b hb e => by
    have := (own_blk hC6 hb).1
    omega
  have h6l := (Array.getElem?_eq_some_iff.1 hbx6).1
  refine ⟨g, cap, w6, hrun, ⟨gbox_cell hbx6 1, by simp [World.frozen?, hbx6], h6l⟩, ⟨⟨?_, ?_, ?_, ?_, ?_⟩, ?_, ?_, ?_, hlt⟩⟩
  · exact hg.os.trans (b1.os.trans h.rn.os)
  · exact hg.tape.trans (b1.tape.trans h.rn.tape)
  · exact hg.output.trans (b1.output.trans h.rn.output)
  · rw [World.size_setCell]; have := hg.size; omega
  · intro k hk hp
    rw [Below.heap_setCell _ _ _ _ hp, hg.block k (by omega) (fun e => by have := (own_blk hT1 e.symm).1; omega), b1.block k (by omega)]
    exact h.rn.block k hk hp
  · simp [World.setCell, Array.getElem?_modify, hbx6]
  · rw [List.flatMap_append, List.flatMap_cons, List.flatMap_nil, List.append_nil]
    exact ownsRow_setCell_other ho (by simp [Value.ownBlock]; exact hgp) _
  · exact ownsRow_setCell_other hC6 (fun e => hcp pb e rfl) _
/-- an instruction more: the append's run, and what lies then -/
theorem OfAt.ins {W3 : World} {pb : Nat} {slots : Int} {ta ca : Option Addr} {i tc j cc : Nat} {ts : List ShapeD} {cs : List InsD} {w : World} (h : OfAt W3 pb slots ta i tc ca j cc ts cs w) (x : InsD) (hi : j ≤ 100000) :
    ∃ g cap w6, (Builtin.append_ #[23, 23] 23 #[.slice ca j cc, .slice (some ⟨w.heap.size, 0, none⟩) 1 1]).run Try.prog (w.alloc (.cells #[.int .i64 x.op, .int .i64 x.r, .int .i64 x.s, .int .i64 x.k, .int .i64 x.to, .int .u64 x.n] 47)) = .ok (.slice (some ⟨g, 0, none⟩) (j + 1) cap) w6 ∧ (w6.cell? ⟨pb, 2, none⟩ = some (.slice ca j cc) ∧ w6.frozen? ⟨pb, 2, none⟩ = false ∧ pb < w6.heap.size) ∧ OfAt W3 pb slots ta i tc (some ⟨g, 0, none⟩) (j + 1) cap ts (cs ++ [x]) (w6.setCell ⟨pb, 2, none⟩ (.slice (some ⟨g, 0, none⟩) (j + 1) cap)) := by
  have hs3 := h.rn.size
  have hlt := h.lt
  have b1 : Below w.heap.size w (w.alloc (.cells #[.int .i64 x.op, .int .i64 x.r, .int .i64 x.s, .int .i64 x.k, .int .i64 x.to, .int .u64 x.n] 47)) := bl_alloc (Below.refl _ _)
  have hs1 := b1.size
  obtain ⟨g, cap, w6, hrun, ho, hg, _⟩ := grun_app (w := w.alloc (.cells #[.int .i64 x.op, .int .i64 x.r, .int .i64 x.s, .int .i64 x.k, .int .i64 x.to, .int .u64 x.n] 47)) (ad := ⟨w.heap.size, 0, none⟩) (m := 1) (c := 1) (news := kInsE x) 23 Try.underlying23 Try.ginfoIns rfl (by decide) (gowns_below h.c b1) rfl (fun k u hu => gsrc_of (cs := kInsE x) k u hu) (kIns_one x) (by decide) (by unfold maxLen; omega) (by omega) (by omega)
  have hT1 := gowns_below h.t b1
  have hC1 := gowns_below h.c b1
  have hbx1 := (b1.block pb (by omega)).trans h.box
  have hnp : some pb ≠ (Value.slice ca j cc).ownBlock := fun e => by
    have := (own_blk hC1 e.symm).1
    omega
  have hbx6 := (hg.block pb (by omega) hnp).trans hbx1
  have hne : ∀ b, (Value.slice ta i tc).ownBlock = some b → some b ≠ (Value.slice ca j cc).ownBlock := fun b hb e => by
    obtain ⟨_, cur1, q1⟩ := own_blk hT1 hb
    obtain ⟨_, cur2, q2⟩ := own_blk hC1 e.symm
    rw [q1] at q2
    simp only [Option.some.injEq, Obj.cells.injEq] at q2
    exact absurd q2.2.1 (by decide)
  have hC6 : w6.ownsRow W3.heap.size 50 3 (.slice ta i tc) i (ts.flatMap kShapeE) := by
    refine ⟨hT1.1, ?_⟩
    rcases hT1.2 with q | ⟨g2, c2, cur, e, q1, q2, r⟩
    · exact .inl q
    · exact .inr ⟨g2, c2, cur, e, q1, (hg.block g2 (Array.getElem?_eq_some_iff.1 q2).1 (hne g2 (by rw [e]; rfl))).trans q2, r⟩
  have hgp : g ≠ pb := fun e => by
    have := (own_blk ho (b := g) rfl).1
    omega
  have hcp : ∀ b, (Value.slice ta i tc).ownBlock = some b → b ≠ pb := fun b hb e => by
    have := (own_blk hC6 hb).1
    omega
  have h6l := (Array.getElem?_eq_some_iff.1 hbx6).1
  refine ⟨g, cap, w6, hrun, ⟨gbox_cell hbx6 2, by simp [World.frozen?, hbx6], h6l⟩, ⟨⟨?_, ?_, ?_, ?_, ?_⟩, ?_, ?_, ?_, hlt⟩⟩
  · exact hg.os.trans (b1.os.trans h.rn.os)
  · exact hg.tape.trans (b1.tape.trans h.rn.tape)
  · exact hg.output.trans (b1.output.trans h.rn.output)
  · rw [World.size_setCell]; have := hg.size; omega
  · intro k hk hp
    rw [Below.heap_setCell _ _ _ _ hp, hg.block k (by omega) (fun e => by have := (own_blk hC1 e.symm).1; omega), b1.block k (by omega)]
    exact h.rn.block k hk hp
  · simp [World.setCell, Array.getElem?_modify, hbx6]
  · exact ownsRow_setCell_other hC6 (fun e => hcp pb e rfl) _
  · rw [List.flatMap_append, List.flatMap_cons, List.flatMap_nil, List.append_nil]
    exact ownsRow_setCell_other ho (by simp [Value.ownBlock]; exact hgp) _

theorem OfAt.step {W3 : World} {pb : Nat} {slots : Int} {ta ca : Option Addr} {i tc j cc : Nat} {ts : List ShapeD} {cs : List InsD} {w w' : World} (h : OfAt W3 pb slots ta i tc ca j cc ts cs w) (b : Below w.heap.size w w') : OfAt W3 pb slots ta i tc ca j cc ts cs w' :=
  ⟨h.rn.trans (GRn.of b), (b.block pb (Array.getElem?_eq_some_iff.1 h.box).1).trans h.box, gowns_below h.t b, gowns_below h.c b, h.lt⟩

theorem OfAt.start (w : World) (slots : Int) : OfAt (w.alloc (.cells #[.int .i64 slots, .slice none 0 0, .slice none 0 0] 25)) w.heap.size slots none 0 0 none 0 0 [] [] (w.alloc (.cells #[.int .i64 slots, .slice none 0 0, .slice none 0 0] 25)) :=
  ⟨GRn.refl _ _, galloc_at _ _ _, World.ownsRow_nil _ _ _ _, World.ownsRow_nil _ _ _ _, by simp⟩

/-- what was read lies -/
theorem OfAt.lie {W3 : World} {pb : Nat} {slots : Int} {ta ca : Option Addr} {i tc j cc : Nat} {ts : List ShapeD} {cs : List InsD} {w : World} (h : OfAt W3 pb slots ta i tc ca j cc ts cs w) (hs : gwfI slots) (ht : ∀ x ∈ ts, x.wf) (hc : ∀ x ∈ cs, x.wf) : ProgD.lie ⟨slots, ⟨ta, i, tc⟩, ts, ⟨ca, j, cc⟩, cs⟩ w ∧ (∀ ad, ta = some ad → W3.heap.size ≤ ad.block) ∧ (∀ ad, ca = some ad → W3.heap.size ≤ ad.block) := by
  obtain ⟨r1, n1, f1⟩ := gown_row (cells := kShapeE) (k := 3) (P := ShapeD.lie) (fun _ => rfl) (by decide) h.t (fun x hx g o h => ⟨⟨h 0 _ rfl, (ht x hx).1⟩, ⟨h 1 _ rfl, (ht x hx).2.1⟩, ⟨h 2 _ rfl, (ht x hx).2.2⟩⟩)
  obtain ⟨r2, n2, f2⟩ := gown_row (cells := kInsE) (k := 6) (P := InsD.lie) (fun _ => rfl) (by decide) h.c (fun x hx g o h => ⟨⟨h 0 _ rfl, (hc x hx).1⟩, ⟨h 1 _ rfl, (hc x hx).2.1⟩, ⟨h 2 _ rfl, (hc x hx).2.2.1⟩, ⟨h 3 _ rfl, (hc x hx).2.2.2.1⟩, ⟨h 4 _ rfl, (hc x hx).2.2.2.2.1⟩, ⟨h 5 _ rfl, (hc x hx).2.2.2.2.2⟩⟩)
  exact ⟨⟨hs, n1, n2, r1, r2⟩, f1, f2⟩
end Go.Proofs.Ytcdpmpcpgijebaa
