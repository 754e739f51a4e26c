/- Texts of one chain, joined: Open, QOpen, QWidth, QWidth2. -/
import Derived.Test.YtedeiaokohdhpaaGreatG0
import Derived.Test.YtedeiaokohdhpaaGreatG2
import Derived.Deep.Slices
import Derived.ProofKit
namespace Go.Proofs.YtedeiaokohdhpaaGreat
open Go.RowKit
def IsRow (k : IntKind) (w : World) (a : Option Addr) (len cap : Nat) (zs : List Int) : Prop :=
  (a = none ∧ len = 0 ∧ cap = 0 ∧ zs = []) ∨
  ∃ x, a = some x ∧ len ≤ cap ∧ cap ≤ maxLen ∧ zs.length = cap ∧ (∀ i, i < zs.length → w.cell? (x.add i) = some (.int k (zs.getD i 0))) ∧ ∀ n ∈ zs, (Lit.int k n).wf = true
theorem IsRow.has {k : IntKind} {w : World} {a : Option Addr} {len cap : Nat} {zs : List Int} (h : IsRow k w a len cap zs) : Has k w a len (zs.take len) := by
  rcases h with ⟨rfl, rfl, rfl, rfl⟩ | ⟨x, rfl, hl, hm, hz, hcell, hwz⟩
  · exact ⟨rfl, by simp, .inl rfl⟩
  · refine ⟨by rw [List.length_take]; omega, fun n hn => hwz n (List.mem_of_mem_take hn), ?_⟩
    by_cases h0 : len = 0
    · subst h0; exact .inl (by simp)
    · obtain ⟨b, off, spot⟩ := x
      have hc := hcell 0 (by omega)
      have hspot : spot = none := by simpa [Addr.add] using World.cell?_spot hc
      subst hspot
      have hlt := World.block_lt_of_cell? w _ hc
      rw [Addr.add_lit] at hlt
      refine .inr ⟨b, off, rfl, hlt, fun i hi => ?_⟩
      have := hcell i (by omega)
      rw [Addr.add_lit] at this
      rw [this]
      simp only [List.getD_eq_getElem?_getD, List.getElem?_take, if_pos hi]
end Go.Proofs.YtedeiaokohdhpaaGreat

namespace Go.Proofs.YtedeiaokohdhpaaGreat
open Go.RowKit Go.Maps Go.ChangeShapes Go.WideShapes Go.ChangeAt Go.Deep
theorem Tryz.qcInt : Tryz.prog.cellsOf 3 = 1 := by kernel_rfl
theorem Tryz.qcNum : Tryz.prog.cellsOf 96 = 1 := by kernel_rfl
theorem Tryz.qcRef : Tryz.prog.cellsOf 48 = 2 := by kernel_rfl
theorem Tryz.qcPush : Tryz.prog.cellsOf 144 = 4 := by kernel_rfl
theorem Tryz.qcCase : Tryz.prog.cellsOf 98 = 3 := by kernel_rfl
theorem Tryz.qcHead : Tryz.prog.cellsOf 53 = 1 := by kernel_rfl
theorem Tryz.qcState : Tryz.prog.cellsOf 51 = 5 := by kernel_rfl
theorem Tryz.qcOp : Tryz.prog.cellsOf 59 = 5 := by kernel_rfl
theorem Tryz.qcAct : Tryz.prog.cellsOf 56 = 2 := by kernel_rfl
theorem Tryz.qcTab : Tryz.prog.cellsOf 63 = 6 := by kernel_rfl
theorem Tryz.qcNode : Tryz.prog.cellsOf 65 = 5 := by kernel_rfl
theorem Tryz.qcPlan : Tryz.prog.cellsOf 29 = 7 := by kernel_rfl
theorem Tryz.qcInts : Tryz.prog.cellsOf 23 = 1 := by kernel_rfl
theorem Tryz.qcNums : Tryz.prog.cellsOf 61 = 1 := by kernel_rfl
theorem Tryz.qcRefs : Tryz.prog.cellsOf 60 = 1 := by kernel_rfl
theorem Tryz.qcPushs : Tryz.prog.cellsOf 57 = 1 := by kernel_rfl
theorem Tryz.qcCases : Tryz.prog.cellsOf 49 = 1 := by kernel_rfl
theorem Tryz.qcHeads : Tryz.prog.cellsOf 22 = 1 := by kernel_rfl
theorem Tryz.qcStates : Tryz.prog.cellsOf 24 = 1 := by kernel_rfl
theorem Tryz.qcOps : Tryz.prog.cellsOf 54 = 1 := by kernel_rfl
theorem Tryz.qcActs : Tryz.prog.cellsOf 25 = 1 := by kernel_rfl
theorem Tryz.qcTabs : Tryz.prog.cellsOf 26 = 1 := by kernel_rfl
theorem Tryz.qcNodes : Tryz.prog.cellsOf 27 = 1 := by kernel_rfl
variable {H : Type} {enc : TypeId × Value → H} {W : World} {base : Nat} {held : Bool}
theorem qopen_num {fuel : Nat} {v : Value} {x : DataW H × List MemPlace} (h : DataW.trod enc Tryz.prog W base (fun _ => true) held fuel 3 [v] = some x) : ∃ n, v = .int .i64 n ∧ (Lit.int .i64 n).wf = true := by
  obtain ⟨n, hcs, _, hw⟩ := DataW.trod_int Tryz.underlying3 h
  exact ⟨n, by simpa using hcs, hw⟩
theorem qopen_unum {fuel : Nat} {v : Value} {x : DataW H × List MemPlace} (h : DataW.trod enc Tryz.prog W base (fun _ => true) held fuel 96 [v] = some x) : ∃ n, v = .int .u64 n ∧ (Lit.int .u64 n).wf = true := by
  obtain ⟨n, hcs, _, hw⟩ := DataW.trod_int Tryz.underlying96 h
  exact ⟨n, by simpa using hcs, hw⟩
theorem qopen_ints {fuel : Nat} {v : Value} {x : DataW H × List MemPlace} (h : DataW.trod enc Tryz.prog W base (fun _ => true) held fuel 23 [v] = some x) : ∃ s : QSl, ∃ zs, v = .slice s.a s.n s.c ∧ s.nil0 ∧ Has .i64 W s.a s.n zs := by
  rcases open_ints Tryz.underlying23 Tryz.underlying3 (by kernel_rfl) h with ⟨hcs, _⟩ | ⟨y, l, c, zs, hcs, _, hl, hm, hz, _, hcell, hwz⟩
  · have e : v = .slice none 0 0 := by simpa using hcs
    exact ⟨⟨none, 0, 0⟩, [], e, fun _ => ⟨rfl, rfl⟩, has_nil _ _⟩
  · have e : v = .slice (some y) l c := by simpa using hcs
    have hr : IsRow .i64 W (some y) l c zs := .inr ⟨_, rfl, hl, hm, by simpa using hz, hcell, hwz⟩
    exact ⟨⟨some y, l, c⟩, zs.take l, e, by simp [QSl.nil0], hr.has⟩
theorem qopen_intsc {fuel : Nat} {v : Value} {x : DataW H × List MemPlace} (h : DataW.trod enc Tryz.prog W base (fun _ => true) held fuel 23 [v] = some x) : ∃ s : QSl, ∃ zs, v = .slice s.a s.n s.c ∧ s.nil0 ∧ Has .i64 W s.a s.n zs ∧ s.n ≤ s.c := by
  rcases open_ints Tryz.underlying23 Tryz.underlying3 (by kernel_rfl) h with ⟨hcs, _⟩ | ⟨y, l, c, zs, hcs, _, hl, hm, hz, _, hcell, hwz⟩
  · have e : v = .slice none 0 0 := by simpa using hcs
    exact ⟨⟨none, 0, 0⟩, [], e, fun _ => ⟨rfl, rfl⟩, has_nil _ _, Nat.le_refl _⟩
  · have e : v = .slice (some y) l c := by simpa using hcs
    have hr : IsRow .i64 W (some y) l c zs := .inr ⟨_, rfl, hl, hm, by simpa using hz, hcell, hwz⟩
    exact ⟨⟨some y, l, c⟩, zs.take l, e, by simp [QSl.nil0], hr.has, hl⟩
theorem qopen_nums {fuel : Nat} {v : Value} {x : DataW H × List MemPlace} (h : DataW.trod enc Tryz.prog W base (fun _ => true) held fuel 61 [v] = some x) : ∃ s : QSl, ∃ zs, v = .slice s.a s.n s.c ∧ s.nil0 ∧ Has .u64 W s.a s.n zs := by
  rcases open_ints Tryz.underlying61 Tryz.underlying96 (by kernel_rfl) h with ⟨hcs, _⟩ | ⟨y, l, c, zs, hcs, _, hl, hm, hz, _, hcell, hwz⟩
  · have e : v = .slice none 0 0 := by simpa using hcs
    exact ⟨⟨none, 0, 0⟩, [], e, fun _ => ⟨rfl, rfl⟩, has_nil _ _⟩
  · have e : v = .slice (some y) l c := by simpa using hcs
    have hr : IsRow .u64 W (some y) l c zs := .inr ⟨_, rfl, hl, hm, by simpa using hz, hcell, hwz⟩
    exact ⟨⟨some y, l, c⟩, zs.take l, e, by simp [QSl.nil0], hr.has⟩
theorem qopen_row {α : Type} {T E : TypeId} {k : Nat} {P : α → World → Nat → Nat → Prop} (hT : Tryz.prog.underlying T = some (.slice E)) (hk : Tryz.prog.cellsOf E = k) (k0 : 0 < k)
    (hP : ∀ {fuel g o : Nat} {cs : List Value} {x : DataW H × List MemPlace}, cs.length = k → (∀ i, i < k → W.cell? ⟨g, o + i, none⟩ = cs[i]?) → DataW.trod enc Tryz.prog W base (fun _ => true) held fuel E cs = some x → ∃ d : α, P d W g o)
    {fuel : Nat} {v : Value} {x : DataW H × List MemPlace} (h : DataW.trod enc Tryz.prog W base (fun _ => true) held fuel T [v] = some x) : ∃ s : QSl, ∃ S, v = .slice s.a s.n s.c ∧ s.nil0 ∧ QRow k P W s S := by
  rcases open_slice hT h with ⟨hcs, _⟩ | ⟨y, n, cap, m, k', D, Pl, hcs, _, hl, _, hm, _, hel⟩
  · have e : v = .slice none 0 0 := by simpa using hcs
    exact ⟨⟨none, 0, 0⟩, [], e, fun _ => ⟨rfl, rfl⟩, rfl, by simp⟩
  · have e : v = .slice (some y) n cap := by simpa using hcs
    simp only [if_true] at hm
    have key : ∀ i, i < n → ∃ d : α, ∃ g off, y = ⟨g, off, none⟩ ∧ P d W g (off + i * k) := by
      intro i hi
      obtain ⟨cs', hcells, htr⟩ := hel i (by omega)
      rw [hk] at hcells
      obtain ⟨_, hlen, hget⟩ := World.cells?_some hcells
      obtain ⟨cs0, hcells0, _⟩ := hel 0 (by omega)
      rw [hk] at hcells0
      obtain ⟨_, hlen0, hget0⟩ := World.cells?_some hcells0
      obtain ⟨g, off, spot⟩ := y
      have h0 := hget0 0 (by omega)
      rw [List.getElem?_eq_getElem (by omega)] at h0
      have hspot : spot = none := by simpa [Addr.add] using World.cell?_spot h0
      subst hspot
      obtain ⟨d, h1⟩ := hP (g := g) (o := off + i * k) (by simpa using hlen) (fun j hj => by
        have := hget j (by omega)
        rw [Addr.add_lit, Addr.add_lit] at this
        exact this) htr
      exact ⟨d, g, off, rfl, h1⟩
    by_cases h0 : n = 0
    · subst h0
      exact ⟨⟨some y, 0, cap⟩, [], e, by simp [QSl.nil0], rfl, by simp⟩
    obtain ⟨d0, _⟩ := key 0 (by omega)
    haveI : Inhabited α := ⟨d0⟩
    obtain ⟨f, hf⟩ := choose_lt key
    refine ⟨⟨some y, n, cap⟩, (List.range n).map f, e, by simp [QSl.nil0], by simp, fun i d hd => ?_⟩
    simp only [List.getElem?_map, Option.map_eq_some_iff] at hd
    obtain ⟨j, hj, rfl⟩ := hd
    have hi : i < n := by
      have := (List.getElem?_eq_some_iff.1 hj).1
      simpa using this
    rw [List.getElem?_range hi] at hj
    have e : i = j := by simpa using hj
    subst e
    obtain ⟨g, off, e, r⟩ := hf i hi
    exact ⟨g, off, by rw [e], r⟩
theorem q1 {α : Type} {l : List α} (h : l.length = 1) : ∃ a, l = [a] := by
  match l, h with
  | [a], _ => exact ⟨a, rfl⟩
theorem q2 {α : Type} {l : List α} (h : l.length = 2) : ∃ a b, l = [a, b] := by
  match l, h with
  | [a, b], _ => exact ⟨a, b, rfl⟩
theorem q3 {α : Type} {l : List α} (h : l.length = 3) : ∃ a b c, l = [a, b, c] := by
  match l, h with
  | [a, b, c], _ => exact ⟨a, b, c, rfl⟩
theorem q4 {α : Type} {l : List α} (h : l.length = 4) : ∃ a b c d, l = [a, b, c, d] := by
  match l, h with
  | [a, b, c, d], _ => exact ⟨a, b, c, d, rfl⟩
theorem q5 {α : Type} {l : List α} (h : l.length = 5) : ∃ a b c d e, l = [a, b, c, d, e] := by
  match l, h with
  | [a, b, c, d, e], _ => exact ⟨a, b, c, d, e, rfl⟩
theorem q6 {α : Type} {l : List α} (h : l.length = 6) : ∃ a b c d e f, l = [a, b, c, d, e, f] := by
  match l, h with
  | [a, b, c, d, e, f], _ => exact ⟨a, b, c, d, e, f, rfl⟩
theorem q7 {α : Type} {l : List α} (h : l.length = 7) : ∃ a b c d e f g, l = [a, b, c, d, e, f, g] := by
  match l, h with
  | [a, b, c, d, e, f, g], _ => exact ⟨a, b, c, d, e, f, g, rfl⟩
theorem qopen_ref {fuel : Nat} {v0 v1 : Value} {x : DataW H × List MemPlace} (h : DataW.trod enc Tryz.prog W base (fun _ => true) held fuel 48 [v0, v1] = some x) : ∃ d : RefD, v0 = .int .i64 d.h ∧ v1 = .int .i64 d.f ∧ (Lit.int .i64 d.h).wf = true ∧ (Lit.int .i64 d.f).wf = true := by
  obtain ⟨y0, y1, n, _, hl, h0, h1⟩ := trod_struct2 Tryz.underlying48 h
  simp only [Tryz.qcInt, List.drop_zero, List.take_succ_cons, List.take_zero] at h0
  simp only [Tryz.qcInt, List.drop_succ_cons, List.drop_zero, List.take_succ_cons, List.take_zero] at h1
  obtain ⟨a, rfl, ha⟩ := qopen_num h0
  obtain ⟨b, rfl, hb⟩ := qopen_num h1
  exact ⟨⟨a, b⟩, rfl, rfl, ha, hb⟩
theorem qlie_ref {fuel g o : Nat} {cs : List Value} {x : DataW H × List MemPlace} (hl : cs.length = 2) (hc : ∀ i, i < 2 → W.cell? ⟨g, o + i, none⟩ = cs[i]?) (h : DataW.trod enc Tryz.prog W base (fun _ => true) held fuel 48 cs = some x) : ∃ d : RefD, d.lie W g o := by
  obtain ⟨v0, v1, rfl⟩ := q2 hl
  obtain ⟨d, rfl, rfl, h1, h2⟩ := qopen_ref h
  exact ⟨d, ⟨hc 0 (by omega), h1⟩, ⟨hc 1 (by omega), h2⟩⟩
theorem qlie_push {fuel g o : Nat} {cs : List Value} {x : DataW H × List MemPlace} (hl : cs.length = 4) (hc : ∀ i, i < 4 → W.cell? ⟨g, o + i, none⟩ = cs[i]?) (h : DataW.trod enc Tryz.prog W base (fun _ => true) held fuel 144 cs = some x) : ∃ d : PushD, d.lie W g o := by
  obtain ⟨v0, v1, v2, v3, rfl⟩ := q4 hl
  obtain ⟨xs, m, _, _, _, hxl, hf⟩ := DataW.trod_struct Tryz.underlying144 h
  have f0 := hf 0 _ rfl
  have f1 := hf 1 _ rfl
  have f2 := hf 2 _ rfl
  have hxl3 : xs.length = 3 := hxl
  rw [List.getElem?_eq_getElem (by omega)] at f0 f1 f2
  simp only [List.getElem_toArray, List.getElem_cons_zero, List.getElem_cons_succ, Tryz.qcInt, Tryz.qcRef, Tryz.qcNum, List.drop_succ_cons, List.drop_zero, List.take_succ_cons, List.take_zero] at f0 f1 f2
  obtain ⟨a, rfl, ha⟩ := qopen_num f0
  obtain ⟨r, rfl, rfl, hr1, hr2⟩ := qopen_ref f1
  obtain ⟨n, rfl, hn⟩ := qopen_unum f2
  exact ⟨⟨a, r, n⟩, ⟨hc 0 (by omega), ha⟩, ⟨hc 1 (by omega), hr1⟩, ⟨hc 2 (by omega), hr2⟩, ⟨hc 3 (by omega), hn⟩⟩
theorem qlie_case {fuel g o : Nat} {cs : List Value} {x : DataW H × List MemPlace} (hl : cs.length = 3) (hc : ∀ i, i < 3 → W.cell? ⟨g, o + i, none⟩ = cs[i]?) (h : DataW.trod enc Tryz.prog W base (fun _ => true) held fuel 98 cs = some x) : ∃ d : CaseD, d.lie W g o := by
  obtain ⟨v0, v1, v2, rfl⟩ := q3 hl
  obtain ⟨xs, m, _, _, _, hxl, hf⟩ := DataW.trod_struct Tryz.underlying98 h
  have f0 := hf 0 _ rfl
  have f1 := hf 1 _ rfl
  have f2 := hf 2 _ rfl
  have hxl3 : xs.length = 3 := hxl
  rw [List.getElem?_eq_getElem (by omega)] at f0 f1 f2
  simp only [List.getElem_toArray, List.getElem_cons_zero, List.getElem_cons_succ, Tryz.qcInt, Tryz.qcNum, List.drop_succ_cons, List.drop_zero, List.take_succ_cons, List.take_zero] at f0 f1 f2
  obtain ⟨a, rfl, ha⟩ := qopen_unum f0
  obtain ⟨b, rfl, hb⟩ := qopen_unum f1
  obtain ⟨n, rfl, hn⟩ := qopen_num f2
  exact ⟨⟨a, b, n⟩, ⟨hc 0 (by omega), ha⟩, ⟨hc 1 (by omega), hb⟩, ⟨hc 2 (by omega), hn⟩⟩
theorem qlie_head {fuel g o : Nat} {cs : List Value} {x : DataW H × List MemPlace} (hl : cs.length = 1) (hc : ∀ i, i < 1 → W.cell? ⟨g, o + i, none⟩ = cs[i]?) (h : DataW.trod enc Tryz.prog W base (fun _ => true) held fuel 53 cs = some x) : ∃ d : HeadD, d.lie W g o := by
  obtain ⟨v0, rfl⟩ := q1 hl
  obtain ⟨xs, m, _, _, _, hxl, hf⟩ := DataW.trod_struct Tryz.underlying53 h
  have f0 := hf 0 _ rfl
  have hxl3 : xs.length = 1 := hxl
  rw [List.getElem?_eq_getElem (by omega)] at f0
  simp only [List.getElem_toArray, List.getElem_cons_zero, Tryz.qcInts, List.drop_zero, List.take_succ_cons, List.take_zero] at f0
  obtain ⟨s, zs, rfl, hs, hz⟩ := qopen_ints f0
  exact ⟨⟨s, zs⟩, ⟨hc 0 (by omega), hs⟩, hz⟩
theorem qlie_state {fuel g o : Nat} {cs : List Value} {x : DataW H × List MemPlace} (hl : cs.length = 5) (hc : ∀ i, i < 5 → W.cell? ⟨g, o + i, none⟩ = cs[i]?) (h : DataW.trod enc Tryz.prog W base (fun _ => true) held fuel 51 cs = some x) : ∃ d : StateD, d.lie W g o := by
  obtain ⟨v0, v1, v2, v3, v4, rfl⟩ := q5 hl
  obtain ⟨xs, m, _, _, _, hxl, hf⟩ := DataW.trod_struct Tryz.underlying51 h
  have f0 := hf 0 _ rfl
  have f1 := hf 1 _ rfl
  have f2 := hf 2 _ rfl
  have f3 := hf 3 _ rfl
  have hxl3 : xs.length = 4 := hxl
  rw [List.getElem?_eq_getElem (by omega)] at f0 f1 f2 f3
  simp only [List.getElem_toArray, List.getElem_cons_zero, List.getElem_cons_succ, Tryz.qcInt, Tryz.qcRef, Tryz.qcCases, List.drop_succ_cons, List.drop_zero, List.take_succ_cons, List.take_zero] at f0 f1 f2 f3
  obtain ⟨a, rfl, ha⟩ := qopen_num f0
  obtain ⟨r, rfl, rfl, hr1, hr2⟩ := qopen_ref f1
  obtain ⟨s, S, rfl, hs, hS⟩ := qopen_row Tryz.underlying49 Tryz.qcCase (by omega) (P := CaseD.lie) (fun h1 h2 h3 => qlie_case h1 h2 h3) f2
  obtain ⟨n, rfl, hn⟩ := qopen_num f3
  exact ⟨⟨a, r, s, S, n⟩, ⟨hc 0 (by omega), ha⟩, ⟨hc 1 (by omega), hr1⟩, ⟨hc 2 (by omega), hr2⟩, ⟨hc 3 (by omega), hs⟩, ⟨hc 4 (by omega), hn⟩, hS⟩
theorem qlie_op {fuel g o : Nat} {cs : List Value} {x : DataW H × List MemPlace} (hl : cs.length = 5) (hc : ∀ i, i < 5 → W.cell? ⟨g, o + i, none⟩ = cs[i]?) (h : DataW.trod enc Tryz.prog W base (fun _ => true) held fuel 59 cs = some x) : ∃ d : OpD, d.lie W g o := by
  obtain ⟨v0, v1, v2, v3, v4, rfl⟩ := q5 hl
  obtain ⟨xs, m, _, _, _, hxl, hf⟩ := DataW.trod_struct Tryz.underlying59 h
  have f0 := hf 0 _ rfl
  have f1 := hf 1 _ rfl
  have f2 := hf 2 _ rfl
  have f3 := hf 3 _ rfl
  have hxl3 : xs.length = 4 := hxl
  rw [List.getElem?_eq_getElem (by omega)] at f0 f1 f2 f3
  simp only [List.getElem_toArray, List.getElem_cons_zero, List.getElem_cons_succ, Tryz.qcInt, Tryz.qcRef, Tryz.qcPushs, List.drop_succ_cons, List.drop_zero, List.take_succ_cons, List.take_zero] at f0 f1 f2 f3
  obtain ⟨a, rfl, ha⟩ := qopen_num f0
  obtain ⟨r, rfl, rfl, hr1, hr2⟩ := qopen_ref f1
  obtain ⟨n, rfl, hn⟩ := qopen_num f2
  obtain ⟨s, S, rfl, hs, hS⟩ := qopen_row Tryz.underlying57 Tryz.qcPush (by omega) (P := PushD.lie) (fun h1 h2 h3 => qlie_push h1 h2 h3) f3
  exact ⟨⟨a, r, n, s, S⟩, ⟨hc 0 (by omega), ha⟩, ⟨hc 1 (by omega), hr1⟩, ⟨hc 2 (by omega), hr2⟩, ⟨hc 3 (by omega), hn⟩, ⟨hc 4 (by omega), hs⟩, hS⟩
theorem qlie_act {fuel g o : Nat} {cs : List Value} {x : DataW H × List MemPlace} (hl : cs.length = 2) (hc : ∀ i, i < 2 → W.cell? ⟨g, o + i, none⟩ = cs[i]?) (h : DataW.trod enc Tryz.prog W base (fun _ => true) held fuel 56 cs = some x) : ∃ d : ActD, d.lie W g o := by
  obtain ⟨v0, v1, rfl⟩ := q2 hl
  obtain ⟨xs, m, _, _, _, hxl, hf⟩ := DataW.trod_struct Tryz.underlying56 h
  have f0 := hf 0 _ rfl
  have f1 := hf 1 _ rfl
  have hxl3 : xs.length = 2 := hxl
  rw [List.getElem?_eq_getElem (by omega)] at f0 f1
  simp only [List.getElem_toArray, List.getElem_cons_zero, List.getElem_cons_succ, Tryz.qcInts, Tryz.qcOps, List.drop_succ_cons, List.drop_zero, List.take_succ_cons, List.take_zero] at f0 f1
  obtain ⟨s, zs, rfl, hs, hz⟩ := qopen_ints f0
  obtain ⟨s', S, rfl, hs', hS⟩ := qopen_row Tryz.underlying54 Tryz.qcOp (by omega) (P := OpD.lie) (fun h1 h2 h3 => qlie_op h1 h2 h3) f1
  exact ⟨⟨s, zs, s', S⟩, ⟨hc 0 (by omega), hs⟩, ⟨hc 1 (by omega), hs'⟩, hz, hS⟩
theorem qopen_tab {fuel : Nat} {v0 v1 v2 v3 v4 v5 : Value} {x : DataW H × List MemPlace} (h : DataW.trod enc Tryz.prog W base (fun _ => true) held fuel 63 [v0, v1, v2, v3, v4, v5] = some x) : ∃ d : TabD, v0 = .int .i64 d.kind ∧ v1 = .slice d.keys.a d.keys.n d.keys.c ∧ v2 = .slice d.acts.a d.acts.n d.acts.c ∧ v3 = .int .i64 d.cap ∧ v4 = .int .i64 d.dflt ∧ v5 = .slice d.args.a d.args.n d.args.c ∧
    ((Lit.int .i64 d.kind).wf = true ∧ (Lit.int .i64 d.cap).wf = true ∧ (Lit.int .i64 d.dflt).wf = true ∧ d.keys.nil0 ∧ d.acts.nil0 ∧ d.args.nil0) ∧ QRow 2 RefD.lie W d.keys d.ks ∧ Has .i64 W d.acts.a d.acts.n d.al ∧ Has .u64 W d.args.a d.args.n d.zs := by
  obtain ⟨xs, m, _, _, _, hxl, hf⟩ := DataW.trod_struct Tryz.underlying63 h
  have f0 := hf 0 _ rfl
  have f1 := hf 1 _ rfl
  have f2 := hf 2 _ rfl
  have f3 := hf 3 _ rfl
  have f4 := hf 4 _ rfl
  have f5 := hf 5 _ rfl
  have hxl3 : xs.length = 6 := hxl
  rw [List.getElem?_eq_getElem (by omega)] at f0 f1 f2 f3 f4 f5
  simp only [List.getElem_toArray, List.getElem_cons_zero, List.getElem_cons_succ, Tryz.qcInt, Tryz.qcInts, Tryz.qcNums, Tryz.qcRefs, List.drop_succ_cons, List.drop_zero, List.take_succ_cons, List.take_zero] at f0 f1 f2 f3 f4 f5
  obtain ⟨a, rfl, ha⟩ := qopen_num f0
  obtain ⟨s, S, rfl, hs, hS⟩ := qopen_row Tryz.underlying60 Tryz.qcRef (by omega) (P := RefD.lie) (fun h1 h2 h3 => qlie_ref h1 h2 h3) f1
  obtain ⟨s2, z2, rfl, hs2, hz2⟩ := qopen_ints f2
  obtain ⟨b, rfl, hb⟩ := qopen_num f3
  obtain ⟨c, rfl, hc⟩ := qopen_num f4
  obtain ⟨s5, z5, rfl, hs5, hz5⟩ := qopen_nums f5
  exact ⟨⟨a, s, S, s2, z2, b, c, s5, z5⟩, rfl, rfl, rfl, rfl, rfl, rfl, ⟨ha, hb, hc, hs, hs2, hs5⟩, hS, hz2, hz5⟩
theorem qlie_tab {fuel g o : Nat} {cs : List Value} {x : DataW H × List MemPlace} (hl : cs.length = 6) (hc : ∀ i, i < 6 → W.cell? ⟨g, o + i, none⟩ = cs[i]?) (h : DataW.trod enc Tryz.prog W base (fun _ => true) held fuel 63 cs = some x) : ∃ d : TabD, d.lie W g o := by
  obtain ⟨v0, v1, v2, v3, v4, v5, rfl⟩ := q6 hl
  obtain ⟨d, rfl, rfl, rfl, rfl, rfl, rfl, ⟨e1, e2, e3, e4, e5, e6⟩, h1, h2, h3⟩ := qopen_tab h
  exact ⟨d, ⟨hc 0 (by omega), e1⟩, ⟨hc 1 (by omega), e4⟩, ⟨hc 2 (by omega), e5⟩, ⟨hc 3 (by omega), e2⟩, ⟨hc 4 (by omega), e3⟩, ⟨hc 5 (by omega), e6⟩, h1, h2, h3⟩
theorem qlie_node {fuel g o : Nat} {cs : List Value} {x : DataW H × List MemPlace} (hl : cs.length = 5) (hc : ∀ i, i < 5 → W.cell? ⟨g, o + i, none⟩ = cs[i]?) (h : DataW.trod enc Tryz.prog W base (fun _ => true) held fuel 65 cs = some x) : ∃ d : NodeD, d.lie W g o := by
  obtain ⟨v0, v1, v2, v3, v4, rfl⟩ := q5 hl
  obtain ⟨xs, m, _, _, _, hxl, hf⟩ := DataW.trod_struct Tryz.underlying65 h
  have f0 := hf 0 _ rfl
  have f1 := hf 1 _ rfl
  have f2 := hf 2 _ rfl
  have f3 := hf 3 _ rfl
  have f4 := hf 4 _ rfl
  have hxl3 : xs.length = 5 := hxl
  rw [List.getElem?_eq_getElem (by omega)] at f0 f1 f2 f3 f4
  simp only [List.getElem_toArray, List.getElem_cons_zero, List.getElem_cons_succ, Tryz.qcInt, Tryz.qcPushs, List.drop_succ_cons, List.drop_zero, List.take_succ_cons, List.take_zero] at f0 f1 f2 f3 f4
  obtain ⟨a, rfl, ha⟩ := qopen_num f0
  obtain ⟨b, rfl, hb⟩ := qopen_num f1
  obtain ⟨s, S, rfl, hs, hS⟩ := qopen_row Tryz.underlying57 Tryz.qcPush (by omega) (P := PushD.lie) (fun h1 h2 h3 => qlie_push h1 h2 h3) f2
  obtain ⟨c, rfl, hc'⟩ := qopen_num f3
  obtain ⟨d, rfl, hd⟩ := qopen_num f4
  exact ⟨⟨a, b, s, S, c, d⟩, ⟨hc 0 (by omega), ha⟩, ⟨hc 1 (by omega), hb⟩, ⟨hc 2 (by omega), hs⟩, ⟨hc 3 (by omega), hc'⟩, ⟨hc 4 (by omega), hd⟩, hS⟩
set_option maxRecDepth 20000 in
theorem qopen_plan {fuel : Nat} {cs : List Value} {x : DataW H × List MemPlace} (hl : cs.length = 7) (h : DataW.trod enc Tryz.prog W base (fun _ => true) held fuel 29 cs = some x) : ∃ d : PlanD, Value.agg cs.toArray = d.v ∧ d.nil0 ∧ d.lie W := by
  obtain ⟨v0, v1, v2, v3, v4, v5, v6, rfl⟩ := q7 hl
  obtain ⟨xs, m, _, _, _, hxl, hf⟩ := DataW.trod_struct Tryz.underlying29 h
  have f0 := hf 0 _ rfl
  have f1 := hf 1 _ rfl
  have f2 := hf 2 _ rfl
  have f3 := hf 3 _ rfl
  have f4 := hf 4 _ rfl
  have f5 := hf 5 _ rfl
  have f6 := hf 6 _ rfl
  have hxl3 : xs.length = 7 := hxl
  rw [List.getElem?_eq_getElem (by omega)] at f0 f1 f2 f3 f4 f5 f6
  simp only [List.getElem_toArray, List.getElem_cons_zero, List.getElem_cons_succ, Tryz.qcHeads, Tryz.qcInts, Tryz.qcStates, Tryz.qcActs, Tryz.qcTabs, Tryz.qcNodes, List.drop_succ_cons, List.drop_zero, List.take_succ_cons, List.take_zero] at f0 f1 f2 f3 f4 f5 f6
  obtain ⟨s0, z0, rfl, n0, r0⟩ := qopen_row Tryz.underlying22 Tryz.qcHead (by omega) (P := HeadD.lie) (fun h1 h2 h3 => qlie_head h1 h2 h3) f0
  obtain ⟨s1, z1, rfl, n1, r1⟩ := qopen_ints f1
  obtain ⟨s2, z2, rfl, n2, r2⟩ := qopen_row Tryz.underlying24 Tryz.qcState (by omega) (P := StateD.lie) (fun h1 h2 h3 => qlie_state h1 h2 h3) f2
  obtain ⟨s3, z3, rfl, n3, r3⟩ := qopen_row Tryz.underlying25 Tryz.qcAct (by omega) (P := ActD.lie) (fun h1 h2 h3 => qlie_act h1 h2 h3) f3
  obtain ⟨s4, z4, rfl, n4, r4⟩ := qopen_row Tryz.underlying26 Tryz.qcTab (by omega) (P := TabD.lie) (fun h1 h2 h3 => qlie_tab h1 h2 h3) f4
  obtain ⟨s5, z5, rfl, n5, r5⟩ := qopen_row Tryz.underlying27 Tryz.qcNode (by omega) (P := NodeD.lie) (fun h1 h2 h3 => qlie_node h1 h2 h3) f5
  obtain ⟨s6, z6, rfl, n6, r6, l6⟩ := qopen_intsc f6
  exact ⟨⟨s0, z0, s1, z1, s2, z2, s3, z3, s4, z4, s5, z5, s6, z6⟩, rfl, ⟨n0, n1, n2, n3, n4, n5, n6⟩, ⟨r0, r1, r2, r3, r4, r5, r6, l6⟩⟩
end Go.Proofs.YtedeiaokohdhpaaGreat

namespace Go.Proofs.YtedeiaokohdhpaaGreat
open Go.RowKit
def fieldsL (d : PlanD) (h : Int) (zs : List Int) : List Int :=
  if h = -1 then d.ms else if h = -2 then zs else if h = -3 then [16] else if h < 0 ∨ (d.heads.n : Int) ≤ h then [] else (d.hs.getD h.toNat HeadD.z).ws
def widthC (d : PlanD) (h f : Int) (zs : List Int) : Int :=
  if f < 0 ∨ ((fieldsL d h zs).length : Int) ≤ f then 0 else (fieldsL d h zs).getD f.toNat 0
theorem has_sixteen (w : World) : Has .i64 (w.alloc (.cells #[.int .i64 16] 3)) (some ⟨w.heap.size, 0, none⟩) 1 [16] := by
  refine ⟨rfl, ?_, .inr ⟨w.heap.size, 0, rfl, by simp, fun i hi => ?_⟩⟩
  · intro n hn
    simp only [List.mem_cons, List.not_mem_nil, or_false] at hn
    subst hn
    decide
  · have : i = 0 := by omega
    subst this
    simp
theorem head_at {d : PlanD} {w : World} (hl : d.lie w) {k : Nat} (hk : k < d.heads.n) : ∃ g off, d.heads.a = some ⟨g, off, none⟩ ∧ (d.hs.getD k HeadD.z).lie w g (off + k) := by
  have hk' : k < d.hs.length := by rw [hl.hs.1]; exact hk
  obtain ⟨g, off, e, hp⟩ := hl.hs.2 k _ (List.getElem?_eq_getElem hk')
  refine ⟨g, off, e, ?_⟩
  rw [List.getD_eq_getElem?_getD, List.getElem?_eq_getElem hk', Option.getD_some]
  rwa [Nat.mul_one] at hp
set_option maxHeartbeats 1000000 in
set_option maxRecDepth 20000 in
theorem fields_any (d : PlanD) (h : Int) (aa : Option Addr) (an ac : Nat) (zs : List Int) (w : World) (hl : d.lie w) (hz : Has .i64 w aa an zs) :
    Calls Tryz.prog 155 #[d.v, .int .i64 h, .slice aa an ac] w fun e w' => ∃ s : QSl, e = .returned (.slice s.a s.n s.c) ∧ Has .i64 w' s.a s.n (fieldsL d h zs) ∧ Below w.heap.size w w' := by
  have bw : ∀ o, Below w.heap.size w (w.alloc o) := fun o => bl_alloc (Below.refl _ _)
  have bw2 : ∀ o o', Below w.heap.size w ((w.alloc o).alloc o') := fun o o' => bl_alloc (bl_alloc (Below.refl _ _))
  by_cases h1 : h = -1
  · subst h1
    have hr : Hid (fieldsL d (-1) zs = d.ms) := by simp [fieldsL, Hid]
    have H := hid hl.ms
    clear hl hz
    go_enter Tryz.func155, Tryz.ntmps155
    go_wp2
    go_ret
    exact ⟨d.mta, rfl, by rw [hr.out]; exact H.out.step (bw _), bw _⟩
  by_cases h2 : h = -2
  · subst h2
    have hr : Hid (fieldsL d (-2) zs = zs) := by simp [fieldsL, Hid]
    have H := hid hz
    clear hl hz
    go_enter Tryz.func155, Tryz.ntmps155
    go_wp2
    go_ret
    exact ⟨⟨aa, an, ac⟩, rfl, by rw [hr.out]; exact H.out.step (bw _), bw _⟩
  by_cases h3 : h = -3
  · subst h3
    have hr : Hid (fieldsL d (-3) zs = [16]) := by simp [fieldsL, Hid]
    clear hl hz
    go_enter Tryz.func155, Tryz.ntmps155
    go_wp2
    go_ret
    refine ⟨⟨some ⟨w.heap.size + 1, 0, none⟩, 1, 1⟩, rfl, ?_, bw2 _ _⟩
    rw [hr.out]
    have := has_sixteen (w.alloc (.cells #[.slice d.heads.a d.heads.n d.heads.c, .slice d.mta.a d.mta.n d.mta.c, .slice d.states.a d.states.n d.states.c, .slice d.acts.a d.acts.n d.acts.c, .slice d.tabs.a d.tabs.n d.tabs.c, .slice d.nodes.a d.nodes.n d.nodes.c, .slice d.out.a d.out.n d.out.c] 29))
    simpa using this
  by_cases h4 : h < 0 ∨ (d.heads.n : Int) ≤ h
  · have hr : Hid (fieldsL d h zs = []) := by simp only [Hid, fieldsL, if_neg h1, if_neg h2, if_neg h3, if_pos h4]
    clear hl hz
    go_enter Tryz.func155, Tryz.ntmps155
    go_wp2
    all_goals (first | (exfalso; omega) | (go_ret; exact ⟨⟨none, 0, 0⟩, rfl, by rw [hr.out]; exact has_nil _ _, bw _⟩))
  · obtain ⟨k, rfl⟩ : ∃ k : Nat, h = k := ⟨h.toNat, by omega⟩
    have hk : k < d.heads.n := by omega
    have hr : Hid (fieldsL d k zs = (d.hs.getD k HeadD.z).ws) := by simp only [Hid, fieldsL, if_neg h1, if_neg h2, if_neg h3, if_neg h4, Int.toNat_natCast]
    obtain ⟨g, off, ea, hd⟩ := head_at hl hk
    have H := hid hd.2
    have hc : ∀ o, (w.alloc o).cell? ⟨g, off + k, none⟩ = some (.slice (d.hs.getD k HeadD.z).w.a (d.hs.getD k HeadD.z).w.n (d.hs.getD k HeadD.z).w.c) := fun o => cell_keep hd.1.1 (bw o)
    have hc2 := hc
    clear hl hz hd
    generalize d.hs.getD k HeadD.z = x at *
    go_enter Tryz.func155, Tryz.ntmps155
    go_wp2
    all_goals (first | (exfalso; omega) | skip)
    go_ret
    exact ⟨x.w, rfl, by rw [hr.out]; exact H.out.step (bw _), bw _⟩
theorem width_out {d : PlanD} {h f : Int} {zs : List Int} (h0 : f < 0 ∨ ((fieldsL d h zs).length : Int) ≤ f) : widthC d h f zs = 0 := by simp only [widthC, if_pos h0]
theorem width_in {d : PlanD} {h : Int} {k : Nat} {zs : List Int} (h0 : k < (fieldsL d h zs).length) : widthC d h k zs = (fieldsL d h zs).getD k 0 := by
  have : ¬ ((k : Int) < 0 ∨ ((fieldsL d h zs).length : Int) ≤ k) := by omega
  simp only [widthC, if_neg this, Int.toNat_natCast]
theorem look_int {w : World} {s : QSl} {l : List Int} {k : Nat} (hs : Has .i64 w s.a s.n l) (hk : k < s.n) : ∃ g off, s.a = some ⟨g, off, none⟩ ∧ w.cell? ⟨g, off + k, none⟩ = some (.int .i64 (l.getD k 0)) := by
  obtain ⟨g, off, e, _, hc⟩ := hs.some (by omega)
  exact ⟨g, off, e, hc k hk⟩
set_option maxHeartbeats 1000000 in
set_option maxRecDepth 20000 in
theorem width_any (d : PlanD) (h f : Int) (aa : Option Addr) (an ac : Nat) (zs : List Int) (w : World) (hl : d.lie w) (hz : Has .i64 w aa an zs) :
    Calls Tryz.prog 130 #[d.v, .agg #[.int .i64 h, .int .i64 f], .slice aa an ac] w fun e w' => e = .returned (.int .i64 (widthC d h f zs)) ∧ Below w.heap.size w w' := by
  have bw2 : ∀ o o', Below w.heap.size w ((w.alloc o).alloc o') := fun o o' => bl_alloc (bl_alloc (Below.refl _ _))
  have A : ∀ o o', Hid (Calls Tryz.prog 155 #[d.v, .int .i64 h, .slice aa an ac] ((w.alloc o).alloc o') fun e w' => ∃ s : QSl, e = .returned (.slice s.a s.n s.c) ∧ Has .i64 w' s.a s.n (fieldsL d h zs) ∧ Below ((w.alloc o).alloc o').heap.size ((w.alloc o).alloc o') w') := fun o o' => fields_any d h aa an ac zs _ (hl.step (bw2 o o')) (hz.step (bw2 o o'))
  clear hl hz
  go_enter Tryz.func130, Tryz.ntmps130
  go_wp2_with fail
  refine (A _ _).out.mono ?_
  rintro e w1 ⟨s, rfl, hs, hb⟩
  clear A
  have hb' := hid (bl_step (bw2 _ _) hb)
  have c0 := cell_keep (w' := w1) (g := w.heap.size + 1) (o := 0) (v := .int .i64 h) (by simp) hb
  have c1 := cell_keep (w' := w1) (g := w.heap.size + 1) (o := 1) (v := .int .i64 f) (by simp) hb
  clear hb bw2
  have hn := hs.1
  by_cases h0 : f < 0 ∨ (s.n : Int) ≤ f
  · have hr : Hid (widthC d h f zs = 0) := width_out (by rw [hn]; exact h0)
    clear hs hn
    go_wp2
    all_goals (first | (exfalso; omega) | (go_ret; exact ⟨by rw [hr.out]; rfl, hb'.out⟩))
  · obtain ⟨k, rfl⟩ : ∃ k : Nat, f = k := ⟨f.toNat, by omega⟩
    have hk : k < s.n := by omega
    have hr : Hid (widthC d h k zs = (fieldsL d h zs).getD k 0) := width_in (by rw [hn]; exact hk)
    obtain ⟨g, off, ea, hc⟩ := look_int hs hk
    clear hs hn
    generalize (fieldsL d h zs).getD k 0 = r at *
    go_wp2
    all_goals (first | (exfalso; omega) | skip)
    go_ret
    exact ⟨by rw [hr.out]; rfl, hb'.out⟩
end Go.Proofs.YtedeiaokohdhpaaGreat

namespace Go.Proofs.YtedeiaokohdhpaaGreat
open Go.RowKit
def takesC (op : Int) : Int := if op = 1 ∨ op = 2 then 0 else if op = 13 then 1 else if 3 ≤ op ∧ op ≤ 12 then 2 else -1
theorem takes_ways (op : Int) : op = 1 ∨ op = 2 ∨ op = 3 ∨ op = 4 ∨ op = 5 ∨ op = 6 ∨ op = 7 ∨ op = 8 ∨ op = 9 ∨ op = 10 ∨ op = 11 ∨ op = 12 ∨ op = 13 ∨ op < 1 ∨ 13 < op := by omega
set_option maxHeartbeats 2000000 in
set_option maxRecDepth 20000 in
theorem takes_any (op : Int) (w : World) : Calls Tryz.prog 156 #[.int .i64 op] w fun e w' => e = .returned (.int .i64 (takesC op)) ∧ w' = w := by
  rcases takes_ways op with h | h | h | h | h | h | h | h | h | h | h | h | h | h
  · subst h
    go_enter Tryz.func156, Tryz.ntmps156
    go_wp2
    go_ret
    exact ⟨rfl, rfl⟩
  iterate 12
    · subst h
      go_enter Tryz.func156, Tryz.ntmps156
      go_wp2
      go_ret
      exact ⟨rfl, rfl⟩
  · have hr : Hid (takesC op = -1) := by
      simp only [Hid, takesC]
      rw [if_neg (by omega), if_neg (by omega), if_neg (by omega)]
    have h1 : ¬ op = 1 := by omega
    have h2 : ¬ op = 2 := by omega
    have h3 : ¬ op = 3 := by omega
    have h4 : ¬ op = 4 := by omega
    have h5 : ¬ op = 5 := by omega
    have h6 : ¬ op = 6 := by omega
    have h7 : ¬ op = 7 := by omega
    have h8 : ¬ op = 8 := by omega
    have h9 : ¬ op = 9 := by omega
    have h10 : ¬ op = 10 := by omega
    have h11 : ¬ op = 11 := by omega
    have h12 : ¬ op = 12 := by omega
    have h13 : ¬ op = 13 := by omega
    clear h
    go_enter Tryz.func156, Tryz.ntmps156
    go_wp2
    all_goals (first | (exfalso; omega) | (go_ret; exact ⟨by rw [hr.out]; rfl, rfl⟩))
end Go.Proofs.YtedeiaokohdhpaaGreat
