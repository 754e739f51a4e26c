/- A plan that came in lies as PlanD.lie says. -/
import Derived.Test.YtlnkfgdepddmladQLay
import Derived.Test.YtlnkfgdepddmladOpen
import Derived.Deep.Slices
import Derived.ProofKit
namespace Go.Proofs.Ytlnkfgdepddmlad
open Go.RowKit Go.Maps Go.ChangeShapes Go.WideShapes Go.ChangeAt Go.Deep

theorem Try.qcInt : Try.prog.cellsOf 3 = 1 := by kernel_rfl
theorem Try.qcNum : Try.prog.cellsOf 74 = 1 := by kernel_rfl
theorem Try.qcRef : Try.prog.cellsOf 31 = 2 := by kernel_rfl
theorem Try.qcPush : Try.prog.cellsOf 105 = 4 := by kernel_rfl
theorem Try.qcCase : Try.prog.cellsOf 76 = 3 := by kernel_rfl
theorem Try.qcHead : Try.prog.cellsOf 44 = 1 := by kernel_rfl
theorem Try.qcState : Try.prog.cellsOf 47 = 5 := by kernel_rfl
theorem Try.qcOp : Try.prog.cellsOf 56 = 5 := by kernel_rfl
theorem Try.qcAct : Try.prog.cellsOf 53 = 2 := by kernel_rfl
theorem Try.qcTab : Try.prog.cellsOf 35 = 6 := by kernel_rfl
theorem Try.qcNode : Try.prog.cellsOf 58 = 5 := by kernel_rfl
theorem Try.qcPlan : Try.prog.cellsOf 29 = 7 := by kernel_rfl
theorem Try.qcInts : Try.prog.cellsOf 23 = 1 := by kernel_rfl
theorem Try.qcNums : Try.prog.cellsOf 33 = 1 := by kernel_rfl
theorem Try.qcRefs : Try.prog.cellsOf 32 = 1 := by kernel_rfl
theorem Try.qcPushs : Try.prog.cellsOf 54 = 1 := by kernel_rfl
theorem Try.qcCases : Try.prog.cellsOf 45 = 1 := by kernel_rfl
theorem Try.qcHeads : Try.prog.cellsOf 22 = 1 := by kernel_rfl
theorem Try.qcStates : Try.prog.cellsOf 24 = 1 := by kernel_rfl
theorem Try.qcOps : Try.prog.cellsOf 51 = 1 := by kernel_rfl
theorem Try.qcActs : Try.prog.cellsOf 25 = 1 := by kernel_rfl
theorem Try.qcTabs : Try.prog.cellsOf 26 = 1 := by kernel_rfl
theorem Try.qcNodes : Try.prog.cellsOf 27 = 1 := by kernel_rfl

variable {H : Type} {enc : TypeId × Value → H} {W : World} {base : Nat} {held : Bool}

theorem qopen_num {fuel : Nat} {v : Value} {x : DataW H × List MemPlace} (h : DataW.trod enc Try.prog W base (fun _ => true) held fuel 3 [v] = some x) : ∃ n, v = .int .i64 n ∧ (Lit.int .i64 n).wf = true := by
  obtain ⟨n, hcs, _, hw⟩ := DataW.trod_int Try.underlying3 h
  exact ⟨n, by simpa using hcs, hw⟩

theorem qopen_unum {fuel : Nat} {v : Value} {x : DataW H × List MemPlace} (h : DataW.trod enc Try.prog W base (fun _ => true) held fuel 74 [v] = some x) : ∃ n, v = .int .u64 n ∧ (Lit.int .u64 n).wf = true := by
  obtain ⟨n, hcs, _, hw⟩ := DataW.trod_int Try.underlying74 h
  exact ⟨n, by simpa using hcs, hw⟩

theorem qopen_ints {fuel : Nat} {v : Value} {x : DataW H × List MemPlace} (h : DataW.trod enc Try.prog W base (fun _ => true) held fuel 23 [v] = some x) : ∃ s : QSl, ∃ zs, v = .slice s.a s.n s.c ∧ s.nil0 ∧ Has .i64 W s.a s.n zs := by
  rcases open_ints Try.underlying23 Try.underlying3 (by kernel_rfl) h with ⟨hcs, _⟩ | ⟨y, l, c, zs, hcs, _, hl, hm, hz, _, hcell, hwz⟩
  · have e : v = .slice none 0 0 := by simpa using hcs
    exact ⟨⟨none, 0, 0⟩, [], e, fun _ => ⟨rfl, rfl⟩, has_nil _ _⟩
  · have e : v = .slice (some y) l c := by simpa using hcs
    have hr : IsRow .i64 W (some y) l c zs := .inr ⟨_, rfl, hl, hm, by simpa using hz, hcell, hwz⟩
    exact ⟨⟨some y, l, c⟩, zs.take l, e, by simp [QSl.nil0], hr.has⟩

theorem qopen_intsc {fuel : Nat} {v : Value} {x : DataW H × List MemPlace} (h : DataW.trod enc Try.prog W base (fun _ => true) held fuel 23 [v] = some x) : ∃ s : QSl, ∃ zs, v = .slice s.a s.n s.c ∧ s.nil0 ∧ Has .i64 W s.a s.n zs ∧ s.n ≤ s.c := by
  rcases open_ints Try.underlying23 Try.underlying3 (by kernel_rfl) h with ⟨hcs, _⟩ | ⟨y, l, c, zs, hcs, _, hl, hm, hz, _, hcell, hwz⟩
  · have e : v = .slice none 0 0 := by simpa using hcs
    exact ⟨⟨none, 0, 0⟩, [], e, fun _ => ⟨rfl, rfl⟩, has_nil _ _, Nat.le_refl _⟩
  · have e : v = .slice (some y) l c := by simpa using hcs
    have hr : IsRow .i64 W (some y) l c zs := .inr ⟨_, rfl, hl, hm, by simpa using hz, hcell, hwz⟩
    exact ⟨⟨some y, l, c⟩, zs.take l, e, by simp [QSl.nil0], hr.has, hl⟩

theorem qopen_nums {fuel : Nat} {v : Value} {x : DataW H × List MemPlace} (h : DataW.trod enc Try.prog W base (fun _ => true) held fuel 33 [v] = some x) : ∃ s : QSl, ∃ zs, v = .slice s.a s.n s.c ∧ s.nil0 ∧ Has .u64 W s.a s.n zs := by
  rcases open_ints Try.underlying33 Try.underlying74 (by kernel_rfl) h with ⟨hcs, _⟩ | ⟨y, l, c, zs, hcs, _, hl, hm, hz, _, hcell, hwz⟩
  · have e : v = .slice none 0 0 := by simpa using hcs
    exact ⟨⟨none, 0, 0⟩, [], e, fun _ => ⟨rfl, rfl⟩, has_nil _ _⟩
  · have e : v = .slice (some y) l c := by simpa using hcs
    have hr : IsRow .u64 W (some y) l c zs := .inr ⟨_, rfl, hl, hm, by simpa using hz, hcell, hwz⟩
    exact ⟨⟨some y, l, c⟩, zs.take l, e, by simp [QSl.nil0], hr.has⟩

/-- a list of things of k cells, each of which opens -/
theorem qopen_row {α : Type} {T E : TypeId} {k : Nat} {P : α → World → Nat → Nat → Prop} (hT : Try.prog.underlying T = some (.slice E)) (hk : Try.prog.cellsOf E = k) (k0 : 0 < k)
    (hP : ∀ {fuel g o : Nat} {cs : List Value} {x : DataW H × List MemPlace}, cs.length = k → (∀ i, i < k → W.cell? ⟨g, o + i, none⟩ = cs[i]?) → DataW.trod enc Try.prog W base (fun _ => true) held fuel E cs = some x → ∃ d : α, P d W g o)
    {fuel : Nat} {v : Value} {x : DataW H × List MemPlace} (h : DataW.trod enc Try.prog W base (fun _ => true) held fuel T [v] = some x) : ∃ s : QSl, ∃ S, v = .slice s.a s.n s.c ∧ s.nil0 ∧ QRow k P W s S := by
  rcases open_slice hT h with ⟨hcs, _⟩ | ⟨y, n, cap, m, k', D, Pl, hcs, _, hl, _, hm, _, hel⟩
  · have e : v = .slice none 0 0 := by simpa using hcs
    exact ⟨⟨none, 0, 0⟩, [], e, fun _ => ⟨rfl, rfl⟩, rfl, by simp⟩
  · have e : v = .slice (some y) n cap := by simpa using hcs
    simp only [if_true] at hm
    have key : ∀ i, i < n → ∃ d : α, ∃ g off, y = ⟨g, off, none⟩ ∧ P d W g (off + i * k) := by
      intro i hi
      obtain ⟨cs', hcells, htr⟩ := hel i (by omega)
      rw [hk] at hcells
      obtain ⟨_, hlen, hget⟩ := World.cells?_some hcells
      obtain ⟨cs0, hcells0, _⟩ := hel 0 (by omega)
      rw [hk] at hcells0
      obtain ⟨_, hlen0, hget0⟩ := World.cells?_some hcells0
      obtain ⟨g, off, spot⟩ := y
      have h0 := hget0 0 (by omega)
      rw [List.getElem?_eq_getElem (by omega)] at h0
      have hspot : spot = none := by simpa [Addr.add] using World.cell?_spot h0
      subst hspot
      obtain ⟨d, h1⟩ := hP (g := g) (o := off + i * k) (by simpa using hlen) (fun j hj => by
        have := hget j (by omega)
        rw [Addr.add_lit, Addr.add_lit] at this
        exact this) htr
      exact ⟨d, g, off, rfl, h1⟩
    by_cases h0 : n = 0
    · subst h0
      exact ⟨⟨some y, 0, cap⟩, [], e, by simp [QSl.nil0], rfl, by simp⟩
    obtain ⟨d0, _⟩ := key 0 (by omega)
    haveI : Inhabited α := ⟨d0⟩
    obtain ⟨f, hf⟩ := choose_lt key
    refine ⟨⟨some y, n, cap⟩, (List.range n).map f, e, by simp [QSl.nil0], by simp, fun i d hd => ?_⟩
    simp only [List.getElem?_map, Option.map_eq_some_iff] at hd
    obtain ⟨j, hj, rfl⟩ := hd
    have hi : i < n := by
      have := (List.getElem?_eq_some_iff.1 hj).1
      simpa using this
    rw [List.getElem?_range hi] at hj
    have e : i = j := by simpa using hj
    subst e
    obtain ⟨g, off, e, r⟩ := hf i hi
    exact ⟨g, off, by rw [e], r⟩


theorem q1 {α : Type} {l : List α} (h : l.length = 1) : ∃ a, l = [a] := by
  match l, h with
  | [a], _ => exact ⟨a, rfl⟩
theorem q2 {α : Type} {l : List α} (h : l.length = 2) : ∃ a b, l = [a, b] := by
  match l, h with
  | [a, b], _ => exact ⟨a, b, rfl⟩
theorem q3 {α : Type} {l : List α} (h : l.length = 3) : ∃ a b c, l = [a, b, c] := by
  match l, h with
  | [a, b, c], _ => exact ⟨a, b, c, rfl⟩
theorem q4 {α : Type} {l : List α} (h : l.length = 4) : ∃ a b c d, l = [a, b, c, d] := by
  match l, h with
  | [a, b, c, d], _ => exact ⟨a, b, c, d, rfl⟩
theorem q5 {α : Type} {l : List α} (h : l.length = 5) : ∃ a b c d e, l = [a, b, c, d, e] := by
  match l, h with
  | [a, b, c, d, e], _ => exact ⟨a, b, c, d, e, rfl⟩
theorem q6 {α : Type} {l : List α} (h : l.length = 6) : ∃ a b c d e f, l = [a, b, c, d, e, f] := by
  match l, h with
  | [a, b, c, d, e, f], _ => exact ⟨a, b, c, d, e, f, rfl⟩
theorem q7 {α : Type} {l : List α} (h : l.length = 7) : ∃ a b c d e f g, l = [a, b, c, d, e, f, g] := by
  match l, h with
  | [a, b, c, d, e, f, g], _ => exact ⟨a, b, c, d, e, f, g, rfl⟩

theorem qopen_ref {fuel : Nat} {v0 v1 : Value} {x : DataW H × List MemPlace} (h : DataW.trod enc Try.prog W base (fun _ => true) held fuel 31 [v0, v1] = some x) : ∃ d : RefD, v0 = .int .i64 d.h ∧ v1 = .int .i64 d.f ∧ (Lit.int .i64 d.h).wf = true ∧ (Lit.int .i64 d.f).wf = true := by
  obtain ⟨y0, y1, n, _, hl, h0, h1⟩ := trod_struct2 Try.underlying31 h
  simp only [Try.qcInt, List.drop_zero, List.take_succ_cons, List.take_zero] at h0
  simp only [Try.qcInt, List.drop_succ_cons, List.drop_zero, List.take_succ_cons, List.take_zero] at h1
  obtain ⟨a, rfl, ha⟩ := qopen_num h0
  obtain ⟨b, rfl, hb⟩ := qopen_num h1
  exact ⟨⟨a, b⟩, rfl, rfl, ha, hb⟩

theorem qlie_ref {fuel g o : Nat} {cs : List Value} {x : DataW H × List MemPlace} (hl : cs.length = 2) (hc : ∀ i, i < 2 → W.cell? ⟨g, o + i, none⟩ = cs[i]?) (h : DataW.trod enc Try.prog W base (fun _ => true) held fuel 31 cs = some x) : ∃ d : RefD, d.lie W g o := by
  obtain ⟨v0, v1, rfl⟩ := q2 hl
  obtain ⟨d, rfl, rfl, h1, h2⟩ := qopen_ref h
  exact ⟨d, ⟨hc 0 (by omega), h1⟩, ⟨hc 1 (by omega), h2⟩⟩

theorem qlie_push {fuel g o : Nat} {cs : List Value} {x : DataW H × List MemPlace} (hl : cs.length = 4) (hc : ∀ i, i < 4 → W.cell? ⟨g, o + i, none⟩ = cs[i]?) (h : DataW.trod enc Try.prog W base (fun _ => true) held fuel 105 cs = some x) : ∃ d : PushD, d.lie W g o := by
  obtain ⟨v0, v1, v2, v3, rfl⟩ := q4 hl
  obtain ⟨xs, m, _, _, _, hxl, hf⟩ := DataW.trod_struct Try.underlying105 h
  have f0 := hf 0 _ rfl
  have f1 := hf 1 _ rfl
  have f2 := hf 2 _ rfl
  have hxl3 : xs.length = 3 := hxl
  rw [List.getElem?_eq_getElem (by omega)] at f0 f1 f2
  simp only [List.getElem_toArray, List.getElem_cons_zero, List.getElem_cons_succ, Try.qcInt, Try.qcRef, Try.qcNum, List.drop_succ_cons, List.drop_zero, List.take_succ_cons, List.take_zero] at f0 f1 f2
  obtain ⟨a, rfl, ha⟩ := qopen_num f0
  obtain ⟨r, rfl, rfl, hr1, hr2⟩ := qopen_ref f1
  obtain ⟨n, rfl, hn⟩ := qopen_unum f2
  exact ⟨⟨a, r, n⟩, ⟨hc 0 (by omega), ha⟩, ⟨hc 1 (by omega), hr1⟩, ⟨hc 2 (by omega), hr2⟩, ⟨hc 3 (by omega), hn⟩⟩

theorem qlie_case {fuel g o : Nat} {cs : List Value} {x : DataW H × List MemPlace} (hl : cs.length = 3) (hc : ∀ i, i < 3 → W.cell? ⟨g, o + i, none⟩ = cs[i]?) (h : DataW.trod enc Try.prog W base (fun _ => true) held fuel 76 cs = some x) : ∃ d : CaseD, d.lie W g o := by
  obtain ⟨v0, v1, v2, rfl⟩ := q3 hl
  obtain ⟨xs, m, _, _, _, hxl, hf⟩ := DataW.trod_struct Try.underlying76 h
  have f0 := hf 0 _ rfl
  have f1 := hf 1 _ rfl
  have f2 := hf 2 _ rfl
  have hxl3 : xs.length = 3 := hxl
  rw [List.getElem?_eq_getElem (by omega)] at f0 f1 f2
  simp only [List.getElem_toArray, List.getElem_cons_zero, List.getElem_cons_succ, Try.qcInt, Try.qcNum, List.drop_succ_cons, List.drop_zero, List.take_succ_cons, List.take_zero] at f0 f1 f2
  obtain ⟨a, rfl, ha⟩ := qopen_unum f0
  obtain ⟨b, rfl, hb⟩ := qopen_unum f1
  obtain ⟨n, rfl, hn⟩ := qopen_num f2
  exact ⟨⟨a, b, n⟩, ⟨hc 0 (by omega), ha⟩, ⟨hc 1 (by omega), hb⟩, ⟨hc 2 (by omega), hn⟩⟩

theorem qlie_head {fuel g o : Nat} {cs : List Value} {x : DataW H × List MemPlace} (hl : cs.length = 1) (hc : ∀ i, i < 1 → W.cell? ⟨g, o + i, none⟩ = cs[i]?) (h : DataW.trod enc Try.prog W base (fun _ => true) held fuel 44 cs = some x) : ∃ d : HeadD, d.lie W g o := by
  obtain ⟨v0, rfl⟩ := q1 hl
  obtain ⟨xs, m, _, _, _, hxl, hf⟩ := DataW.trod_struct Try.underlying44 h
  have f0 := hf 0 _ rfl
  have hxl3 : xs.length = 1 := hxl
  rw [List.getElem?_eq_getElem (by omega)] at f0
  simp only [List.getElem_toArray, List.getElem_cons_zero, Try.qcInts, List.drop_zero, List.take_succ_cons, List.take_zero] at f0
  obtain ⟨s, zs, rfl, hs, hz⟩ := qopen_ints f0
  exact ⟨⟨s, zs⟩, ⟨hc 0 (by omega), hs⟩, hz⟩

theorem qlie_state {fuel g o : Nat} {cs : List Value} {x : DataW H × List MemPlace} (hl : cs.length = 5) (hc : ∀ i, i < 5 → W.cell? ⟨g, o + i, none⟩ = cs[i]?) (h : DataW.trod enc Try.prog W base (fun _ => true) held fuel 47 cs = some x) : ∃ d : StateD, d.lie W g o := by
  obtain ⟨v0, v1, v2, v3, v4, rfl⟩ := q5 hl
  obtain ⟨xs, m, _, _, _, hxl, hf⟩ := DataW.trod_struct Try.underlying47 h
  have f0 := hf 0 _ rfl
  have f1 := hf 1 _ rfl
  have f2 := hf 2 _ rfl
  have f3 := hf 3 _ rfl
  have hxl3 : xs.length = 4 := hxl
  rw [List.getElem?_eq_getElem (by omega)] at f0 f1 f2 f3
  simp only [List.getElem_toArray, List.getElem_cons_zero, List.getElem_cons_succ, Try.qcInt, Try.qcRef, Try.qcCases, List.drop_succ_cons, List.drop_zero, List.take_succ_cons, List.take_zero] at f0 f1 f2 f3
  obtain ⟨a, rfl, ha⟩ := qopen_num f0
  obtain ⟨r, rfl, rfl, hr1, hr2⟩ := qopen_ref f1
  obtain ⟨s, S, rfl, hs, hS⟩ := qopen_row Try.underlying45 Try.qcCase (by omega) (P := CaseD.lie) (fun h1 h2 h3 => qlie_case h1 h2 h3) f2
  obtain ⟨n, rfl, hn⟩ := qopen_num f3
  exact ⟨⟨a, r, s, S, n⟩, ⟨hc 0 (by omega), ha⟩, ⟨hc 1 (by omega), hr1⟩, ⟨hc 2 (by omega), hr2⟩, ⟨hc 3 (by omega), hs⟩, ⟨hc 4 (by omega), hn⟩, hS⟩

theorem qlie_op {fuel g o : Nat} {cs : List Value} {x : DataW H × List MemPlace} (hl : cs.length = 5) (hc : ∀ i, i < 5 → W.cell? ⟨g, o + i, none⟩ = cs[i]?) (h : DataW.trod enc Try.prog W base (fun _ => true) held fuel 56 cs = some x) : ∃ d : OpD, d.lie W g o := by
  obtain ⟨v0, v1, v2, v3, v4, rfl⟩ := q5 hl
  obtain ⟨xs, m, _, _, _, hxl, hf⟩ := DataW.trod_struct Try.underlying56 h
  have f0 := hf 0 _ rfl
  have f1 := hf 1 _ rfl
  have f2 := hf 2 _ rfl
  have f3 := hf 3 _ rfl
  have hxl3 : xs.length = 4 := hxl
  rw [List.getElem?_eq_getElem (by omega)] at f0 f1 f2 f3
  simp only [List.getElem_toArray, List.getElem_cons_zero, List.getElem_cons_succ, Try.qcInt, Try.qcRef, Try.qcPushs, List.drop_succ_cons, List.drop_zero, List.take_succ_cons, List.take_zero] at f0 f1 f2 f3
  obtain ⟨a, rfl, ha⟩ := qopen_num f0
  obtain ⟨r, rfl, rfl, hr1, hr2⟩ := qopen_ref f1
  obtain ⟨n, rfl, hn⟩ := qopen_num f2
  obtain ⟨s, S, rfl, hs, hS⟩ := qopen_row Try.underlying54 Try.qcPush (by omega) (P := PushD.lie) (fun h1 h2 h3 => qlie_push h1 h2 h3) f3
  exact ⟨⟨a, r, n, s, S⟩, ⟨hc 0 (by omega), ha⟩, ⟨hc 1 (by omega), hr1⟩, ⟨hc 2 (by omega), hr2⟩, ⟨hc 3 (by omega), hn⟩, ⟨hc 4 (by omega), hs⟩, hS⟩

theorem qlie_act {fuel g o : Nat} {cs : List Value} {x : DataW H × List MemPlace} (hl : cs.length = 2) (hc : ∀ i, i < 2 → W.cell? ⟨g, o + i, none⟩ = cs[i]?) (h : DataW.trod enc Try.prog W base (fun _ => true) held fuel 53 cs = some x) : ∃ d : ActD, d.lie W g o := by
  obtain ⟨v0, v1, rfl⟩ := q2 hl
  obtain ⟨xs, m, _, _, _, hxl, hf⟩ := DataW.trod_struct Try.underlying53 h
  have f0 := hf 0 _ rfl
  have f1 := hf 1 _ rfl
  have hxl3 : xs.length = 2 := hxl
  rw [List.getElem?_eq_getElem (by omega)] at f0 f1
  simp only [List.getElem_toArray, List.getElem_cons_zero, List.getElem_cons_succ, Try.qcInts, Try.qcOps, List.drop_succ_cons, List.drop_zero, List.take_succ_cons, List.take_zero] at f0 f1
  obtain ⟨s, zs, rfl, hs, hz⟩ := qopen_ints f0
  obtain ⟨s', S, rfl, hs', hS⟩ := qopen_row Try.underlying51 Try.qcOp (by omega) (P := OpD.lie) (fun h1 h2 h3 => qlie_op h1 h2 h3) f1
  exact ⟨⟨s, zs, s', S⟩, ⟨hc 0 (by omega), hs⟩, ⟨hc 1 (by omega), hs'⟩, hz, hS⟩

theorem qopen_tab {fuel : Nat} {v0 v1 v2 v3 v4 v5 : Value} {x : DataW H × List MemPlace} (h : DataW.trod enc Try.prog W base (fun _ => true) held fuel 35 [v0, v1, v2, v3, v4, v5] = some x) : ∃ d : TabD, v0 = .int .i64 d.kind ∧ v1 = .slice d.keys.a d.keys.n d.keys.c ∧ v2 = .slice d.acts.a d.acts.n d.acts.c ∧ v3 = .int .i64 d.cap ∧ v4 = .int .i64 d.dflt ∧ v5 = .slice d.args.a d.args.n d.args.c ∧
    ((Lit.int .i64 d.kind).wf = true ∧ (Lit.int .i64 d.cap).wf = true ∧ (Lit.int .i64 d.dflt).wf = true ∧ d.keys.nil0 ∧ d.acts.nil0 ∧ d.args.nil0) ∧ QRow 2 RefD.lie W d.keys d.ks ∧ Has .i64 W d.acts.a d.acts.n d.al ∧ Has .u64 W d.args.a d.args.n d.zs := by
  obtain ⟨xs, m, _, _, _, hxl, hf⟩ := DataW.trod_struct Try.underlying35 h
  have f0 := hf 0 _ rfl
  have f1 := hf 1 _ rfl
  have f2 := hf 2 _ rfl
  have f3 := hf 3 _ rfl
  have f4 := hf 4 _ rfl
  have f5 := hf 5 _ rfl
  have hxl3 : xs.length = 6 := hxl
  rw [List.getElem?_eq_getElem (by omega)] at f0 f1 f2 f3 f4 f5
  simp only [List.getElem_toArray, List.getElem_cons_zero, List.getElem_cons_succ, Try.qcInt, Try.qcInts, Try.qcNums, Try.qcRefs, List.drop_succ_cons, List.drop_zero, List.take_succ_cons, List.take_zero] at f0 f1 f2 f3 f4 f5
  obtain ⟨a, rfl, ha⟩ := qopen_num f0
  obtain ⟨s, S, rfl, hs, hS⟩ := qopen_row Try.underlying32 Try.qcRef (by omega) (P := RefD.lie) (fun h1 h2 h3 => qlie_ref h1 h2 h3) f1
  obtain ⟨s2, z2, rfl, hs2, hz2⟩ := qopen_ints f2
  obtain ⟨b, rfl, hb⟩ := qopen_num f3
  obtain ⟨c, rfl, hc⟩ := qopen_num f4
  obtain ⟨s5, z5, rfl, hs5, hz5⟩ := qopen_nums f5
  exact ⟨⟨a, s, S, s2, z2, b, c, s5, z5⟩, rfl, rfl, rfl, rfl, rfl, rfl, ⟨ha, hb, hc, hs, hs2, hs5⟩, hS, hz2, hz5⟩

theorem qlie_tab {fuel g o : Nat} {cs : List Value} {x : DataW H × List MemPlace} (hl : cs.length = 6) (hc : ∀ i, i < 6 → W.cell? ⟨g, o + i, none⟩ = cs[i]?) (h : DataW.trod enc Try.prog W base (fun _ => true) held fuel 35 cs = some x) : ∃ d : TabD, d.lie W g o := by
  obtain ⟨v0, v1, v2, v3, v4, v5, rfl⟩ := q6 hl
  obtain ⟨d, rfl, rfl, rfl, rfl, rfl, rfl, ⟨e1, e2, e3, e4, e5, e6⟩, h1, h2, h3⟩ := qopen_tab h
  exact ⟨d, ⟨hc 0 (by omega), e1⟩, ⟨hc 1 (by omega), e4⟩, ⟨hc 2 (by omega), e5⟩, ⟨hc 3 (by omega), e2⟩, ⟨hc 4 (by omega), e3⟩, ⟨hc 5 (by omega), e6⟩, h1, h2, h3⟩

theorem qlie_node {fuel g o : Nat} {cs : List Value} {x : DataW H × List MemPlace} (hl : cs.length = 5) (hc : ∀ i, i < 5 → W.cell? ⟨g, o + i, none⟩ = cs[i]?) (h : DataW.trod enc Try.prog W base (fun _ => true) held fuel 58 cs = some x) : ∃ d : NodeD, d.lie W g o := by
  obtain ⟨v0, v1, v2, v3, v4, rfl⟩ := q5 hl
  obtain ⟨xs, m, _, _, _, hxl, hf⟩ := DataW.trod_struct Try.underlying58 h
  have f0 := hf 0 _ rfl
  have f1 := hf 1 _ rfl
  have f2 := hf 2 _ rfl
  have f3 := hf 3 _ rfl
  have f4 := hf 4 _ rfl
  have hxl3 : xs.length = 5 := hxl
  rw [List.getElem?_eq_getElem (by omega)] at f0 f1 f2 f3 f4
  simp only [List.getElem_toArray, List.getElem_cons_zero, List.getElem_cons_succ, Try.qcInt, Try.qcPushs, List.drop_succ_cons, List.drop_zero, List.take_succ_cons, List.take_zero] at f0 f1 f2 f3 f4
  obtain ⟨a, rfl, ha⟩ := qopen_num f0
  obtain ⟨b, rfl, hb⟩ := qopen_num f1
  obtain ⟨s, S, rfl, hs, hS⟩ := qopen_row Try.underlying54 Try.qcPush (by omega) (P := PushD.lie) (fun h1 h2 h3 => qlie_push h1 h2 h3) f2
  obtain ⟨c, rfl, hc'⟩ := qopen_num f3
  obtain ⟨d, rfl, hd⟩ := qopen_num f4
  exact ⟨⟨a, b, s, S, c, d⟩, ⟨hc 0 (by omega), ha⟩, ⟨hc 1 (by omega), hb⟩, ⟨hc 2 (by omega), hs⟩, ⟨hc 3 (by omega), hc'⟩, ⟨hc 4 (by omega), hd⟩, hS⟩

set_option maxRecDepth 20000 in
theorem qopen_plan {fuel : Nat} {cs : List Value} {x : DataW H × List MemPlace} (hl : cs.length = 7) (h : DataW.trod enc Try.prog W base (fun _ => true) held fuel 29 cs = some x) : ∃ d : PlanD, Value.agg cs.toArray = d.v ∧ d.nil0 ∧ d.lie W := by
  obtain ⟨v0, v1, v2, v3, v4, v5, v6, rfl⟩ := q7 hl
  obtain ⟨xs, m, _, _, _, hxl, hf⟩ := DataW.trod_struct Try.underlying29 h
  have f0 := hf 0 _ rfl
  have f1 := hf 1 _ rfl
  have f2 := hf 2 _ rfl
  have f3 := hf 3 _ rfl
  have f4 := hf 4 _ rfl
  have f5 := hf 5 _ rfl
  have f6 := hf 6 _ rfl
  have hxl3 : xs.length = 7 := hxl
  rw [List.getElem?_eq_getElem (by omega)] at f0 f1 f2 f3 f4 f5 f6
  simp only [List.getElem_toArray, List.getElem_cons_zero, List.getElem_cons_succ, Try.qcHeads, Try.qcInts, Try.qcStates, Try.qcActs, Try.qcTabs, Try.qcNodes, List.drop_succ_cons, List.drop_zero, List.take_succ_cons, List.take_zero] at f0 f1 f2 f3 f4 f5 f6
  obtain ⟨s0, z0, rfl, n0, r0⟩ := qopen_row Try.underlying22 Try.qcHead (by omega) (P := HeadD.lie) (fun h1 h2 h3 => qlie_head h1 h2 h3) f0
  obtain ⟨s1, z1, rfl, n1, r1⟩ := qopen_ints f1
  obtain ⟨s2, z2, rfl, n2, r2⟩ := qopen_row Try.underlying24 Try.qcState (by omega) (P := StateD.lie) (fun h1 h2 h3 => qlie_state h1 h2 h3) f2
  obtain ⟨s3, z3, rfl, n3, r3⟩ := qopen_row Try.underlying25 Try.qcAct (by omega) (P := ActD.lie) (fun h1 h2 h3 => qlie_act h1 h2 h3) f3
  obtain ⟨s4, z4, rfl, n4, r4⟩ := qopen_row Try.underlying26 Try.qcTab (by omega) (P := TabD.lie) (fun h1 h2 h3 => qlie_tab h1 h2 h3) f4
  obtain ⟨s5, z5, rfl, n5, r5⟩ := qopen_row Try.underlying27 Try.qcNode (by omega) (P := NodeD.lie) (fun h1 h2 h3 => qlie_node h1 h2 h3) f5
  obtain ⟨s6, z6, rfl, n6, r6, l6⟩ := qopen_intsc f6
  exact ⟨⟨s0, z0, s1, z1, s2, z2, s3, z3, s4, z4, s5, z5, s6, z6⟩, rfl, ⟨n0, n1, n2, n3, n4, n5, n6⟩, ⟨r0, r1, r2, r3, r4, r5, r6, l6⟩⟩
end Go.Proofs.Ytlnkfgdepddmlad
