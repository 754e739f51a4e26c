/- Texts of one chain, joined: QOpen, QPure, QMask. -/
import Derived.Test.YtffbnggdckjogaaGreatG23
import Derived.Test.YtffbnggdckjogaaGreatG46
import Derived.Deep.Slices
import Derived.ProofKit
namespace Go.Proofs.YtffbnggdckjogaaGreat
open Go.RowKit Go.Maps Go.ChangeShapes Go.WideShapes Go.ChangeAt Go.Deep
theorem Tryz.qcInt : Tryz.prog.cellsOf 3 = 1 := by kernel_rfl
theorem Tryz.qcNum : Tryz.prog.cellsOf 63 = 1 := by kernel_rfl
theorem Tryz.qcRef : Tryz.prog.cellsOf 123 = 2 := by kernel_rfl
theorem Tryz.qcPush : Tryz.prog.cellsOf 195 = 4 := by kernel_rfl
theorem Tryz.qcOp : Tryz.prog.cellsOf 126 = 5 := by kernel_rfl
theorem Tryz.qcAct : Tryz.prog.cellsOf 62 = 2 := by kernel_rfl
theorem Tryz.qcTab : Tryz.prog.cellsOf 26 = 6 := by kernel_rfl
theorem Tryz.qcInts : Tryz.prog.cellsOf 23 = 1 := by kernel_rfl
theorem Tryz.qcNums : Tryz.prog.cellsOf 24 = 1 := by kernel_rfl
theorem Tryz.qcRefs : Tryz.prog.cellsOf 22 = 1 := by kernel_rfl
theorem Tryz.qcPushs : Tryz.prog.cellsOf 124 = 1 := by kernel_rfl
theorem Tryz.qcOps : Tryz.prog.cellsOf 60 = 1 := by kernel_rfl
theorem Tryz.qcActs : Tryz.prog.cellsOf 27 = 1 := by kernel_rfl
variable {H : Type} {enc : TypeId × Value → H} {W : World} {base : Nat} {held : Bool}
theorem qopen_num {fuel : Nat} {v : Value} {x : DataW H × List MemPlace} (h : DataW.trod enc Tryz.prog W base (fun _ => true) held fuel 3 [v] = some x) : ∃ n, v = .int .i64 n ∧ (Lit.int .i64 n).wf = true := by
  obtain ⟨n, hcs, _, hw⟩ := DataW.trod_int Tryz.underlying3 h
  exact ⟨n, by simpa using hcs, hw⟩
theorem qopen_unum {fuel : Nat} {v : Value} {x : DataW H × List MemPlace} (h : DataW.trod enc Tryz.prog W base (fun _ => true) held fuel 63 [v] = some x) : ∃ n, v = .int .u64 n ∧ (Lit.int .u64 n).wf = true := by
  obtain ⟨n, hcs, _, hw⟩ := DataW.trod_int Tryz.underlying63 h
  exact ⟨n, by simpa using hcs, hw⟩
theorem qopen_ints {fuel : Nat} {v : Value} {x : DataW H × List MemPlace} (h : DataW.trod enc Tryz.prog W base (fun _ => true) held fuel 23 [v] = some x) : ∃ s : QSl, ∃ zs, v = .slice s.a s.n s.c ∧ s.nil0 ∧ Has .i64 W s.a s.n zs := by
  rcases open_ints Tryz.underlying23 Tryz.underlying3 (by kernel_rfl) h with ⟨hcs, _⟩ | ⟨y, l, c, zs, hcs, _, hl, hm, hz, _, hcell, hwz⟩
  · have e : v = .slice none 0 0 := by simpa using hcs
    exact ⟨⟨none, 0, 0⟩, [], e, fun _ => ⟨rfl, rfl⟩, has_nil _ _⟩
  · have e : v = .slice (some y) l c := by simpa using hcs
    have hr : IsRow .i64 W (some y) l c zs := .inr ⟨_, rfl, hl, hm, by simpa using hz, hcell, hwz⟩
    exact ⟨⟨some y, l, c⟩, zs.take l, e, by simp [QSl.nil0], hr.has⟩
theorem qopen_intsc {fuel : Nat} {v : Value} {x : DataW H × List MemPlace} (h : DataW.trod enc Tryz.prog W base (fun _ => true) held fuel 23 [v] = some x) : ∃ s : QSl, ∃ zs, v = .slice s.a s.n s.c ∧ s.nil0 ∧ Has .i64 W s.a s.n zs ∧ s.n ≤ s.c := by
  rcases open_ints Tryz.underlying23 Tryz.underlying3 (by kernel_rfl) h with ⟨hcs, _⟩ | ⟨y, l, c, zs, hcs, _, hl, hm, hz, _, hcell, hwz⟩
  · have e : v = .slice none 0 0 := by simpa using hcs
    exact ⟨⟨none, 0, 0⟩, [], e, fun _ => ⟨rfl, rfl⟩, has_nil _ _, Nat.le_refl _⟩
  · have e : v = .slice (some y) l c := by simpa using hcs
    have hr : IsRow .i64 W (some y) l c zs := .inr ⟨_, rfl, hl, hm, by simpa using hz, hcell, hwz⟩
    exact ⟨⟨some y, l, c⟩, zs.take l, e, by simp [QSl.nil0], hr.has, hl⟩
theorem qopen_nums {fuel : Nat} {v : Value} {x : DataW H × List MemPlace} (h : DataW.trod enc Tryz.prog W base (fun _ => true) held fuel 24 [v] = some x) : ∃ s : QSl, ∃ zs, v = .slice s.a s.n s.c ∧ s.nil0 ∧ Has .u64 W s.a s.n zs := by
  rcases open_ints Tryz.underlying24 Tryz.underlying63 (by kernel_rfl) h with ⟨hcs, _⟩ | ⟨y, l, c, zs, hcs, _, hl, hm, hz, _, hcell, hwz⟩
  · have e : v = .slice none 0 0 := by simpa using hcs
    exact ⟨⟨none, 0, 0⟩, [], e, fun _ => ⟨rfl, rfl⟩, has_nil _ _⟩
  · have e : v = .slice (some y) l c := by simpa using hcs
    have hr : IsRow .u64 W (some y) l c zs := .inr ⟨_, rfl, hl, hm, by simpa using hz, hcell, hwz⟩
    exact ⟨⟨some y, l, c⟩, zs.take l, e, by simp [QSl.nil0], hr.has⟩
theorem qopen_row {α : Type} {T E : TypeId} {k : Nat} {P : α → World → Nat → Nat → Prop} (hT : Tryz.prog.underlying T = some (.slice E)) (hk : Tryz.prog.cellsOf E = k) (k0 : 0 < k)
    (hP : ∀ {fuel g o : Nat} {cs : List Value} {x : DataW H × List MemPlace}, cs.length = k → (∀ i, i < k → W.cell? ⟨g, o + i, none⟩ = cs[i]?) → DataW.trod enc Tryz.prog W base (fun _ => true) held fuel E cs = some x → ∃ d : α, P d W g o)
    {fuel : Nat} {v : Value} {x : DataW H × List MemPlace} (h : DataW.trod enc Tryz.prog W base (fun _ => true) held fuel T [v] = some x) : ∃ s : QSl, ∃ S, v = .slice s.a s.n s.c ∧ s.nil0 ∧ QRow k P W s S := by
  rcases open_slice hT h with ⟨hcs, _⟩ | ⟨y, n, cap, m, k', D, Pl, hcs, _, hl, _, hm, _, hel⟩
  · have e : v = .slice none 0 0 := by simpa using hcs
    exact ⟨⟨none, 0, 0⟩, [], e, fun _ => ⟨rfl, rfl⟩, rfl, by simp⟩
  · have e : v = .slice (some y) n cap := by simpa using hcs
    simp only [if_true] at hm
    have key : ∀ i, i < n → ∃ d : α, ∃ g off, y = ⟨g, off, none⟩ ∧ P d W g (off + i * k) := by
      intro i hi
      obtain ⟨cs', hcells, htr⟩ := hel i (by omega)
      rw [hk] at hcells
      obtain ⟨_, hlen, hget⟩ := World.cells?_some hcells
      obtain ⟨cs0, hcells0, _⟩ := hel 0 (by omega)
      rw [hk] at hcells0
      obtain ⟨_, hlen0, hget0⟩ := World.cells?_some hcells0
      obtain ⟨g, off, spot⟩ := y
      have h0 := hget0 0 (by omega)
      rw [List.getElem?_eq_getElem (by omega)] at h0
      have hspot : spot = none := by simpa [Addr.add] using World.cell?_spot h0
      subst hspot
      obtain ⟨d, h1⟩ := hP (g := g) (o := off + i * k) (by simpa using hlen) (fun j hj => by
        have := hget j (by omega)
        rw [Addr.add_lit, Addr.add_lit] at this
        exact this) htr
      exact ⟨d, g, off, rfl, h1⟩
    by_cases h0 : n = 0
    · subst h0
      exact ⟨⟨some y, 0, cap⟩, [], e, by simp [QSl.nil0], rfl, by simp⟩
    obtain ⟨d0, _⟩ := key 0 (by omega)
    haveI : Inhabited α := ⟨d0⟩
    obtain ⟨f, hf⟩ := choose_lt key
    refine ⟨⟨some y, n, cap⟩, (List.range n).map f, e, by simp [QSl.nil0], by simp, fun i d hd => ?_⟩
    simp only [List.getElem?_map, Option.map_eq_some_iff] at hd
    obtain ⟨j, hj, rfl⟩ := hd
    have hi : i < n := by
      have := (List.getElem?_eq_some_iff.1 hj).1
      simpa using this
    rw [List.getElem?_range hi] at hj
    have e : i = j := by simpa using hj
    subst e
    obtain ⟨g, off, e, r⟩ := hf i hi
    exact ⟨g, off, by rw [e], r⟩
theorem q1 {α : Type} {l : List α} (h : l.length = 1) : ∃ a, l = [a] := by
  match l, h with
  | [a], _ => exact ⟨a, rfl⟩
theorem q2 {α : Type} {l : List α} (h : l.length = 2) : ∃ a b, l = [a, b] := by
  match l, h with
  | [a, b], _ => exact ⟨a, b, rfl⟩
theorem q3 {α : Type} {l : List α} (h : l.length = 3) : ∃ a b c, l = [a, b, c] := by
  match l, h with
  | [a, b, c], _ => exact ⟨a, b, c, rfl⟩
theorem q4 {α : Type} {l : List α} (h : l.length = 4) : ∃ a b c d, l = [a, b, c, d] := by
  match l, h with
  | [a, b, c, d], _ => exact ⟨a, b, c, d, rfl⟩
theorem q5 {α : Type} {l : List α} (h : l.length = 5) : ∃ a b c d e, l = [a, b, c, d, e] := by
  match l, h with
  | [a, b, c, d, e], _ => exact ⟨a, b, c, d, e, rfl⟩
theorem q6 {α : Type} {l : List α} (h : l.length = 6) : ∃ a b c d e f, l = [a, b, c, d, e, f] := by
  match l, h with
  | [a, b, c, d, e, f], _ => exact ⟨a, b, c, d, e, f, rfl⟩
theorem q7 {α : Type} {l : List α} (h : l.length = 7) : ∃ a b c d e f g, l = [a, b, c, d, e, f, g] := by
  match l, h with
  | [a, b, c, d, e, f, g], _ => exact ⟨a, b, c, d, e, f, g, rfl⟩
theorem qopen_ref {fuel : Nat} {v0 v1 : Value} {x : DataW H × List MemPlace} (h : DataW.trod enc Tryz.prog W base (fun _ => true) held fuel 123 [v0, v1] = some x) : ∃ d : RefD, v0 = .int .i64 d.h ∧ v1 = .int .i64 d.f ∧ (Lit.int .i64 d.h).wf = true ∧ (Lit.int .i64 d.f).wf = true := by
  obtain ⟨y0, y1, n, _, hl, h0, h1⟩ := trod_struct2 Tryz.underlying123 h
  simp only [Tryz.qcInt, List.drop_zero, List.take_succ_cons, List.take_zero] at h0
  simp only [Tryz.qcInt, List.drop_succ_cons, List.drop_zero, List.take_succ_cons, List.take_zero] at h1
  obtain ⟨a, rfl, ha⟩ := qopen_num h0
  obtain ⟨b, rfl, hb⟩ := qopen_num h1
  exact ⟨⟨a, b⟩, rfl, rfl, ha, hb⟩
theorem qlie_ref {fuel g o : Nat} {cs : List Value} {x : DataW H × List MemPlace} (hl : cs.length = 2) (hc : ∀ i, i < 2 → W.cell? ⟨g, o + i, none⟩ = cs[i]?) (h : DataW.trod enc Tryz.prog W base (fun _ => true) held fuel 123 cs = some x) : ∃ d : RefD, d.lie W g o := by
  obtain ⟨v0, v1, rfl⟩ := q2 hl
  obtain ⟨d, rfl, rfl, h1, h2⟩ := qopen_ref h
  exact ⟨d, ⟨hc 0 (by omega), h1⟩, ⟨hc 1 (by omega), h2⟩⟩
theorem qlie_push {fuel g o : Nat} {cs : List Value} {x : DataW H × List MemPlace} (hl : cs.length = 4) (hc : ∀ i, i < 4 → W.cell? ⟨g, o + i, none⟩ = cs[i]?) (h : DataW.trod enc Tryz.prog W base (fun _ => true) held fuel 195 cs = some x) : ∃ d : PushD, d.lie W g o := by
  obtain ⟨v0, v1, v2, v3, rfl⟩ := q4 hl
  obtain ⟨xs, m, _, _, _, hxl, hf⟩ := DataW.trod_struct Tryz.underlying195 h
  have f0 := hf 0 _ rfl
  have f1 := hf 1 _ rfl
  have f2 := hf 2 _ rfl
  have hxl3 : xs.length = 3 := hxl
  rw [List.getElem?_eq_getElem (by omega)] at f0 f1 f2
  simp only [List.getElem_toArray, List.getElem_cons_zero, List.getElem_cons_succ, Tryz.qcInt, Tryz.qcRef, Tryz.qcNum, List.drop_succ_cons, List.drop_zero, List.take_succ_cons, List.take_zero] at f0 f1 f2
  obtain ⟨a, rfl, ha⟩ := qopen_num f0
  obtain ⟨r, rfl, rfl, hr1, hr2⟩ := qopen_ref f1
  obtain ⟨n, rfl, hn⟩ := qopen_unum f2
  exact ⟨⟨a, r, n⟩, ⟨hc 0 (by omega), ha⟩, ⟨hc 1 (by omega), hr1⟩, ⟨hc 2 (by omega), hr2⟩, ⟨hc 3 (by omega), hn⟩⟩
theorem qlie_op {fuel g o : Nat} {cs : List Value} {x : DataW H × List MemPlace} (hl : cs.length = 5) (hc : ∀ i, i < 5 → W.cell? ⟨g, o + i, none⟩ = cs[i]?) (h : DataW.trod enc Tryz.prog W base (fun _ => true) held fuel 126 cs = some x) : ∃ d : OpD, d.lie W g o := by
  obtain ⟨v0, v1, v2, v3, v4, rfl⟩ := q5 hl
  obtain ⟨xs, m, _, _, _, hxl, hf⟩ := DataW.trod_struct Tryz.underlying126 h
  have f0 := hf 0 _ rfl
  have f1 := hf 1 _ rfl
  have f2 := hf 2 _ rfl
  have f3 := hf 3 _ rfl
  have hxl3 : xs.length = 4 := hxl
  rw [List.getElem?_eq_getElem (by omega)] at f0 f1 f2 f3
  simp only [List.getElem_toArray, List.getElem_cons_zero, List.getElem_cons_succ, Tryz.qcInt, Tryz.qcRef, Tryz.qcPushs, List.drop_succ_cons, List.drop_zero, List.take_succ_cons, List.take_zero] at f0 f1 f2 f3
  obtain ⟨a, rfl, ha⟩ := qopen_num f0
  obtain ⟨r, rfl, rfl, hr1, hr2⟩ := qopen_ref f1
  obtain ⟨n, rfl, hn⟩ := qopen_num f2
  obtain ⟨s, S, rfl, hs, hS⟩ := qopen_row Tryz.underlying124 Tryz.qcPush (by omega) (P := PushD.lie) (fun h1 h2 h3 => qlie_push h1 h2 h3) f3
  exact ⟨⟨a, r, n, s, S⟩, ⟨hc 0 (by omega), ha⟩, ⟨hc 1 (by omega), hr1⟩, ⟨hc 2 (by omega), hr2⟩, ⟨hc 3 (by omega), hn⟩, ⟨hc 4 (by omega), hs⟩, hS⟩
theorem qlie_act {fuel g o : Nat} {cs : List Value} {x : DataW H × List MemPlace} (hl : cs.length = 2) (hc : ∀ i, i < 2 → W.cell? ⟨g, o + i, none⟩ = cs[i]?) (h : DataW.trod enc Tryz.prog W base (fun _ => true) held fuel 62 cs = some x) : ∃ d : ActD, d.lie W g o := by
  obtain ⟨v0, v1, rfl⟩ := q2 hl
  obtain ⟨xs, m, _, _, _, hxl, hf⟩ := DataW.trod_struct Tryz.underlying62 h
  have f0 := hf 0 _ rfl
  have f1 := hf 1 _ rfl
  have hxl3 : xs.length = 2 := hxl
  rw [List.getElem?_eq_getElem (by omega)] at f0 f1
  simp only [List.getElem_toArray, List.getElem_cons_zero, List.getElem_cons_succ, Tryz.qcInts, Tryz.qcOps, List.drop_succ_cons, List.drop_zero, List.take_succ_cons, List.take_zero] at f0 f1
  obtain ⟨s, zs, rfl, hs, hz⟩ := qopen_ints f0
  obtain ⟨s', S, rfl, hs', hS⟩ := qopen_row Tryz.underlying60 Tryz.qcOp (by omega) (P := OpD.lie) (fun h1 h2 h3 => qlie_op h1 h2 h3) f1
  exact ⟨⟨s, zs, s', S⟩, ⟨hc 0 (by omega), hs⟩, ⟨hc 1 (by omega), hs'⟩, hz, hS⟩
theorem qopen_tab {fuel : Nat} {v0 v1 v2 v3 v4 v5 : Value} {x : DataW H × List MemPlace} (h : DataW.trod enc Tryz.prog W base (fun _ => true) held fuel 26 [v0, v1, v2, v3, v4, v5] = some x) : ∃ d : TabD, v0 = .int .i64 d.kind ∧ v1 = .slice d.keys.a d.keys.n d.keys.c ∧ v2 = .slice d.acts.a d.acts.n d.acts.c ∧ v3 = .int .i64 d.cap ∧ v4 = .int .i64 d.dflt ∧ v5 = .slice d.args.a d.args.n d.args.c ∧
    ((Lit.int .i64 d.kind).wf = true ∧ (Lit.int .i64 d.cap).wf = true ∧ (Lit.int .i64 d.dflt).wf = true ∧ d.keys.nil0 ∧ d.acts.nil0 ∧ d.args.nil0) ∧ QRow 2 RefD.lie W d.keys d.ks ∧ Has .i64 W d.acts.a d.acts.n d.al ∧ Has .u64 W d.args.a d.args.n d.zs := by
  obtain ⟨xs, m, _, _, _, hxl, hf⟩ := DataW.trod_struct Tryz.underlying26 h
  have f0 := hf 0 _ rfl
  have f1 := hf 1 _ rfl
  have f2 := hf 2 _ rfl
  have f3 := hf 3 _ rfl
  have f4 := hf 4 _ rfl
  have f5 := hf 5 _ rfl
  have hxl3 : xs.length = 6 := hxl
  rw [List.getElem?_eq_getElem (by omega)] at f0 f1 f2 f3 f4 f5
  simp only [List.getElem_toArray, List.getElem_cons_zero, List.getElem_cons_succ, Tryz.qcInt, Tryz.qcInts, Tryz.qcNums, Tryz.qcRefs, List.drop_succ_cons, List.drop_zero, List.take_succ_cons, List.take_zero] at f0 f1 f2 f3 f4 f5
  obtain ⟨a, rfl, ha⟩ := qopen_num f0
  obtain ⟨s, S, rfl, hs, hS⟩ := qopen_row Tryz.underlying22 Tryz.qcRef (by omega) (P := RefD.lie) (fun h1 h2 h3 => qlie_ref h1 h2 h3) f1
  obtain ⟨s2, z2, rfl, hs2, hz2⟩ := qopen_ints f2
  obtain ⟨b, rfl, hb⟩ := qopen_num f3
  obtain ⟨c, rfl, hc⟩ := qopen_num f4
  obtain ⟨s5, z5, rfl, hs5, hz5⟩ := qopen_nums f5
  exact ⟨⟨a, s, S, s2, z2, b, c, s5, z5⟩, rfl, rfl, rfl, rfl, rfl, rfl, ⟨ha, hb, hc, hs, hs2, hs5⟩, hS, hz2, hz5⟩
theorem qlie_tab {fuel g o : Nat} {cs : List Value} {x : DataW H × List MemPlace} (hl : cs.length = 6) (hc : ∀ i, i < 6 → W.cell? ⟨g, o + i, none⟩ = cs[i]?) (h : DataW.trod enc Tryz.prog W base (fun _ => true) held fuel 26 cs = some x) : ∃ d : TabD, d.lie W g o := by
  obtain ⟨v0, v1, v2, v3, v4, v5, rfl⟩ := q6 hl
  obtain ⟨d, rfl, rfl, rfl, rfl, rfl, rfl, ⟨e1, e2, e3, e4, e5, e6⟩, h1, h2, h3⟩ := qopen_tab h
  exact ⟨d, ⟨hc 0 (by omega), e1⟩, ⟨hc 1 (by omega), e4⟩, ⟨hc 2 (by omega), e5⟩, ⟨hc 3 (by omega), e2⟩, ⟨hc 4 (by omega), e3⟩, ⟨hc 5 (by omega), e6⟩, h1, h2, h3⟩
end Go.Proofs.YtffbnggdckjogaaGreat

namespace Go.Proofs.YtffbnggdckjogaaGreat
open Go.RowKit
structure PState where
  head : Int
  r : RefD
  cs : List CaseD
  els : Int
structure POp where
  kind : Int
  r : RefD
  head : Int
  es : List PushD
structure PAct where
  ws : List Int
  os : List POp
structure PTab where
  kind : Int
  ks : List RefD
  al : List Int
  cap : Int
  dflt : Int
  zs : List Int
structure PNode where
  kind : Int
  n : Int
  es : List PushD
  yes : Int
  no : Int
structure PPlan where
  hs : List (List Int)
  ms : List Int
  ss : List PState
  al : List PAct
  ts : List PTab
  ns : List PNode
  os : List Int
@[reducible] def PState.z : PState := ⟨0, ⟨0, 0⟩, [], 0⟩
@[reducible] def PAct.z : PAct := ⟨[], []⟩
@[reducible] def PTab.z : PTab := ⟨0, [], [], 0, 0, []⟩
@[reducible] def PNode.z : PNode := ⟨0, 0, [], 0, 0⟩
def StateD.p (x : StateD) : PState := ⟨x.head, x.r, x.cs, x.els⟩
def OpD.p (x : OpD) : POp := ⟨x.kind, x.r, x.head, x.es⟩
def ActD.p (x : ActD) : PAct := ⟨x.ws, x.os.map OpD.p⟩
def TabD.p (x : TabD) : PTab := ⟨x.kind, x.ks, x.al, x.cap, x.dflt, x.zs⟩
def NodeD.p (x : NodeD) : PNode := ⟨x.kind, x.n, x.es, x.yes, x.no⟩
def PlanD.p (d : PlanD) : PPlan := ⟨d.hs.map HeadD.ws, d.ms, d.ss.map StateD.p, d.al.map ActD.p, d.ts.map TabD.p, d.ns.map NodeD.p, d.os⟩
end Go.Proofs.YtffbnggdckjogaaGreat

namespace Go.Proofs.YtffbnggdckjogaaGreat
open Go.RowKit
def mask (F : Nat → Prop) (D : ∀ i, Decidable (F i)) (w : World) : World := { w with heap := w.heap.mapIdx fun i o => @ite _ (F i) (D i) (Obj.cells #[] 0) o }
theorem mask_size (F : Nat → Prop) (w : World) : (mask F (fun _ => Classical.propDecidable _) w).heap.size = w.heap.size := by simp [mask]
open Classical in
theorem mask_at (F : Nat → Prop) (w : World) (k : Nat) : (mask F (fun _ => Classical.propDecidable _) w).heap[k]? = w.heap[k]?.map fun o => if F k then Obj.cells #[] 0 else o := by
  simp [mask, Array.getElem?_mapIdx]
theorem mask_off {F : Nat → Prop} {w : World} {k : Nat} (h : ¬ F k) : (mask F (fun _ => Classical.propDecidable _) w).heap[k]? = w.heap[k]? := by
  rw [mask_at]
  simp [h]
theorem mask_on {F : Nat → Prop} {w : World} {k : Nat} (h : F k) (hk : k < w.heap.size) : (mask F (fun _ => Classical.propDecidable _) w).heap[k]? = some (Obj.cells #[] 0) := by
  rw [mask_at, Array.getElem?_eq_getElem hk]
  simp [h]
def Cov (w w' : World) : Prop := w.heap.size ≤ w'.heap.size ∧ ∀ g o v, w.cell? ⟨g, o, none⟩ = some v → w'.cell? ⟨g, o, none⟩ = some v
theorem cov_mask (F : Nat → Prop) (w : World) : Cov (mask F (fun _ => Classical.propDecidable _) w) w := by
  refine ⟨Nat.le_of_eq (mask_size F w), fun g o v h => ?_⟩
  by_cases hF : F g
  · have hg : g < w.heap.size := by have := World.block_lt_of_cell? _ _ h; rwa [mask_size] at this
    simp only [World.cell?, mask_on hF hg] at h
    simp at h
  · simp only [World.cell?, mask_off hF] at h
    exact h
theorem mask_cell {F : Nat → Prop} {w : World} {g o : Nat} {v : Value} (h : w.cell? ⟨g, o, none⟩ = some v) (hF : ¬ F g) : (mask F (fun _ => Classical.propDecidable _) w).cell? ⟨g, o, none⟩ = some v := by
  simp only [World.cell?, mask_off hF]
  exact h
theorem mask_below {F F' : Nat → Prop} {w w' : World} (h1 : w'.os = w.os) (h2 : w'.tape = w.tape) (h3 : w'.output = w.output) (hs : w.heap.size ≤ w'.heap.size) (hF : ∀ k, F k → F' k) (hk : ∀ k, k < w.heap.size → ¬ F k → ¬ F' k ∧ w'.heap[k]? = w.heap[k]?) : Below (mask F (fun _ => Classical.propDecidable _) w).heap.size (mask F (fun _ => Classical.propDecidable _) w) (mask F' (fun _ => Classical.propDecidable _) w') := by
  refine ⟨h1, h2, h3, by rw [mask_size, mask_size]; exact hs, fun k hk' => ?_⟩
  rw [mask_size] at hk'
  by_cases h : F k
  · rw [mask_on h hk', mask_on (hF k h) (Nat.lt_of_lt_of_le hk' hs)]
  · obtain ⟨h', e⟩ := hk k hk' h
    rw [mask_off h, mask_off h', e]
theorem mask_step {F : Nat → Prop} {w w' : World} (hb : Below w.heap.size w w') : Below (mask F (fun _ => Classical.propDecidable _) w).heap.size (mask F (fun _ => Classical.propDecidable _) w) (mask F (fun _ => Classical.propDecidable _) w') :=
  mask_below hb.os hb.tape hb.output hb.size (fun _ h => h) fun k hk h => ⟨h, hb.block k hk⟩
theorem CI.cov {w w' : World} {g o : Nat} {n : Int} (h : CI w g o n) (c : Cov w w') : CI w' g o n := ⟨c.2 _ _ _ h.1, h.2⟩
theorem CU.cov {w w' : World} {g o : Nat} {n : Int} (h : CU w g o n) (c : Cov w w') : CU w' g o n := ⟨c.2 _ _ _ h.1, h.2⟩
theorem CS.cov {w w' : World} {g o : Nat} {s : QSl} (h : CS w g o s) (c : Cov w w') : CS w' g o s := ⟨c.2 _ _ _ h.1, h.2⟩
theorem Has.cov {k : IntKind} {w w' : World} {a : Option Addr} {len : Nat} {zs : List Int} (h : Has k w a len zs) (c : Cov w w') : Has k w' a len zs := by
  refine ⟨h.1, h.2.1, ?_⟩
  rcases h.2.2 with h | ⟨b, off, rfl, hlt, hc⟩
  · exact .inl h
  · exact .inr ⟨b, off, rfl, Nat.lt_of_lt_of_le hlt c.1, fun i hi => c.2 _ _ _ (hc i hi)⟩
def Covs {α : Type} (P : α → World → Nat → Nat → Prop) : Prop := ∀ {d : α} {w w' : World} {g o : Nat}, P d w g o → Cov w w' → P d w' g o
theorem QRow.cov {α : Type} {k : Nat} {P : α → World → Nat → Nat → Prop} {w w' : World} {s : QSl} {S : List α} (h : QRow k P w s S) (hP : Covs P) (c : Cov w w') : QRow k P w' s S :=
  ⟨h.1, fun i d hd => by obtain ⟨g, off, e, hp⟩ := h.2 i d hd; exact ⟨g, off, e, hP hp c⟩⟩
end Go.Proofs.YtffbnggdckjogaaGreat
