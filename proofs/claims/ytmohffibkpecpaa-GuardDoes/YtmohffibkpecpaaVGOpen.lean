/- A program that came in lies as ProgD.lie says. -/
import Derived.Test.YtmohffibkpecpaaJ2
import Derived.Test.YtmohffibkpecpaaJ1
import Derived.Deep.Slices
import Derived.ProofKit
namespace Go.Proofs.Ytmohffibkpecpaa
open Go.RowKit Go.Maps Go.ChangeShapes Go.WideShapes Go.ChangeAt Go.Deep

theorem Try.gcInt : Try.prog.cellsOf 3 = 1 := by kernel_rfl
theorem Try.gcNum : Try.prog.cellsOf 33 = 1 := by kernel_rfl
theorem Try.gcShape : Try.prog.cellsOf 64 = 3 := by kernel_rfl
theorem Try.gcIns : Try.prog.cellsOf 35 = 6 := by kernel_rfl
theorem Try.gcProg : Try.prog.cellsOf 25 = 3 := by kernel_rfl
theorem Try.gcShapes : Try.prog.cellsOf 22 = 1 := by kernel_rfl
theorem Try.gcInss : Try.prog.cellsOf 23 = 1 := by kernel_rfl

variable {H : Type} {enc : TypeId × Value → H} {W : World} {base : Nat} {held : Bool}

theorem gopen_num {fuel : Nat} {v : Value} {x : DataW H × List MemPlace} (h : DataW.trod enc Try.prog W base (fun _ => true) held fuel 3 [v] = some x) : ∃ n, v = .int .i64 n ∧ (Lit.int .i64 n).wf = true := by
  obtain ⟨n, hcs, _, hw⟩ := DataW.trod_int Try.underlying3 h
  exact ⟨n, by simpa using hcs, hw⟩

theorem gopen_unum {fuel : Nat} {v : Value} {x : DataW H × List MemPlace} (h : DataW.trod enc Try.prog W base (fun _ => true) held fuel 33 [v] = some x) : ∃ n, v = .int .u64 n ∧ (Lit.int .u64 n).wf = true := by
  obtain ⟨n, hcs, _, hw⟩ := DataW.trod_int Try.underlying33 h
  exact ⟨n, by simpa using hcs, hw⟩

/-- a list of things of k cells, each of which opens -/
theorem gopen_row {α : Type} {T E : TypeId} {k : Nat} {P : α → World → Nat → Nat → Prop} (hT : Try.prog.underlying T = some (.slice E)) (hk : Try.prog.cellsOf E = k) (k0 : 0 < k)
    (hP : ∀ {fuel g o : Nat} {cs : List Value} {x : DataW H × List MemPlace}, cs.length = k → (∀ i, i < k → W.cell? ⟨g, o + i, none⟩ = cs[i]?) → DataW.trod enc Try.prog W base (fun _ => true) held fuel E cs = some x → ∃ d : α, P d W g o)
    {fuel : Nat} {v : Value} {x : DataW H × List MemPlace} (h : DataW.trod enc Try.prog W base (fun _ => true) held fuel T [v] = some x) : ∃ s : QSl, ∃ S, v = .slice s.a s.n s.c ∧ s.nil0 ∧ QRow k P W s S := by
  rcases open_slice hT h with ⟨hcs, _⟩ | ⟨y, n, cap, m, k', D, Pl, hcs, _, hl, _, hm, _, hel⟩
  · have e : v = .slice none 0 0 := by simpa using hcs
    exact ⟨⟨none, 0, 0⟩, [], e, fun _ => ⟨rfl, rfl⟩, rfl, by simp⟩
  · have e : v = .slice (some y) n cap := by simpa using hcs
    simp only [if_true] at hm
    have key : ∀ i, i < n → ∃ d : α, ∃ g off, y = ⟨g, off, none⟩ ∧ P d W g (off + i * k) := by
      intro i hi
      obtain ⟨cs', hcells, htr⟩ := hel i (by omega)
      rw [hk] at hcells
      obtain ⟨_, hlen, hget⟩ := World.cells?_some hcells
      obtain ⟨cs0, hcells0, _⟩ := hel 0 (by omega)
      rw [hk] at hcells0
      obtain ⟨_, hlen0, hget0⟩ := World.cells?_some hcells0
      obtain ⟨g, off, spot⟩ := y
      have h0 := hget0 0 (by omega)
      rw [List.getElem?_eq_getElem (by omega)] at h0
      have hspot : spot = none := by simpa [Addr.add] using World.cell?_spot h0
      subst hspot
      obtain ⟨d, h1⟩ := hP (g := g) (o := off + i * k) (by simpa using hlen) (fun j hj => by
        have := hget j (by omega)
        rw [Addr.add_lit, Addr.add_lit] at this
        exact this) htr
      exact ⟨d, g, off, rfl, h1⟩
    by_cases h0 : n = 0
    · subst h0
      exact ⟨⟨some y, 0, cap⟩, [], e, by simp [QSl.nil0], rfl, by simp⟩
    obtain ⟨d0, _⟩ := key 0 (by omega)
    haveI : Inhabited α := ⟨d0⟩
    obtain ⟨f, hf⟩ := choose_lt key
    refine ⟨⟨some y, n, cap⟩, (List.range n).map f, e, by simp [QSl.nil0], by simp, fun i d hd => ?_⟩
    simp only [List.getElem?_map, Option.map_eq_some_iff] at hd
    obtain ⟨j, hj, rfl⟩ := hd
    have hi : i < n := by
      have := (List.getElem?_eq_some_iff.1 hj).1
      simpa using this
    rw [List.getElem?_range hi] at hj
    have e : i = j := by simpa using hj
    subst e
    obtain ⟨g, off, e, r⟩ := hf i hi
    exact ⟨g, off, by rw [e], r⟩



theorem g3 {α : Type} {l : List α} (h : l.length = 3) : ∃ a b c, l = [a, b, c] := by
  match l, h with
  | [a, b, c], _ => exact ⟨a, b, c, rfl⟩
theorem g6 {α : Type} {l : List α} (h : l.length = 6) : ∃ a b c d e f, l = [a, b, c, d, e, f] := by
  match l, h with
  | [a, b, c, d, e, f], _ => exact ⟨a, b, c, d, e, f, rfl⟩

theorem glie_shape {fuel g o : Nat} {cs : List Value} {x : DataW H × List MemPlace} (hl : cs.length = 3) (hc : ∀ i, i < 3 → W.cell? ⟨g, o + i, none⟩ = cs[i]?) (h : DataW.trod enc Try.prog W base (fun _ => true) held fuel 64 cs = some x) : ∃ d : ShapeD, d.lie W g o := by
  obtain ⟨v0, v1, v2, rfl⟩ := g3 hl
  obtain ⟨xs, m, _, _, _, hxl, hf⟩ := DataW.trod_struct Try.underlying64 h
  have f0 := hf 0 _ rfl
  have f1 := hf 1 _ rfl
  have f2 := hf 2 _ rfl
  have hxl3 : xs.length = 3 := hxl
  rw [List.getElem?_eq_getElem (by omega)] at f0 f1 f2
  simp only [List.getElem_toArray, List.getElem_cons_zero, List.getElem_cons_succ, Try.gcInt, List.drop_succ_cons, List.drop_zero, List.take_succ_cons, List.take_zero] at f0 f1 f2
  obtain ⟨a, rfl, ha⟩ := gopen_num f0
  obtain ⟨b, rfl, hb⟩ := gopen_num f1
  obtain ⟨c, rfl, hc'⟩ := gopen_num f2
  exact ⟨⟨a, b, c⟩, ⟨hc 0 (by omega), ha⟩, ⟨hc 1 (by omega), hb⟩, ⟨hc 2 (by omega), hc'⟩⟩

theorem glie_ins {fuel g o : Nat} {cs : List Value} {x : DataW H × List MemPlace} (hl : cs.length = 6) (hc : ∀ i, i < 6 → W.cell? ⟨g, o + i, none⟩ = cs[i]?) (h : DataW.trod enc Try.prog W base (fun _ => true) held fuel 35 cs = some x) : ∃ d : InsD, d.lie W g o := by
  obtain ⟨v0, v1, v2, v3, v4, v5, rfl⟩ := g6 hl
  obtain ⟨xs, m, _, _, _, hxl, hf⟩ := DataW.trod_struct Try.underlying35 h
  have f0 := hf 0 _ rfl
  have f1 := hf 1 _ rfl
  have f2 := hf 2 _ rfl
  have f3 := hf 3 _ rfl
  have f4 := hf 4 _ rfl
  have f5 := hf 5 _ rfl
  have hxl3 : xs.length = 6 := hxl
  rw [List.getElem?_eq_getElem (by omega)] at f0 f1 f2 f3 f4 f5
  simp only [List.getElem_toArray, List.getElem_cons_zero, List.getElem_cons_succ, Try.gcInt, Try.gcNum, List.drop_succ_cons, List.drop_zero, List.take_succ_cons, List.take_zero] at f0 f1 f2 f3 f4 f5
  obtain ⟨a, rfl, ha⟩ := gopen_num f0
  obtain ⟨b, rfl, hb⟩ := gopen_num f1
  obtain ⟨c, rfl, hc'⟩ := gopen_num f2
  obtain ⟨d, rfl, hd⟩ := gopen_num f3
  obtain ⟨e, rfl, he⟩ := gopen_num f4
  obtain ⟨f, rfl, hf'⟩ := gopen_unum f5
  exact ⟨⟨a, b, c, d, e, f⟩, ⟨hc 0 (by omega), ha⟩, ⟨hc 1 (by omega), hb⟩, ⟨hc 2 (by omega), hc'⟩, ⟨hc 3 (by omega), hd⟩, ⟨hc 4 (by omega), he⟩, ⟨hc 5 (by omega), hf'⟩⟩

set_option maxRecDepth 20000 in
theorem gopen_prog {fuel : Nat} {cs : List Value} {x : DataW H × List MemPlace} (hl : cs.length = 3) (h : DataW.trod enc Try.prog W base (fun _ => true) held fuel 25 cs = some x) : ∃ d : ProgD, Value.agg cs.toArray = d.v ∧ d.lie W := by
  obtain ⟨v0, v1, v2, rfl⟩ := g3 hl
  obtain ⟨xs, m, _, _, _, hxl, hf⟩ := DataW.trod_struct Try.underlying25 h
  have f0 := hf 0 _ rfl
  have f1 := hf 1 _ rfl
  have f2 := hf 2 _ rfl
  have hxl3 : xs.length = 3 := hxl
  rw [List.getElem?_eq_getElem (by omega)] at f0 f1 f2
  simp only [List.getElem_toArray, List.getElem_cons_zero, List.getElem_cons_succ, Try.gcInt, Try.gcShapes, Try.gcInss, List.drop_succ_cons, List.drop_zero, List.take_succ_cons, List.take_zero] at f0 f1 f2
  obtain ⟨a, rfl, ha⟩ := gopen_num f0
  obtain ⟨s1, z1, rfl, n1, r1⟩ := gopen_row Try.underlying22 Try.gcShape (by omega) (P := ShapeD.lie) (fun h1 h2 h3 => glie_shape h1 h2 h3) f1
  obtain ⟨s2, z2, rfl, n2, r2⟩ := gopen_row Try.underlying23 Try.gcIns (by omega) (P := InsD.lie) (fun h1 h2 h3 => glie_ins h1 h2 h3) f2
  exact ⟨⟨a, s1, z1, s2, z2⟩, rfl, ⟨ha, n1, n2, r1, r2⟩⟩
end Go.Proofs.Ytmohffibkpecpaa
