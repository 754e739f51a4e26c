/- Texts of one chain, joined: Open, LOpen. -/
import Derived.Test.YtffbnggdckjogaaGreatG0
import Derived.Test.YtffbnggdckjogaaGreatG13
import Derived.Deep.Slices
import Derived.ProofKit
namespace Go.Proofs.YtffbnggdckjogaaGreat
open Go.RowKit
def IsRow (k : IntKind) (w : World) (a : Option Addr) (len cap : Nat) (zs : List Int) : Prop :=
  (a = none ∧ len = 0 ∧ cap = 0 ∧ zs = []) ∨
  ∃ x, a = some x ∧ len ≤ cap ∧ cap ≤ maxLen ∧ zs.length = cap ∧ (∀ i, i < zs.length → w.cell? (x.add i) = some (.int k (zs.getD i 0))) ∧ ∀ n ∈ zs, (Lit.int k n).wf = true
theorem IsRow.has {k : IntKind} {w : World} {a : Option Addr} {len cap : Nat} {zs : List Int} (h : IsRow k w a len cap zs) : Has k w a len (zs.take len) := by
  rcases h with ⟨rfl, rfl, rfl, rfl⟩ | ⟨x, rfl, hl, hm, hz, hcell, hwz⟩
  · exact ⟨rfl, by simp, .inl rfl⟩
  · refine ⟨by rw [List.length_take]; omega, fun n hn => hwz n (List.mem_of_mem_take hn), ?_⟩
    by_cases h0 : len = 0
    · subst h0; exact .inl (by simp)
    · obtain ⟨b, off, spot⟩ := x
      have hc := hcell 0 (by omega)
      have hspot : spot = none := by simpa [Addr.add] using World.cell?_spot hc
      subst hspot
      have hlt := World.block_lt_of_cell? w _ hc
      rw [Addr.add_lit] at hlt
      refine .inr ⟨b, off, rfl, hlt, fun i hi => ?_⟩
      have := hcell i (by omega)
      rw [Addr.add_lit] at this
      rw [this]
      simp only [List.getD_eq_getElem?_getD, List.getElem?_take, if_pos hi]
end Go.Proofs.YtffbnggdckjogaaGreat

namespace Go.Proofs.YtffbnggdckjogaaGreat
open Go.RowKit Go.ChangeShapes Go.WideShapes Go.ChangeAt Go.Deep
theorem Tryz.cellsStep : Tryz.prog.cellsOf 40 = 7 := by kernel_rfl
theorem Tryz.cellsEntry : Tryz.prog.cellsOf 38 = 6 := by kernel_rfl
theorem Tryz.cellsInt : Tryz.prog.cellsOf 3 = 1 := by kernel_rfl
theorem Tryz.cellsNums : Tryz.prog.cellsOf 24 = 1 := by kernel_rfl
variable {H : Type} {enc : TypeId × Value → H} {W : World} {base : Nat} {held : Bool}
theorem open_nums {fuel : Nat} {v : Value} {x : DataW H × List MemPlace} (h : DataW.trod enc Tryz.prog W base (fun _ => true) held fuel 24 [v] = some x) : ∃ a n c zs, v = .slice a n c ∧ (a = none → n = 0 ∧ c = 0) ∧ Has .u64 W a n zs := by
  rcases open_ints Tryz.underlying24 Tryz.underlying63 (by kernel_rfl) h with ⟨hcs, _⟩ | ⟨y, l, c, zs, hcs, _, hl, hm, hz, _, hcell, hwz⟩
  · have e : v = .slice none 0 0 := by simpa using hcs
    exact ⟨none, 0, 0, [], e, fun _ => ⟨rfl, rfl⟩, has_nil _ _⟩
  · have e : v = .slice (some y) l c := by simpa using hcs
    have hr : IsRow .u64 W (some y) l c zs := .inr ⟨_, rfl, hl, hm, by simpa using hz, hcell, hwz⟩
    exact ⟨some y, l, c, zs.take l, e, by simp, hr.has⟩
theorem open_num {fuel : Nat} {v : Value} {x : DataW H × List MemPlace} (h : DataW.trod enc Tryz.prog W base (fun _ => true) held fuel 3 [v] = some x) : ∃ n, v = .int .i64 n := by
  obtain ⟨n, hcs, _⟩ := DataW.trod_int Tryz.underlying3 h
  exact ⟨n, by simpa using hcs⟩
theorem seven {α : Type} {l : List α} (h : l.length = 7) : ∃ a b c d e f g, l = [a, b, c, d, e, f, g] := by
  match l, h with
  | [a, b, c, d, e, f, g], _ => exact ⟨a, b, c, d, e, f, g, rfl⟩
theorem open_step {fuel g o : Nat} {cs : List Value} {x : DataW H × List MemPlace} (hc : ∀ i, i < 7 → W.cell? ⟨g, o + i, none⟩ = cs[i]?) (h : DataW.trod enc Tryz.prog W base (fun _ => true) held fuel 40 cs = some x) : ∃ d : SD, d.at W g o ∧ d.ok W := by
  obtain ⟨y0, y1, n, _, hl, h0, h1⟩ := trod_struct2 Tryz.underlying40 h
  rw [Tryz.cellsStep] at hl
  obtain ⟨v0, v1, v2, v3, v4, v5, v6, rfl⟩ := seven hl
  simp only [Tryz.cellsInt, List.drop_zero, List.take_succ_cons, List.take_zero] at h0
  simp only [Tryz.cellsEntry, List.drop_succ_cons, List.drop_zero, List.take_succ_cons, List.take_zero] at h1
  obtain ⟨xs, m, _, _, _, hxl, hf⟩ := DataW.trod_struct Tryz.underlying38 h1
  have f0 := hf 0 _ rfl
  have f1 := hf 1 _ rfl
  have f2 := hf 2 _ rfl
  have f3 := hf 3 _ rfl
  have f4 := hf 4 _ rfl
  have f5 := hf 5 _ rfl
  have hxl6 : xs.length = 6 := hxl
  rw [List.getElem?_eq_getElem (by omega)] at f0 f1 f2 f3 f4 f5
  simp only [List.getElem_toArray, List.getElem_cons_zero, Tryz.cellsNums, List.drop_zero, List.take_succ_cons, List.take_zero] at f0
  simp only [List.getElem_toArray, List.getElem_cons_zero, List.getElem_cons_succ, Tryz.cellsNums, List.drop_succ_cons, List.drop_zero, List.take_succ_cons, List.take_zero] at f1
  simp only [List.getElem_toArray, List.getElem_cons_zero, List.getElem_cons_succ, Tryz.cellsInt, List.drop_succ_cons, List.drop_zero, List.take_succ_cons, List.take_zero] at f2
  simp only [List.getElem_toArray, List.getElem_cons_zero, List.getElem_cons_succ, Tryz.cellsInt, List.drop_succ_cons, List.drop_zero, List.take_succ_cons, List.take_zero] at f3
  simp only [List.getElem_toArray, List.getElem_cons_zero, List.getElem_cons_succ, Tryz.cellsInt, List.drop_succ_cons, List.drop_zero, List.take_succ_cons, List.take_zero] at f4
  simp only [List.getElem_toArray, List.getElem_cons_zero, List.getElem_cons_succ, Tryz.cellsNums, List.drop_succ_cons, List.drop_zero, List.take_succ_cons, List.take_zero] at f5
  obtain ⟨dd, rfl⟩ := open_num h0
  obtain ⟨ka, kn, kc, ks, rfl, k1, k2⟩ := open_nums f0
  obtain ⟨ma, mn, mc, ms, rfl, k3, k4⟩ := open_nums f1
  obtain ⟨ln, rfl⟩ := open_num f2
  obtain ⟨pr, rfl⟩ := open_num f3
  obtain ⟨ac, rfl⟩ := open_num f4
  obtain ⟨aa, an, ac', zs, rfl, k5, k6⟩ := open_nums f5
  exact ⟨⟨dd, ka, kn, kc, ks, ma, mn, mc, ms, ln, pr, ac, aa, an, ac', zs⟩, ⟨hc 0 (by omega), hc 1 (by omega), hc 2 (by omega), hc 3 (by omega), hc 4 (by omega), hc 5 (by omega), hc 6 (by omega)⟩, k1, k2, k3, k4, k5, k6⟩
set_option maxRecDepth 20000 in
theorem open_steps {fuel n c : Nat} {a : Option Addr} {x : DataW H × List MemPlace} (h : DataW.trod enc Tryz.prog W base (fun _ => true) held fuel 28 [.slice a n c] = some x) : ∃ S, Steps W a n S := by
  rcases open_slice Tryz.underlying28 h with ⟨hcs, _⟩ | ⟨y, l, cap, m, k, D, Pl, hcs, _, hl, _, hm, _, hel⟩
  · simp only [List.cons.injEq, Value.slice.injEq, and_true] at hcs
    obtain ⟨rfl, rfl, rfl⟩ := hcs
    exact ⟨[], rfl, by simp⟩
  · simp only [List.cons.injEq, Value.slice.injEq, and_true] at hcs
    obtain ⟨rfl, rfl, rfl⟩ := hcs
    simp only [if_true] at hm
    have key : ∀ i, i < n → ∃ d : SD, ∃ g off, y = ⟨g, off, none⟩ ∧ d.at W g (off + i * 7) ∧ d.ok W := by
      intro i hi
      obtain ⟨cs', hcells, htr⟩ := hel i (by omega)
      rw [Tryz.cellsStep] at hcells
      obtain ⟨_, hlen, hget⟩ := World.cells?_some hcells
      obtain ⟨cs0, hcells0, _⟩ := hel 0 (by omega)
      rw [Tryz.cellsStep] at hcells0
      obtain ⟨_, hlen0, hget0⟩ := World.cells?_some hcells0
      obtain ⟨g, off, spot⟩ := y
      have h0 := hget0 0 (by omega)
      rw [List.getElem?_eq_getElem (by omega)] at h0
      have hspot : spot = none := by simpa [Addr.add] using World.cell?_spot h0
      subst hspot
      obtain ⟨d, h1, h2⟩ := open_step (g := g) (o := off + i * 7) (fun j hj => by
        have := hget j (by omega)
        rw [Addr.add_lit, Addr.add_lit] at this
        exact this) htr
      exact ⟨d, g, off, rfl, h1, h2⟩
    have : ∃ S : List SD, S.length = n ∧ ∀ (i : Nat) (d : SD), S[i]? = some d → ∃ g off, y = ⟨g, off, none⟩ ∧ d.at W g (off + i * 7) ∧ d.ok W := by
      haveI : Inhabited SD := ⟨⟨0, none, 0, 0, [], none, 0, 0, [], 0, 0, 0, none, 0, 0, []⟩⟩
      obtain ⟨f, hf⟩ := choose_lt key
      refine ⟨(List.range n).map f, by simp, fun i d hd => ?_⟩
      simp only [List.getElem?_map, Option.map_eq_some_iff] at hd
      obtain ⟨j, hj, rfl⟩ := hd
      have hi : i < n := by
        have := (List.getElem?_eq_some_iff.1 hj).1
        simpa using this
      rw [List.getElem?_range hi] at hj
      have e : i = j := by simpa using hj
      subst e
      exact hf i hi
    obtain ⟨S, h1, h2⟩ := this
    refine ⟨S, h1, fun i d hd => ?_⟩
    obtain ⟨g, off, e, r⟩ := h2 i d hd
    exact ⟨g, off, by rw [e], r⟩
end Go.Proofs.YtffbnggdckjogaaGreat
