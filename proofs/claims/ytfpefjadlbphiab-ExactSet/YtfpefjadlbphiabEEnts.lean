/- Lists of entries, as they lie. -/
import Derived.Test.YtfpefjadlbphiabEFind
import Derived.Deep.RegionLaw
namespace Go.Proofs.Ytfpefjadlbphiab
open Go.RowKit Go.Maps

/-- where the lists of an entry lie -/
structure ED where
  ka : Option Addr
  kn : Nat
  kc : Nat
  act : Int
  a : Option Addr
  n : Nat
  c : Nat

def ED.cells (d : ED) : List Value := [.slice d.ka d.kn d.kc, .slice none 0 0, .int .i64 0, .int .i64 0, .int .i64 d.act, .slice d.a d.n d.c]

abbrev Ent : Type := List Int × Int × List Int

/-- an entry, as it lies -/
def ED.good (d : ED) (w : World) (e : Ent) : Prop :=
  (d.ka = none → d.kn = 0 ∧ d.kc = 0) ∧ d.kn ≤ 1000 ∧ Has .u64 w d.ka d.kn e.1 ∧ d.act = e.2.1 ∧ (d.a = none → d.n = 0 ∧ d.c = 0) ∧ d.n ≤ 1000 ∧ Has .u64 w d.a d.n e.2.2

theorem ED.good.grew {d : ED} {w w' : World} {e : Ent} {row : Option Nat} (h : d.good w e) (g : Grew w w' row) : d.good w' e :=
  ⟨h.1, h.2.1, g.has h.2.2.1, h.2.2.2.1, h.2.2.2.2.1, h.2.2.2.2.2.1, g.has h.2.2.2.2.2.2⟩

def ED.new (d : ED) (B : Nat) : Prop := From B d.ka d.kn ∧ From B d.a d.n

theorem ED.good.off {d : ED} {w w' : World} {e : Ent} {g B : Nat} (h : d.good w e) (f : d.new B) (hg : g < B) (hr : w.grownBy w' (some g)) : d.good w' e :=
  ⟨h.1, h.2.1, h.2.2.1.off f.1 hg hr, h.2.2.2.1, h.2.2.2.2.1, h.2.2.2.2.2.1, h.2.2.2.2.2.2.off f.2 hg hr⟩

abbrev NoEntry : Value := .agg #[.slice none 0 0, .slice none 0 0, .int .i64 0, .int .i64 0, .int .i64 0, .slice none 0 0]

theorem Try.infoEntry : (Try.prog.info? 53).map (fun i => (i.zero, i.size, i.bytes)) = some (some NoEntry, 6, 96) := by kernel_rfl

theorem flat_length (ds : List ED) : (ds.flatMap ED.cells).length = 6 * ds.length := by
  induction ds with
  | nil => rfl
  | cons d ds ih => simp only [List.flatMap_cons, List.length_append, ih, List.length_cons, ED.cells, List.length_nil]; omega

theorem flat_at (ds : List ED) (i j : Nat) (hi : i < ds.length) (hj : j < 6) : (ds.flatMap ED.cells)[6 * i + j]? = (ds[i]).cells[j]? := by
  induction ds generalizing i with
  | nil => simp at hi
  | cons d ds ih =>
    cases i with
    | zero =>
      simp only [List.flatMap_cons, Nat.mul_zero, Nat.zero_add, List.getElem_cons_zero]
      rw [List.getElem?_append_left (by simp [ED.cells]; omega)]
    | succ i =>
      simp only [List.flatMap_cons, List.getElem_cons_succ]
      rw [List.getElem?_append_right (by simp [ED.cells]; omega)]
      have : 6 * (i + 1) + j - (ED.cells d).length = 6 * i + j := by simp [ED.cells]; omega
      rw [this]
      exact ih i (by simpa using hi)

/-- a list of entries, as it lies -/
def Ents (w : World) (v : Value) (E : List Ent) : Prop :=
  ∃ g cap, ∃ ds : List ED, v = .slice (some ⟨g, 0, none⟩) E.length cap ∧ g < w.heap.size ∧ ds.length = E.length ∧
    (∀ (i : Nat) (d : ED), ds[i]? = some d → w.cell? ⟨g, 6 * i, none⟩ = some (.slice d.ka d.kn d.kc) ∧ w.cell? ⟨g, 6 * i + 1, none⟩ = some (.slice none 0 0) ∧ w.cell? ⟨g, 6 * i + 2, none⟩ = some (.int .i64 0) ∧ w.cell? ⟨g, 6 * i + 3, none⟩ = some (.int .i64 0) ∧ w.cell? ⟨g, 6 * i + 4, none⟩ = some (.int .i64 d.act) ∧ w.cell? ⟨g, 6 * i + 5, none⟩ = some (.slice d.a d.n d.c)) ∧
    ∀ (i : Nat) (d : ED) (e : Ent), ds[i]? = some d → E[i]? = some e → d.good w e

theorem Ents.grew {w w' : World} {v : Value} {E : List Ent} {row : Option Nat} (h : Ents w v E) (g : Grew w w' row) : Ents w' v E := by
  obtain ⟨b, cap, ds, hv, hb, hl, hc, hg⟩ := h
  refine ⟨b, cap, ds, hv, Nat.lt_of_lt_of_le hb g.1.size, hl, fun i d hd => ?_, fun i d e hd he => (hg i d e hd he).grew g⟩
  obtain ⟨c0, c1, c2, c3, c4, c5⟩ := hc i d hd
  exact ⟨g.cell c0, g.cell c1, g.cell c2, g.cell c3, g.cell c4, g.cell c5⟩

/-- out of a row of one's own -/
theorem ents_of_owns {w : World} {base g cap : Nat} {ds : List ED} {E : List Ent} (h : w.ownsRow base 53 6 (.slice (some ⟨g, 0, none⟩) E.length cap) E.length (ds.flatMap ED.cells)) (hl : ds.length = E.length) (hg : ∀ (i : Nat) (d : ED) (e : Ent), ds[i]? = some d → E[i]? = some e → d.good w e) :
    Ents w (.slice (some ⟨g, 0, none⟩) E.length cap) E := by
  refine ⟨g, cap, ds, rfl, (h.lt g rfl).2, hl, fun i d hd => ?_, hg⟩
  have hi : i < ds.length := (List.getElem?_eq_some_iff.1 hd).1
  have hd' : ds[i] = d := (List.getElem?_eq_some_iff.1 hd).2
  have key : ∀ j, j < 6 → w.cell? ⟨g, 6 * i + j, none⟩ = d.cells[j]? := by
    intro j hj
    rw [h.cellAt (6 * i + j) (by omega), ← hd']
    exact flat_at ds i j hi hj
  exact ⟨key 0 (by omega), key 1 (by omega), key 2 (by omega), key 3 (by omega), key 4 (by omega), key 5 (by omega)⟩

/-- one append of a region: an entry behind a row of the call's own, where there is room -/
theorem stepE {ops : Array Oper} {o : Oper} {a : Act} {w : World} {K : Act → World → Prop} {Q : Exit → Act → World → Prop} {F : Prop} (hgd : o.guard = none) (s x : Operand)
    (ho : o.op = .call { callee := .builtin .append, args := #[s, x], argTypes := #[61, 61] }) (base g n cap : Nat) (xs news : List Value) (ad : Addr) (c : Nat)
    (hs : a.eval s = .slice (some ⟨g, 0, none⟩) n cap) (hx : a.eval x = .slice (some ad) 1 c) (hown : w.ownsRow base 53 6 (.slice (some ⟨g, 0, none⟩) n cap) n xs) (hl : news.length = 1 * 6) (hn : ∀ j u, news[j]? = some u → w.cell? (ad.add j) = some u) (h1 : ∀ u ∈ news, u.oneCell' = true)
    (hroom : n + 1 ≤ cap) (h : ∀ w', w'.ownsRow base 53 6 (.slice (some ⟨g, 0, none⟩) (n + 1) cap) (n + 1) (xs ++ news) → w.grownBy w' (some g) → K (a.put o.dst (.slice (some ⟨g, 0, none⟩) (n + 1) cap)) w') :
    if Region.wanted o (yielded ops a.tmps) = true then Oper.wp Try.prog o a w K Q else F := by
  have hw : Region.wanted o (yielded ops a.tmps) = true := by simp [Region.wanted, hgd]
  rw [if_pos hw]
  obtain ⟨i0, hi, hz0, hz1, hz2⟩ := info_parts Try.infoEntry
  obtain ⟨w', hrun, r1, r2⟩ := run_append_fits (P := Try.prog) w base 61 o.type 53 i0 6 Try.underlying61 hi hz1 g n cap xs hown ad 1 c news hl hn h1 hroom
  unfold Oper.wp execOp
  simp only [ho, resolve, invoke, builtin, Sem.run_bind, Sem.run_pure, Result.andThen_ok, List.map_toArray, List.map_cons, List.map_nil, hs, hx, hrun]
  exact h w' r1 r2

theorem six_cells (w : World) (d : ED) (t : TypeId) : ∀ (j : Nat) (u : Value), d.cells[j]? = some u → (w.alloc (.cells #[.slice d.ka d.kn d.kc, .slice none 0 0, .int .i64 0, .int .i64 0, .int .i64 d.act, .slice d.a d.n d.c] t)).cell? ((⟨w.heap.size, 0, none⟩ : Addr).add j) = some u := by
  intro j u hj
  have hj6 : j < 6 := (List.getElem?_eq_some_iff.1 hj).1
  match j, hj6, hj with
  | 0, _, hj => simp [ED.cells] at hj; subst hj; simp [Addr.add]
  | 1, _, hj => simp [ED.cells] at hj; subst hj; simp [Addr.add]
  | 2, _, hj => simp [ED.cells] at hj; subst hj; simp [Addr.add]
  | 3, _, hj => simp [ED.cells] at hj; subst hj; simp [Addr.add]
  | 4, _, hj => simp [ED.cells] at hj; subst hj; simp [Addr.add]
  | 5, _, hj => simp [ED.cells] at hj; subst hj; simp [Addr.add]

theorem six_one (d : ED) : ∀ u ∈ d.cells, u.oneCell' = true := by
  intro u hu
  simp only [ED.cells, List.mem_cons, List.not_mem_nil, or_false] at hu
  rcases hu with rfl | rfl | rfl | rfl | rfl | rfl <;> rfl
end Go.Proofs.Ytfpefjadlbphiab
