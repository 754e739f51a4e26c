/- Lists of entries, as they lie. -/
import Derived.Test.YtlnkfgdepddmlacTSmall
namespace Go.Proofs.Ytlnkfgdepddmlac
open Go.RowKit Mth

/-- where the lists of an entry lie -/
structure ED where
  ka : Option Addr
  kn : Nat
  kc : Nat
  ln : Int
  act : Int
  a : Option Addr
  n : Nat
  c : Nat

def ED.cells (d : ED) : List Value := [.slice d.ka d.kn d.kc, .slice none 0 0, .int .i64 d.ln, .int .i64 0, .int .i64 d.act, .slice d.a d.n d.c]

/-- its keys, its length, what it says -/
structure Ent where
  ks : List Int
  ln : Int
  ac : Int
  xs : List Int

/-- an entry, as it lies -/
def ED.good (d : ED) (w : World) (e : Ent) : Prop :=
  (d.ka = none → d.kn = 0 ∧ d.kc = 0) ∧ d.kn ≤ 1000 ∧ Has .u64 w d.ka d.kn e.ks ∧ d.ln = e.ln ∧ d.act = e.ac ∧ (d.a = none → d.n = 0 ∧ d.c = 0) ∧ d.n ≤ 1000 ∧ Has .u64 w d.a d.n e.xs

theorem ED.good.moved {d : ED} {w w' : World} {e : Ent} (h : d.good w e) (g : Moved w w') : d.good w' e :=
  ⟨h.1, h.2.1, g.has h.2.2.1, h.2.2.2.1, h.2.2.2.2.1, h.2.2.2.2.2.1, h.2.2.2.2.2.2.1, g.has h.2.2.2.2.2.2.2⟩

def ED.new (d : ED) (B : Nat) : Prop := From B d.ka d.kn ∧ From B d.a d.n

theorem ED.good.off {d : ED} {w w' : World} {e : Ent} {g B : Nat} (h : d.good w e) (f : d.new B) (hg : g < B) (hr : w.grownBy w' (some g)) : d.good w' e :=
  ⟨h.1, h.2.1, h.2.2.1.off f.1 hg hr, h.2.2.2.1, h.2.2.2.2.1, h.2.2.2.2.2.1, h.2.2.2.2.2.2.1, h.2.2.2.2.2.2.2.off f.2 hg hr⟩

abbrev NoEntry : Value := .agg #[.slice none 0 0, .slice none 0 0, .int .i64 0, .int .i64 0, .int .i64 0, .slice none 0 0]

theorem Try.infoEntry : (Try.prog.info? 33).map (fun i => (i.zero, i.size, i.bytes)) = some (some NoEntry, 6, 96) := by kernel_rfl

theorem flat_length (ds : List ED) : (ds.flatMap ED.cells).length = 6 * ds.length := by
  induction ds with
  | nil => rfl
  | cons d ds ih => simp only [List.flatMap_cons, List.length_append, ih, List.length_cons, ED.cells, List.length_nil]; omega

theorem flat_at (ds : List ED) (i j : Nat) (hi : i < ds.length) (hj : j < 6) : (ds.flatMap ED.cells)[6 * i + j]? = (ds[i]).cells[j]? := by
  induction ds generalizing i with
  | nil => simp at hi
  | cons d ds ih =>
    cases i with
    | zero =>
      simp only [List.flatMap_cons, Nat.mul_zero, Nat.zero_add, List.getElem_cons_zero]
      rw [List.getElem?_append_left (by simp [ED.cells]; omega)]
    | succ i =>
      simp only [List.flatMap_cons, List.getElem_cons_succ]
      rw [List.getElem?_append_right (by simp [ED.cells]; omega)]
      have : 6 * (i + 1) + j - (ED.cells d).length = 6 * i + j := by simp [ED.cells]; omega
      rw [this]
      exact ih i (by simpa using hi)

/-- its cells -/
def ED.at (d : ED) (w : World) (g o : Nat) : Prop :=
  w.cell? ⟨g, o, none⟩ = some (.slice d.ka d.kn d.kc) ∧ w.cell? ⟨g, o + 1, none⟩ = some (.slice none 0 0) ∧ w.cell? ⟨g, o + 2, none⟩ = some (.int .i64 d.ln) ∧ w.cell? ⟨g, o + 3, none⟩ = some (.int .i64 0) ∧ w.cell? ⟨g, o + 4, none⟩ = some (.int .i64 d.act) ∧ w.cell? ⟨g, o + 5, none⟩ = some (.slice d.a d.n d.c)

theorem ED.at.moved {d : ED} {w w' : World} {g o : Nat} (h : d.at w g o) (m : Moved w w') : d.at w' g o := by
  obtain ⟨h0, h1, h2, h3, h4, h5⟩ := h
  have t := tight_slice d.ka d.kn d.kc
  exact ⟨m.cell h0 h0 t, m.cell h1 h0 t, m.cell h2 h0 t, m.cell h3 h0 t, m.cell h4 h0 t, m.cell h5 h0 t⟩

/-- a list of entries, as it lies -/
def Ents (w : World) (a : Option Addr) (n : Nat) (E : List Ent) : Prop :=
  E.length = n ∧ ∀ (i : Nat) (e : Ent), E[i]? = some e → ∃ g, ∃ d : ED, a = some ⟨g, 0, none⟩ ∧ d.at w g (i * 6) ∧ d.good w e

theorem Ents.moved {w w' : World} {a : Option Addr} {n : Nat} {E : List Ent} (h : Ents w a n E) (m : Moved w w') : Ents w' a n E := by
  refine ⟨h.1, fun i e he => ?_⟩
  obtain ⟨g, d, ea, hat, hg⟩ := h.2 i e he
  exact ⟨g, d, ea, hat.moved m, hg.moved m⟩

/-- one append of a region: an entry behind a row of the call's own, where there is room -/
theorem stepE {ops : Array Oper} {o : Oper} {a : Act} {w : World} {K : Act → World → Prop} {Q : Exit → Act → World → Prop} {F : Prop} (hgd : o.guard = none) (s x : Operand)
    (ho : o.op = .call { callee := .builtin .append, args := #[s, x], argTypes := #[28, 28] }) (base g n cap : Nat) (xs news : List Value) (ad : Addr) (c : Nat)
    (hs : a.eval s = .slice (some ⟨g, 0, none⟩) n cap) (hx : a.eval x = .slice (some ad) 1 c) (hown : w.ownsRow base 33 6 (.slice (some ⟨g, 0, none⟩) n cap) n xs) (hl : news.length = 1 * 6) (hn : ∀ j u, news[j]? = some u → w.cell? (ad.add j) = some u) (h1 : ∀ u ∈ news, u.oneCell' = true)
    (hroom : n + 1 ≤ cap) (h : ∀ w', w'.ownsRow base 33 6 (.slice (some ⟨g, 0, none⟩) (n + 1) cap) (n + 1) (xs ++ news) → w.grownBy w' (some g) → K (a.put o.dst (.slice (some ⟨g, 0, none⟩) (n + 1) cap)) w') :
    if Region.wanted o (yielded ops a.tmps) = true then Oper.wp Try.prog o a w K Q else F := by
  have hw : Region.wanted o (yielded ops a.tmps) = true := by simp [Region.wanted, hgd]
  rw [if_pos hw]
  obtain ⟨i0, hi, hz0, hz1, hz2⟩ := info_parts Try.infoEntry
  obtain ⟨w', hrun, r1, r2⟩ := run_append_fits (P := Try.prog) w base 28 o.type 33 i0 6 Try.underlying28 hi hz1 g n cap xs hown ad 1 c news hl hn h1 hroom
  unfold Oper.wp execOp
  simp only [ho, resolve, invoke, builtin, Sem.run_bind, Sem.run_pure, Result.andThen_ok, List.map_toArray, List.map_cons, List.map_nil, hs, hx, hrun]
  exact h w' r1 r2

theorem six_cells (w : World) (d : ED) (t : TypeId) : ∀ (j : Nat) (u : Value), d.cells[j]? = some u → (w.alloc (.cells #[.slice d.ka d.kn d.kc, .slice none 0 0, .int .i64 d.ln, .int .i64 0, .int .i64 d.act, .slice d.a d.n d.c] t)).cell? ((⟨w.heap.size, 0, none⟩ : Addr).add j) = some u := by
  intro j u hj
  have hj6 : j < 6 := (List.getElem?_eq_some_iff.1 hj).1
  match j, hj6, hj with
  | 0, _, hj => simp [ED.cells] at hj; subst hj; simp [Addr.add]
  | 1, _, hj => simp [ED.cells] at hj; subst hj; simp [Addr.add]
  | 2, _, hj => simp [ED.cells] at hj; subst hj; simp [Addr.add]
  | 3, _, hj => simp [ED.cells] at hj; subst hj; simp [Addr.add]
  | 4, _, hj => simp [ED.cells] at hj; subst hj; simp [Addr.add]
  | 5, _, hj => simp [ED.cells] at hj; subst hj; simp [Addr.add]

theorem six_one (d : ED) : ∀ u ∈ d.cells, u.oneCell' = true := by
  intro u hu
  simp only [ED.cells, List.mem_cons, List.not_mem_nil, or_false] at hu
  rcases hu with rfl | rfl | rfl | rfl | rfl | rfl <;> rfl

/-- a list that is being made: a row of one's own in block g, the lists of its entries behind it -/
def Out (w : World) (base g cap : Nat) (E : List Ent) : Prop :=
  ∃ ds : List ED, ds.length = E.length ∧ w.ownsRow base 33 6 (.slice (some ⟨g, 0, none⟩) E.length cap) E.length (ds.flatMap ED.cells) ∧ ∀ (i : Nat) (d : ED) (e : Ent), ds[i]? = some d → E[i]? = some e → d.good w e ∧ d.new (g + 1)

theorem Out.step {w w' : World} {base g cap : Nat} {E : List Ent} (h : Out w base g cap E) (hb : Below w.heap.size w w') : Out w' base g cap E := by
  obtain ⟨ds, hl, ho, hg⟩ := h
  exact ⟨ds, hl, owns_below ho hb, fun i d e hd he => ⟨(hg i d e hd he).1.moved (moved_below hb), (hg i d e hd he).2⟩⟩

theorem Out.push {w w5 w6 : World} {base g cap : Nat} {E : List Ent} {ds : List ED} {d : ED} {e : Ent} (hl : ds.length = E.length) (hg : ∀ (i : Nat) (d : ED) (e : Ent), ds[i]? = some d → E[i]? = some e → d.good w e ∧ d.new (g + 1)) (hB : Below w.heap.size w w5)
    (ho : w6.ownsRow base 33 6 (.slice (some ⟨g, 0, none⟩) (E.length + 1) cap) (E.length + 1) (ds.flatMap ED.cells ++ d.cells)) (hgr : w5.grownBy w6 (some g)) (hd : d.good w5 e) (hn : d.new (g + 1)) : Out w6 base g cap (E ++ [e]) := by
  have e1 : (E ++ [e]).length = E.length + 1 := by simp
  refine ⟨ds ++ [d], by simp [hl], by rw [e1]; simpa using ho, fun i d' e' hd' he' => ?_⟩
  by_cases hi : i < ds.length
  · rw [List.getElem?_append_left hi] at hd'
    rw [List.getElem?_append_left (by omega)] at he'
    obtain ⟨g1, g2⟩ := hg i d' e' hd' he'
    exact ⟨(g1.moved (moved_below hB)).off g2 (Nat.lt_succ_self _) hgr, g2⟩
  · rw [List.getElem?_append_right (Nat.le_of_not_lt hi)] at hd'
    rw [List.getElem?_append_right (by omega)] at he'
    have hi2 : i - ds.length = 0 := by
      have := (List.getElem?_eq_some_iff.1 hd').1
      simp at this
      omega
    rw [hi2] at hd'
    rw [← hl, hi2] at he'
    have ed : d = d' := by simpa using hd'
    have ee : e = e' := by simpa using he'
    subst ed; subst ee
    exact ⟨hd.off hn (Nat.lt_succ_self _) hgr, hn⟩

/-- and as it lies when it is done -/
theorem Out.ents {w : World} {base g cap : Nat} {E : List Ent} (h : Out w base g cap E) : Ents w (some ⟨g, 0, none⟩) E.length E := by
  obtain ⟨ds, hl, ho, hg⟩ := h
  refine ⟨rfl, fun i e he => ?_⟩
  have hi : i < E.length := (List.getElem?_eq_some_iff.1 he).1
  have hd : ds[i]? = some (ds[i]'(by omega)) := List.getElem?_eq_getElem _
  refine ⟨g, ds[i]'(by omega), rfl, ?_, (hg i _ e hd he).1⟩
  have key : ∀ j, j < 6 → w.cell? ⟨g, i * 6 + j, none⟩ = (ds[i]'(by omega)).cells[j]? := by
    intro j hj
    rw [ho.cellAt (i * 6 + j) (by omega), Nat.mul_comm i 6]
    exact flat_at ds i j (by omega) hj
  exact ⟨key 0 (by omega), key 1 (by omega), key 2 (by omega), key 3 (by omega), key 4 (by omega), key 5 (by omega)⟩
end Go.Proofs.Ytlnkfgdepddmlac
