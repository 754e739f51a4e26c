/- The document's own table by beginnings, as it lies; what stays while it is turned. -/
import Derived.Test.YtlnkfgdepddmlacRSmall
import Derived.Test.YtlnkfgdepddmlacTAll
namespace Go.Proofs.Ytlnkfgdepddmlac
open Go.RowKit Mth

/-- a list of entries of one's own: nil, if there are none -/
def Row (w : World) (B : Nat) (la : Option Addr) (n cap : Nat) (E : List Ent) : Prop :=
  ∃ ds : List ED, ds.length = n ∧ E.length = n ∧ w.ownsRow B 33 6 (.slice la n cap) n (ds.flatMap ED.cells) ∧ (n = 0 → la = none) ∧ ∀ (i : Nat) (d : ED) (e : Ent), ds[i]? = some d → E[i]? = some e → d.good w e ∧ d.new 0

theorem Row.some {w : World} {B : Nat} {la : Option Addr} {n cap : Nat} {E : List Ent} (h : Row w B la n cap E) (h0 : 0 < n) : ∃ g, la = some ⟨g, 0, none⟩ ∧ B ≤ g ∧ g < w.heap.size := by
  obtain ⟨ds, _, _, ho, _⟩ := h
  rcases ho.2 with ⟨_, e⟩ | ⟨g, cap', cur, e, hb, hh, _⟩
  · omega
  · simp only [Value.slice.injEq] at e
    exact ⟨g, e.1, hb, (Array.getElem?_eq_some_iff.1 hh).1⟩

/-- its cells -/
theorem Row.at {w : World} {B : Nat} {la : Option Addr} {n cap : Nat} {E : List Ent} (h : Row w B la n cap E) (i : Nat) (hi : i < n) : ∃ g, ∃ d : ED, ∃ e : Ent, la = .some ⟨g, 0, none⟩ ∧ E[i]? = .some e ∧ d.at w g (i * 6) ∧ d.good w e ∧ d.new 0 := by
  obtain ⟨g, e0, _, _⟩ := h.some (by omega)
  obtain ⟨ds, hl, hE, ho, _, hg⟩ := h
  subst e0
  have hd : ds[i]? = .some (ds[i]'(by omega)) := List.getElem?_eq_getElem _
  have he : E[i]? = .some (E[i]'(by omega)) := List.getElem?_eq_getElem _
  refine ⟨g, ds[i]'(by omega), E[i]'(by omega), rfl, he, ?_, hg i _ _ hd he⟩
  have key : ∀ j, j < 6 → w.cell? ⟨g, i * 6 + j, none⟩ = (ds[i]'(by omega)).cells[j]? := by
    intro j hj
    rw [ho.cellAt (i * 6 + j) (by omega), Nat.mul_comm i 6]
    exact flat_at ds i j (by omega) hj
  exact ⟨key 0 (by omega), key 1 (by omega), key 2 (by omega), key 3 (by omega), key 4 (by omega), key 5 (by omega)⟩

theorem Row.ents {w : World} {B : Nat} {la : Option Addr} {n cap : Nat} {E : List Ent} (h : Row w B la n cap E) : Ents w la n E := by
  have hE : E.length = n := by obtain ⟨ds, _, hE, _⟩ := h; exact hE
  refine ⟨hE, fun i e he => ?_⟩
  have hi : i < n := by rw [← hE]; exact (List.getElem?_eq_some_iff.1 he).1
  obtain ⟨g, d, e', ea, he', hat, hg, _⟩ := h.at i hi
  rw [he] at he'
  cases he'
  exact ⟨g, d, ea, hat, hg⟩

theorem Row.keep {w w' : World} {B : Nat} {la : Option Addr} {n cap : Nat} {E : List Ent} (h : Row w B la n cap E) (hb : ∀ g, la = .some ⟨g, 0, none⟩ → 0 < n → w'.heap[g]? = w.heap[g]?) (hh : ∀ (a : Option Addr) (m : Nat) (zs : List Int), From 0 a m → Has .u64 w a m zs → Has .u64 w' a m zs) : Row w' B la n cap E := by
  obtain ⟨ds, hl, hE, ho, h0, hg⟩ := h
  refine ⟨ds, hl, hE, ⟨ho.1, ?_⟩, h0, fun i d e hd he => ?_⟩
  · rcases ho.2 with h2 | ⟨g, cap', cur, hv, hbg, hh', r⟩
    · exact .inl h2
    · refine .inr ⟨g, cap', cur, hv, hbg, ?_, r⟩
      simp only [Value.slice.injEq] at hv
      by_cases hn : 0 < n
      · rw [hb g hv.1 hn]; exact hh'
      · rw [h0 (by omega)] at hv; cases hv.1
  · obtain ⟨⟨g1, g2, g3, g4, g5, g6, g7, g8⟩, f1, f2⟩ := hg i d e hd he
    exact ⟨⟨g1, g2, hh _ _ _ f1 g3, g4, g5, g6, g7, hh _ _ _ f2 g8⟩, f1, f2⟩

/-- the first cell of a list that is not empty -/
theorem Row.head {w : World} {B : Nat} {g n cap : Nat} {E : List Ent} (h : Row w B (Option.some ⟨g, 0, none⟩) n cap E) (h0 : 0 < n) : ∃ ka kn kc, w.cell? ⟨g, 0, none⟩ = .some (.slice ka kn kc) := by
  obtain ⟨g', d, e, ea, _, hat, _⟩ := h.at 0 h0
  simp only [Option.some.injEq, Addr.mk.injEq, and_true] at ea
  subst ea
  exact ⟨d.ka, d.kn, d.kc, by simpa using hat.1⟩

/-- the table: all its blocks lie from B on and ahead of S -/
structure Rws (w : World) (B S r : Nat) (wd most : Int) (C : Told2) (es : List (Nat × Nat)) : Prop where
  hd : RHead w r wd most
  f4 : w.frozen? ⟨r, 4, none⟩ = false
  base : B ≤ r
  top : r < S
  lst : ∃ la cap, w.cell? ⟨r, 4, none⟩ = some (.slice la es.length cap) ∧ Row w B la es.length cap (es.map (entOf C (wid wd))) ∧ ∀ g, la = some ⟨g, 0, none⟩ → g < S

theorem Rws.keep {w w' : World} {B S r : Nat} {wd most : Int} {C : Told2} {es : List (Nat × Nat)} (h : Rws w B S r wd most C es) (hr : w'.heap[r]? = w.heap[r]?) (hb : ∀ g ka kn kc, w.cell? ⟨g, 0, none⟩ = some (.slice ka kn kc) → w'.heap[g]? = w.heap[g]?) (hh : ∀ (a : Option Addr) (m : Nat) (zs : List Int), From 0 a m → Has .u64 w a m zs → Has .u64 w' a m zs) : Rws w' B S r wd most C es := by
  have cs : ∀ i, w'.cell? ⟨r, i, none⟩ = w.cell? ⟨r, i, none⟩ := fun i => World.cell?_of_block (w := w) (w' := w') (a := ⟨r, i, none⟩) hr
  obtain ⟨la, cap, h4, hl, hS⟩ := h.lst
  refine ⟨⟨(cs 0).trans h.hd.c0, (cs 1).trans h.hd.c1, (cs 2).trans h.hd.c2, (cs 3).trans h.hd.c3⟩, (World.frozen?_of_block (w := w) (w' := w') (a := ⟨r, 4, none⟩) hr).trans h.f4, h.base, h.top, la, cap, (cs 4).trans h4, hl.keep (fun g e h0 => ?_) hh, hS⟩
  subst e
  obtain ⟨ka, kn, kc, hc⟩ := hl.head h0
  exact hb g ka kn kc hc

theorem Rws.moved {w w' : World} {B S r : Nat} {wd most : Int} {C : Told2} {es : List (Nat × Nat)} (h : Rws w B S r wd most C es) (m : Moved w w') : Rws w' B S r wd most C es := by
  have key : ∀ k o a n c, w.cell? ⟨k, o, none⟩ = some (.slice a n c) → w'.heap[k]? = w.heap[k]? := by
    intro k o a n c hc
    rcases m.block k (World.block_lt_of_cell? w _ hc) with e | e
    · exact e
    · exact absurd (e.1 o _ hc) (tight_slice _ _ _)
  obtain ⟨la, cap, h4, _⟩ := h.lst
  exact h.keep (key r 4 _ _ _ h4) (fun g ka kn kc hc => key g 0 _ _ _ hc) (fun a n zs _ hz => m.has hz)

theorem Rws.step {w w' : World} {B S r : Nat} {wd most : Int} {C : Told2} {es : List (Nat × Nat)} (h : Rws w B S r wd most C es) (hb : Below w.heap.size w w') : Rws w' B S r wd most C es := h.moved (moved_below hb)

theorem Rws.up {w : World} {B S r : Nat} {wd most : Int} {C : Told2} {es : List (Nat × Nat)} (h : Rws w B S r wd most C es) : Rws w B w.heap.size r wd most C es := by
  obtain ⟨la, cap, h4, hl, hS⟩ := h.lst
  refine ⟨h.hd, h.f4, h.base, World.block_lt_of_cell? w _ h4, la, cap, h4, hl, fun g e => ?_⟩
  by_cases h0 : 0 < es.length
  · obtain ⟨g', e', _, hlt⟩ := hl.some h0
    rw [e] at e'
    simp only [Option.some.injEq, Addr.mk.injEq, and_true] at e'
    rw [e']; exact hlt
  · obtain ⟨ds, _, _, _, hn, _⟩ := hl
    rw [hn (by omega)] at e; cases e

/-- a block of such a table -/
def Away (w : World) (k : Nat) : Prop := (∃ a n c, w.cell? ⟨k, 0, none⟩ = some (.slice a n c)) ∨ ((∃ x, w.cell? ⟨k, 0, none⟩ = some (.int .i64 x)) ∧ (∃ x, w.cell? ⟨k, 1, none⟩ = some (.int .i64 x)) ∧ ∃ a n c, w.cell? ⟨k, 4, none⟩ = some (.slice a n c))

/-- nothing old is another one but blocks of such tables -/
structure Turned (w w' : World) : Prop where
  size : w.heap.size ≤ w'.heap.size
  block : ∀ k, k < w.heap.size → w'.heap[k]? = w.heap[k]? ∨ Away w k

theorem turned_below {w w' : World} (h : Below w.heap.size w w') : Turned w w' := ⟨h.size, fun k hk => .inl (h.block k hk)⟩

theorem Turned.trans_below {a b c : World} (h : Below a.heap.size a b) (k : Turned b c) : Turned a c := by
  refine ⟨Nat.le_trans h.size k.size, fun i hi => ?_⟩
  rcases k.block i (Nat.lt_of_lt_of_le hi h.size) with e | e
  · exact .inl (e.trans (h.block i hi))
  · refine .inr ?_
    have cs : ∀ o, b.cell? ⟨i, o, none⟩ = a.cell? ⟨i, o, none⟩ := fun o => h.cell (p := ⟨i, o, none⟩) hi
    unfold Away at e ⊢
    rw [cs, cs, cs] at e
    exact e

theorem Turned.has {w w' : World} (t : Turned w w') {a : Option Addr} {n : Nat} {zs : List Int} (f : From 0 a n) (h : Has .u64 w a n zs) : Has .u64 w' a n zs := by
  refine ⟨h.1, h.2.1, ?_⟩
  by_cases h0 : 0 < n
  · obtain ⟨b, off, rfl, hlt, hc⟩ := h.some h0
    obtain ⟨b', off', e, _, hz⟩ := f h0
    simp only [Option.some.injEq, Addr.mk.injEq, and_true] at e
    obtain ⟨rfl, rfl⟩ := e
    subst hz
    have h00 := hc 0 h0
    rw [Nat.zero_add] at h00
    rcases t.block b hlt with e | e
    · exact .inr ⟨b, 0, rfl, Nat.lt_of_lt_of_le hlt t.size, fun i hi => (World.cell?_of_block (w := w) (w' := w') (a := ⟨b, 0 + i, none⟩) e).trans (hc i hi)⟩
    · rcases e with ⟨a, n, c, h1⟩ | ⟨⟨x, h1⟩, _⟩
      · rw [h00] at h1; cases h1
      · rw [h00] at h1; cases h1
  · exact .inl (List.eq_nil_of_length_eq_zero (by have := h.1; omega))

theorem Turned.lies {w w' : World} (t : Turned w w') {q : Nat} {h : HitM} (l : Lies w q h) : Lies w' q h := by
  obtain ⟨a, n, c, c0, c1, hn, hs, hh, hf⟩ := l
  have hb : w'.heap[q]? = w.heap[q]? := by
    rcases t.block q (World.block_lt_of_cell? w _ c0) with e | e
    · exact e
    · rcases e with ⟨a', n', c', h1⟩ | ⟨_, ⟨x, h1⟩, _⟩
      · rw [c0] at h1; cases h1
      · rw [c1] at h1; cases h1
  exact ⟨a, n, c, (World.cell?_of_block (w := w) (w' := w') (a := ⟨q, 0, none⟩) hb).trans c0, (World.cell?_of_block (w := w) (w' := w') (a := ⟨q, 1, none⟩) hb).trans c1, hn, hs, t.has hf hh, hf⟩

theorem Turned.loose {w w' : World} (t : Turned w w') {k : Nat} (hk : k < w.heap.size) (l : LooseAt w k) : w'.heap[k]? = w.heap[k]? := by
  rcases t.block k hk with e | e
  · exact e
  · rcases e with ⟨a', n', c', h1⟩ | ⟨_, _, a', n', c', h1⟩
    · exact absurd (l.1 0 _ h1) (tight_slice _ _ _)
    · exact absurd (l.1 4 _ h1) (tight_slice _ _ _)

/-- the table by nodes stays while the document's is turned -/
theorem Tab.turned {w w' : World} {B p : Nat} {wd most : Int} {C : Told2} {es : List (Nat × Nat)} (h : Tab w B p wd most C es) (t : Turned w w') : Tab w' B p wd most C es := by
  obtain ⟨N, tr⟩ := h.tr
  have hr := tr.node 0 0 _ tr.root
  have hp := t.loose hr.lt hr.lo
  have cs : ∀ i, w'.cell? ⟨p, i, none⟩ = w.cell? ⟨p, i, none⟩ := fun i => World.cell?_of_block (w := w) (w' := w') (a := ⟨p, i, none⟩) hp
  refine ⟨⟨(cs 0).trans h.hd.c0, (cs 1).trans h.hd.c1, (cs 2).trans h.hd.c2, (World.frozen?_of_block (w := w) (w' := w') (a := ⟨p, 2, none⟩) hp).trans h.hd.f2⟩, h.nd, h.mem, h.emp, N, tr.root, tr.rng, tr.inj, fun n v a ha => ?_, tr.up, tr.cn, tr.base⟩
  have hn := tr.node n v a ha
  have hb := t.loose hn.lt hn.lo
  have hc : ∀ o, w'.cell? ⟨a.1, o, none⟩ = w.cell? ⟨a.1, o, none⟩ := fun o => World.cell?_of_block (w := w) (w' := w') (a := ⟨a.1, o, none⟩) hb
  have hf : ∀ o, w'.frozen? ⟨a.1, o, none⟩ = w.frozen? ⟨a.1, o, none⟩ := fun o => World.frozen?_of_block (w := w) (w' := w') (a := ⟨a.1, o, none⟩) hb
  obtain ⟨x, h2, hs⟩ := hn.c2
  refine ⟨(hc _).trans hn.c0, (hc _).trans hn.c1, ⟨x, (hc _).trans h2, ?_⟩, (hf _).trans hn.f0, (hf _).trans hn.f1, (hf _).trans hn.f2, fun o y hy => ?_, fun m hm => hn.lo.2 m (by rw [shape_of_block hb] at hm; exact hm)⟩
  · cases hC : C n v with
    | none => rw [hC] at hs; exact hs
    | some g => rw [hC] at hs; obtain ⟨q, e, l⟩ := hs; exact ⟨q, e, t.lies l⟩
  · rw [hc] at hy; exact hn.lo.1 o y hy
end Go.Proofs.Ytlnkfgdepddmlac
