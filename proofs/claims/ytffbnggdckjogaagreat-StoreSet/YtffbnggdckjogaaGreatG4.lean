/- Texts of one chain, joined: Lay, Trie. -/
import Derived.Test.YtffbnggdckjogaaGreatG0
import Derived.Test.YtffbnggdckjogaaGreatG3
namespace Go.Proofs.YtffbnggdckjogaaGreat
open Go.RowKit
def Loose (v : Value) : Prop := (∃ a, v = .pointer a) ∨ ∃ n, v = .int .i64 n
theorem loose_ptr (a : Option Addr) : Loose (.pointer a) := .inl ⟨a, rfl⟩
theorem loose_int (n : Int) : Loose (.int .i64 n) := .inr ⟨n, rfl⟩
theorem tight_u64 (n : Int) : ¬ Loose (.int .u64 n) := by rintro (⟨_, h⟩ | ⟨_, h⟩) <;> cases h
theorem tight_slice (a : Option Addr) (n c : Nat) : ¬ Loose (.slice a n c) := by rintro (⟨_, h⟩ | ⟨_, h⟩) <;> cases h
def LooseAt (w : World) (k : Nat) : Prop := (∀ o x, w.cell? ⟨k, o, none⟩ = some x → Loose x) ∧ ∀ n, w.shape? k ≠ some (3, n)
theorem shape_of_block {w w' : World} {k : Nat} (h : w'.heap[k]? = w.heap[k]?) : w'.shape? k = w.shape? k := by simp [World.shape?, h]
theorem shape_set (w : World) (a : Addr) (v : Value) (k : Nat) : (w.setCell a v).shape? k = w.shape? k := by
  unfold World.setCell World.shape?
  simp only [Array.getElem?_modify]
  by_cases e : a.block = k
  · rw [if_pos e]
    cases w.heap[k]? with
    | none => rfl
    | some o =>
      cases o with
      | cells c t f => simp only [Option.map_some]; split <;> simp
      | _ => rfl
  · rw [if_neg e]
structure Moved (w w' : World) : Prop where
  size : w.heap.size ≤ w'.heap.size
  block : ∀ k, k < w.heap.size → w'.heap[k]? = w.heap[k]? ∨ LooseAt w k
theorem Moved.refl (w : World) : Moved w w := ⟨Nat.le_refl _, fun _ _ => .inl rfl⟩
theorem moved_below {w w' : World} (h : Below w.heap.size w w') : Moved w w' := ⟨h.size, fun k hk => .inl (h.block k hk)⟩
theorem Moved.trans {a b c : World} (h : Moved a b) (k : Moved b c) : Moved a c := by
  refine ⟨Nat.le_trans h.size k.size, fun i hi => ?_⟩
  rcases h.block i hi with h1 | h1
  · rcases k.block i (Nat.lt_of_lt_of_le hi h.size) with k1 | k1
    · exact .inl (k1.trans h1)
    · refine .inr ⟨fun o x hx => k1.1 o x ?_, fun n hn => k1.2 n ?_⟩
      · rw [World.cell?_of_block (w := a) (w' := b) (a := ⟨i, o, none⟩) h1]
        exact hx
      · rw [shape_of_block h1]; exact hn
  · exact .inr h1
theorem Moved.cell {w w' : World} (m : Moved w w') {b o o' : Nat} {v u : Value} (h : w.cell? ⟨b, o, none⟩ = some v) (hu : w.cell? ⟨b, o', none⟩ = some u) (hn : ¬ Loose u) : w'.cell? ⟨b, o, none⟩ = some v := by
  rcases m.block b (World.block_lt_of_cell? w _ h) with e | e
  · rw [World.cell?_of_block (w := w) (w' := w') (a := ⟨b, o, none⟩) e]; exact h
  · exact absurd (e.1 o' u hu) hn
theorem Moved.frozen {w w' : World} (m : Moved w w') {b o o' : Nat} {u : Value} (hu : w.cell? ⟨b, o', none⟩ = some u) (hn : ¬ Loose u) : w'.frozen? ⟨b, o, none⟩ = w.frozen? ⟨b, o, none⟩ := by
  rcases m.block b (World.block_lt_of_cell? w _ hu) with e | e
  · exact World.frozen?_of_block (w := w) (w' := w') (a := ⟨b, o, none⟩) e
  · exact absurd (e.1 o' u hu) hn
theorem Moved.has {w w' : World} (m : Moved w w') {a : Option Addr} {len : Nat} {zs : List Int} (h : Has .u64 w a len zs) : Has .u64 w' a len zs := by
  refine ⟨h.1, h.2.1, ?_⟩
  rcases h.2.2 with h | ⟨b, off, rfl, hlt, hc⟩
  · exact .inl h
  · exact .inr ⟨b, off, rfl, Nat.lt_of_lt_of_le hlt m.size, fun i hi => m.cell (hc i hi) (hc i hi) (tight_u64 _)⟩
theorem moved_set {w : World} {k o : Nat} (h : LooseAt w k) (v : Value) : Moved w (w.setCell ⟨k, o, none⟩ v) := by
  refine ⟨by simp [World.setCell], fun i _ => ?_⟩
  by_cases e : i = k
  · subst e; exact .inr h
  · exact .inl (Below.heap_setCell _ _ _ _ e)
theorem moved_alloc (w : World) (o : Obj) : Moved w (w.alloc o) := moved_below (bl_alloc (Below.refl _ _))
theorem LooseAt.set {w : World} {k k' o : Nat} (h : LooseAt w k) {u v : Value} (hu : w.cell? ⟨k', o, none⟩ = some u) (hv : Loose v) : LooseAt (w.setCell ⟨k', o, none⟩ v) k := by
  refine ⟨fun o' x hx => ?_, fun n hn => h.2 n (by rw [shape_set] at hn; exact hn)⟩
  by_cases e : (⟨k', o, none⟩ : Addr) = ⟨k, o', none⟩
  · rw [← e, World.cell?_setCell_same _ _ _ hu] at hx
    cases hx; exact hv
  · rw [World.cell?_setCell_other _ _ _ _ e] at hx
    exact h.1 o' x hx
theorem LooseAt.step {w w' : World} {k : Nat} (h : LooseAt w k) (hb : Below w.heap.size w w') (hk : k < w.heap.size) : LooseAt w' k := by
  refine ⟨fun o x hx => ?_, fun n hn => h.2 n (by rw [shape_of_block (hb.block k hk)] at hn; exact hn)⟩
  rw [hb.cell (p := ⟨k, o, none⟩) hk] at hx
  exact h.1 o x hx
structure BelZ (Z : Nat → Prop) (w w' : World) : Prop where
  b0 : Below 0 w w'
  block : ∀ k, k < w.heap.size → Z k → w'.heap[k]? = w.heap[k]?
theorem BelZ.refl (Z : Nat → Prop) (w : World) : BelZ Z w w := ⟨Below.refl _ _, fun _ _ _ => rfl⟩
theorem BelZ.trans {Z : Nat → Prop} {a b c : World} (h : BelZ Z a b) (k : BelZ Z b c) : BelZ Z a c := ⟨h.b0.trans k.b0, fun i hi hz => (k.block i (Nat.lt_of_lt_of_le hi h.b0.size) hz).trans (h.block i hi hz)⟩
theorem below_zon {w w' : World} (Z : Nat → Prop) (h : Below w.heap.size w w') : BelZ Z w w' := ⟨h.mono (Nat.zero_le _), fun i hi _ => h.block i hi⟩
theorem BelZ.setCell {Z : Nat → Prop} {a w : World} (h : BelZ Z a w) {p : Addr} (hp : ¬ Z p.block) (u : Value) : BelZ Z a (w.setCell p u) := ⟨h.b0.setCell (Nat.zero_le _) u, fun i hi hz => (Below.heap_setCell w p u i (fun e => hp (e ▸ hz))).trans (h.block i hi hz)⟩
theorem BelZ.alloc {Z : Nat → Prop} {a w : World} (h : BelZ Z a w) (o : Obj) : BelZ Z a (w.alloc o) := h.trans (below_zon Z (bl_alloc (Below.refl _ _)))
theorem BelZ.to {Z : Nat → Prop} {B : Nat} {w w' : World} (h : BelZ Z w w') (hB : B ≤ w.heap.size) (hz : ∀ k, k < B → Z k) : Below B w w' := ⟨h.b0.os, h.b0.tape, h.b0.output, h.b0.size, fun k hk => h.block k (Nat.lt_of_lt_of_le hk hB) (hz k hk)⟩
def Says (w : World) (v : Value) (h : Mth.HitM) : Prop :=
  ∃ a n c, v = .agg #[.int .i64 h.1, .slice a n c] ∧ (a = none → n = 0 ∧ c = 0) ∧ n ≤ 1000 ∧ Has .u64 w a n h.2
theorem Says.moved {w w' : World} {v : Value} {h : Mth.HitM} (s : Says w v h) (g : Moved w w') : Says w' v h := by
  obtain ⟨a, n, c, e, hn, hs, hh⟩ := s
  exact ⟨a, n, c, e, hn, hs, g.has hh⟩
abbrev NoHit : Value := .agg #[.int .i64 0, .slice none 0 0]
theorem says_none (w : World) : Says w NoHit (0, []) := ⟨none, 0, 0, rfl, fun _ => ⟨rfl, rfl⟩, by omega, has_nil _ _⟩
def Lies (w : World) (q : Nat) (h : Mth.HitM) : Prop :=
  ∃ a n c, w.cell? ⟨q, 0, none⟩ = some (.int .i64 h.1) ∧ w.cell? ⟨q, 1, none⟩ = some (.slice a n c) ∧ (a = none → n = 0 ∧ c = 0) ∧ n ≤ 1000 ∧ Has .u64 w a n h.2 ∧ From 0 a n
theorem Lies.moved {w w' : World} {q : Nat} {h : Mth.HitM} (s : Lies w q h) (g : Moved w w') : Lies w' q h := by
  obtain ⟨a, n, c, c0, c1, hn, hs, hh, hf⟩ := s
  exact ⟨a, n, c, g.cell c0 c1 (tight_slice _ _ _), g.cell c1 c1 (tight_slice _ _ _), hn, hs, g.has hh, hf⟩
end Go.Proofs.YtffbnggdckjogaaGreat

namespace Go.Proofs.YtffbnggdckjogaaGreat
open Go.RowKit Mth
abbrev Loc : Type := Nat × Nat
def ptr : Option Loc → Value
  | none => .pointer none
  | some a => .pointer (some ⟨a.1, a.2, none⟩)
theorem loose_ptr' (a : Option Loc) : Loose (ptr a) := by cases a <;> exact loose_ptr _
abbrev Ways : Type := Nat → Nat → Option Loc
def Said (w : World) (v : Value) : Option HitM → Prop
  | none => v = .pointer none
  | some h => ∃ q, v = .pointer (some ⟨q, 0, none⟩) ∧ Lies w q h
theorem Said.moved {w w' : World} {v : Value} {s : Option HitM} (h : Said w v s) (g : Moved w w') : Said w' v s := by
  cases s with
  | none => exact h
  | some x => obtain ⟨q, e, l⟩ := h; exact ⟨q, e, l.moved g⟩
theorem Said.loose {w : World} {v : Value} {s : Option HitM} (h : Said w v s) : Loose v := by
  cases s with
  | none => rw [show v = .pointer none from h]; exact loose_ptr _
  | some x => obtain ⟨q, e, l⟩ := h; rw [e]; exact loose_ptr _
structure NodeAt (w : World) (a : Loc) (l r : Option Loc) (s : Option HitM) : Prop where
  c0 : w.cell? ⟨a.1, a.2, none⟩ = some (ptr l)
  c1 : w.cell? ⟨a.1, a.2 + 1, none⟩ = some (ptr r)
  c2 : ∃ v, w.cell? ⟨a.1, a.2 + 2, none⟩ = some v ∧ Said w v s
  f0 : w.frozen? ⟨a.1, a.2, none⟩ = false
  f1 : w.frozen? ⟨a.1, a.2 + 1, none⟩ = false
  f2 : w.frozen? ⟨a.1, a.2 + 2, none⟩ = false
  lo : LooseAt w a.1
theorem NodeAt.keep {w w' : World} {a : Loc} {l r : Option Loc} {s : Option HitM} (h : NodeAt w a l r s) (hb : w'.heap[a.1]? = w.heap[a.1]?) (g : Moved w w') : NodeAt w' a l r s := by
  have hc : ∀ o, w'.cell? ⟨a.1, o, none⟩ = w.cell? ⟨a.1, o, none⟩ := fun o => World.cell?_of_block (w := w) (w' := w') (a := ⟨a.1, o, none⟩) hb
  have hf : ∀ o, w'.frozen? ⟨a.1, o, none⟩ = w.frozen? ⟨a.1, o, none⟩ := fun o => World.frozen?_of_block (w := w) (w' := w') (a := ⟨a.1, o, none⟩) hb
  obtain ⟨v, h2, hs⟩ := h.c2
  refine ⟨(hc _).trans h.c0, (hc _).trans h.c1, ⟨v, (hc _).trans h2, hs.moved g⟩, (hf _).trans h.f0, (hf _).trans h.f1, (hf _).trans h.f2, fun o x hx => ?_, fun n hn => h.lo.2 n (by rw [shape_of_block hb] at hn; exact hn)⟩
  rw [hc] at hx
  exact h.lo.1 o x hx
theorem NodeAt.lt {w : World} {a : Loc} {l r : Option Loc} {s : Option HitM} (h : NodeAt w a l r s) : a.1 < w.heap.size := World.block_lt_of_cell? w _ h.c0
theorem set_size (w : World) (a : Addr) (v : Value) : (w.setCell a v).heap.size = w.heap.size := by simp [World.setCell]
structure Trie (w : World) (B : Nat → Prop) (p W : Nat) (N : Ways) (C : Told2) : Prop where
  root : N 0 0 = some (p, 3)
  rng : ∀ n v a, N n v = some a → n ≤ W ∧ v < 2 ^ n
  inj : ∀ n v m u a b, N n v = some a → N m u = some b → a.1 = b.1 → n = m ∧ v = u
  node : ∀ n v a, N n v = some a → NodeAt w a (N (n + 1) (2 * v)) (N (n + 1) (2 * v + 1)) (C n v)
  up : ∀ n v, N n v = none → N (n + 1) (2 * v) = none ∧ N (n + 1) (2 * v + 1) = none
  cn : ∀ n v, N n v = none → C n v = none
  base : ∀ n v a, N n v = some a → ¬ B a.1
  zl : ∀ k, B k → k < w.heap.size
theorem Trie.step {w w' : World} {B : Nat → Prop} {p W : Nat} {N : Ways} {C : Told2} (t : Trie w B p W N C) (h : Below w.heap.size w w') : Trie w' B p W N C :=
  ⟨t.root, t.rng, t.inj, fun n v a ha => (t.node n v a ha).keep (h.block _ (t.node n v a ha).lt) (moved_below h), t.up, t.cn, t.base, fun k hk => Nat.lt_of_lt_of_le (t.zl k hk) h.size⟩
theorem Trie.keep {w w' : World} {B : Nat → Prop} {p W : Nat} {N : Ways} {C : Told2} (t : Trie w B p W N C) (g : Moved w w') (h : ∀ n v a, N n v = some a → w'.heap[a.1]? = w.heap[a.1]?) : Trie w' B p W N C :=
  ⟨t.root, t.rng, t.inj, fun n v a ha => (t.node n v a ha).keep (h n v a ha) g, t.up, t.cn, t.base, fun k hk => Nat.lt_of_lt_of_le (t.zl k hk) g.size⟩
def upC (C : Told2) (n v : Nat) (s : Option HitM) : Told2 := fun m u => if m = n ∧ u = v then s else C m u
def upN (N : Ways) (n v : Nat) (s : Option Loc) : Ways := fun m u => if m = n ∧ u = v then s else N m u
theorem upC_same (C : Told2) (n v : Nat) (s : Option HitM) : upC C n v s n v = s := by simp [upC]
theorem upC_other (C : Told2) {n v m u : Nat} (s : Option HitM) (h : ¬ (m = n ∧ u = v)) : upC C n v s m u = C m u := by simp [upC, h]
theorem upN_same (N : Ways) (n v : Nat) (s : Option Loc) : upN N n v s n v = s := by simp [upN]
theorem upN_other (N : Ways) {n v m u : Nat} (s : Option Loc) (h : ¬ (m = n ∧ u = v)) : upN N n v s m u = N m u := by simp [upN, h]
theorem addr_ne {b o o' : Nat} (h : o ≠ o') : (⟨b, o, none⟩ : Addr) ≠ ⟨b, o', none⟩ := fun e => h (congrArg Addr.off e)
theorem NodeAt.say {w : World} {a : Loc} {l r : Option Loc} {s s' : Option HitM} (h : NodeAt w a l r s) {v : Value} (hv : Said w v s') : NodeAt (w.setCell ⟨a.1, a.2 + 2, none⟩ v) a l r s' := by
  obtain ⟨x, h2, _⟩ := h.c2
  have g : Moved w (w.setCell ⟨a.1, a.2 + 2, none⟩ v) := moved_set h.lo v
  exact ⟨(World.cell?_setCell_other _ _ _ _ (addr_ne (by omega))).trans h.c0, (World.cell?_setCell_other _ _ _ _ (addr_ne (by omega))).trans h.c1, ⟨v, World.cell?_setCell_same _ _ _ h2, hv.moved g⟩, by simpa using h.f0, by simpa using h.f1, by simpa using h.f2, h.lo.set h2 hv.loose⟩
theorem NodeAt.left {w : World} {a : Loc} {l r : Option Loc} {s : Option HitM} (h : NodeAt w a l r s) (k : Option Loc) : NodeAt (w.setCell ⟨a.1, a.2, none⟩ (ptr k)) a k r s := by
  obtain ⟨x, h2, hs⟩ := h.c2
  have g : Moved w (w.setCell ⟨a.1, a.2, none⟩ (ptr k)) := moved_set h.lo _
  exact ⟨World.cell?_setCell_same _ _ _ h.c0, (World.cell?_setCell_other _ _ _ _ (addr_ne (by omega))).trans h.c1, ⟨x, (World.cell?_setCell_other _ _ _ _ (addr_ne (by omega))).trans h2, hs.moved g⟩, by simpa using h.f0, by simpa using h.f1, by simpa using h.f2, h.lo.set h.c0 (loose_ptr' k)⟩
theorem NodeAt.right {w : World} {a : Loc} {l r : Option Loc} {s : Option HitM} (h : NodeAt w a l r s) (k : Option Loc) : NodeAt (w.setCell ⟨a.1, a.2 + 1, none⟩ (ptr k)) a l k s := by
  obtain ⟨x, h2, hs⟩ := h.c2
  have g : Moved w (w.setCell ⟨a.1, a.2 + 1, none⟩ (ptr k)) := moved_set h.lo _
  exact ⟨(World.cell?_setCell_other _ _ _ _ (addr_ne (by omega))).trans h.c0, World.cell?_setCell_same _ _ _ h.c1, ⟨x, (World.cell?_setCell_other _ _ _ _ (addr_ne (by omega))).trans h2, hs.moved g⟩, by simpa using h.f0, by simpa using h.f1, by simpa using h.f2, h.lo.set h.c1 (loose_ptr' k)⟩
theorem Trie.ne {w : World} {B : Nat → Prop} {p W : Nat} {N : Ways} {C : Told2} (t : Trie w B p W N C) {n v m u : Nat} {a b : Loc} (ha : N n v = some a) (hb : N m u = some b) (h : ¬ (m = n ∧ u = v)) : b.1 ≠ a.1 := by
  intro e
  obtain ⟨e1, e2⟩ := t.inj m u n v b a hb ha e
  exact h ⟨e1, e2⟩
theorem Trie.say {w : World} {B : Nat → Prop} {p W : Nat} {N : Ways} {C : Told2} (t : Trie w B p W N C) {n v : Nat} {a : Loc} (ha : N n v = some a) {x : Value} {s : Option HitM} (hx : Said w x s) : Trie (w.setCell ⟨a.1, a.2 + 2, none⟩ x) B p W N (upC C n v s) := by
  have hn := t.node n v a ha
  refine ⟨t.root, t.rng, t.inj, fun m u b hb => ?_, t.up, fun m u hm => ?_, t.base, fun k hk => by rw [set_size]; exact t.zl k hk⟩
  · by_cases e : m = n ∧ u = v
    · obtain ⟨rfl, rfl⟩ := e
      have : b = a := by rw [ha] at hb; exact (Option.some.inj hb).symm
      subst this
      rw [upC_same]
      exact hn.say hx
    · rw [upC_other _ _ e]
      exact (t.node m u b hb).keep (Below.heap_setCell _ _ _ _ (t.ne ha hb e)) (moved_set hn.lo x)
  · have e : ¬ (m = n ∧ u = v) := by rintro ⟨rfl, rfl⟩; rw [ha] at hm; cases hm
    rw [upC_other _ _ e]
    exact t.cn m u hm
theorem child_cases (b : Nat) (h : b < 2) : b = 0 ∨ b = 1 := by omega
theorem NodeAt.child {w : World} {a : Loc} {N : Ways} {n v : Nat} {s : Option HitM} (h : NodeAt w a (N (n + 1) (2 * v)) (N (n + 1) (2 * v + 1)) s) (b : Nat) (hb : b < 2) : w.cell? ⟨a.1, a.2 + b, none⟩ = some (ptr (N (n + 1) (2 * v + b))) ∧ w.frozen? ⟨a.1, a.2 + b, none⟩ = false := by
  rcases child_cases b hb with rfl | rfl
  · exact ⟨h.c0, h.f0⟩
  · exact ⟨h.c1, h.f1⟩
theorem NodeAt.lead {w : World} {a : Loc} {N : Ways} {n v : Nat} {s : Option HitM} (h : NodeAt w a (N (n + 1) (2 * v)) (N (n + 1) (2 * v + 1)) s) (b : Nat) (hb : b < 2) (k : Option Loc) :
    NodeAt (w.setCell ⟨a.1, a.2 + b, none⟩ (ptr k)) a (upN N (n + 1) (2 * v + b) k (n + 1) (2 * v)) (upN N (n + 1) (2 * v + b) k (n + 1) (2 * v + 1)) s := by
  rcases child_cases b hb with rfl | rfl
  · simp only [Nat.add_zero]
    rw [upN_same, upN_other _ _ (by omega)]
    exact h.left k
  · rw [upN_same, upN_other _ _ (by omega)]
    exact h.right k
theorem up_far (N : Ways) {n v b m u : Nat} (k : Option Loc) (h : ¬ (m = n ∧ u = v)) (hb : b < 2) : upN N (n + 1) (2 * v + b) k (m + 1) (2 * u) = N (m + 1) (2 * u) ∧ upN N (n + 1) (2 * v + b) k (m + 1) (2 * u + 1) = N (m + 1) (2 * u + 1) :=
  ⟨upN_other _ _ (by omega), upN_other _ _ (by omega)⟩
theorem Trie.unlink {w : World} {B : Nat → Prop} {p W : Nat} {N : Ways} {C : Told2} (t : Trie w B p W N C) {n v b : Nat} {a c : Loc} (hb : b < 2) (ha : N n v = some a) (hc : N (n + 1) (2 * v + b) = some c)
    (hl : N (n + 2) (2 * (2 * v + b)) = none) (hr : N (n + 2) (2 * (2 * v + b) + 1) = none) (hC : C (n + 1) (2 * v + b) = none) : Trie (w.setCell ⟨a.1, a.2 + b, none⟩ (.pointer none)) B p W (upN N (n + 1) (2 * v + b) none) C := by
  have hn := t.node n v a ha
  have key : ∀ m u d, upN N (n + 1) (2 * v + b) none m u = some d → ¬ (m = n + 1 ∧ u = 2 * v + b) ∧ N m u = some d := by
    intro m u d h
    by_cases e : m = n + 1 ∧ u = 2 * v + b
    · obtain ⟨rfl, rfl⟩ := e; rw [upN_same] at h; cases h
    · rw [upN_other _ _ e] at h; exact ⟨e, h⟩
  refine ⟨?_, fun m u d h => t.rng m u d (key m u d h).2, fun m u m' u' d d' h h' => t.inj m u m' u' d d' (key m u d h).2 (key m' u' d' h').2, fun m u d h => ?_, fun m u h => ?_, fun m u h => ?_, fun m u d h => t.base m u d (key m u d h).2, fun k hk => by rw [set_size]; exact t.zl k hk⟩
  · rw [upN_other _ _ (by omega)]; exact t.root
  · obtain ⟨e, h'⟩ := key m u d h
    by_cases e2 : m = n ∧ u = v
    · obtain ⟨rfl, rfl⟩ := e2
      have : d = a := by rw [ha] at h'; exact (Option.some.inj h').symm
      subst this
      exact hn.lead b hb none
    · rw [(up_far N none e2 hb).1, (up_far N none e2 hb).2]
      exact (t.node m u d h').keep (Below.heap_setCell _ _ _ _ (t.ne ha h' e2)) (moved_set hn.lo _)
  · by_cases e : m = n + 1 ∧ u = 2 * v + b
    · obtain ⟨rfl, rfl⟩ := e
      rw [upN_other _ _ (by omega), upN_other _ _ (by omega)]
      exact ⟨hl, hr⟩
    · rw [upN_other _ _ e] at h
      by_cases e2 : m = n ∧ u = v
      · obtain ⟨rfl, rfl⟩ := e2; rw [ha] at h; cases h
      · rw [(up_far N none e2 hb).1, (up_far N none e2 hb).2]
        exact t.up m u h
  · by_cases e : m = n + 1 ∧ u = 2 * v + b
    · obtain ⟨rfl, rfl⟩ := e; exact hC
    · rw [upN_other _ _ e] at h; exact t.cn m u h
abbrev NewNode : Obj := .cells #[.pointer none, .pointer none, .pointer none] 101
theorem new_node (w : World) : NodeAt (w.alloc NewNode) (w.heap.size, 0) none none none := by
  refine ⟨by simp [ptr], by simp [ptr], ⟨.pointer none, by simp, rfl⟩, by simp, by simp, by simp, fun o x hx => ?_, fun n hn => by rw [World.shape?, heap_alloc_new] at hn; simp at hn⟩
  match o with
  | 0 => simp at hx; subst hx; exact loose_ptr _
  | 1 => simp at hx; subst hx; exact loose_ptr _
  | 2 => simp at hx; subst hx; exact loose_ptr _
  | o + 3 =>
    have e : (w.alloc NewNode).heap[w.heap.size]? = some NewNode := heap_alloc_new w _
    unfold World.cell? at hx
    rw [show (⟨w.heap.size, o + 3, none⟩ : Addr).block = w.heap.size from rfl, e] at hx
    simp at hx
theorem Trie.link {w : World} {B : Nat → Prop} {p W : Nat} {N : Ways} {C : Told2} (t : Trie w B p W N C) {n v b : Nat} {a : Loc} (hb : b < 2) (hn : n < W) (ha : N n v = some a) (hc : N (n + 1) (2 * v + b) = none) (hB : ¬ B w.heap.size) :
    Trie ((w.alloc NewNode).setCell ⟨a.1, a.2 + b, none⟩ (.pointer (some ⟨w.heap.size, 0, none⟩))) B p W (upN N (n + 1) (2 * v + b) (some (w.heap.size, 0))) C := by
  have t1 := t.step (bl_alloc (o := NewNode) (Below.refl w.heap.size w))
  have hnode := t1.node n v a ha
  have hv := (t.rng n v a ha).2
  have hlt := (t.node n v a ha).lt
  have key : ∀ m u d, upN N (n + 1) (2 * v + b) (some (w.heap.size, 0)) m u = some d → (m = n + 1 ∧ u = 2 * v + b ∧ d = (w.heap.size, 0)) ∨ (¬ (m = n + 1 ∧ u = 2 * v + b) ∧ N m u = some d) := by
    intro m u d h
    by_cases e : m = n + 1 ∧ u = 2 * v + b
    · obtain ⟨rfl, rfl⟩ := e; rw [upN_same] at h; exact .inl ⟨rfl, rfl, (Option.some.inj h).symm⟩
    · rw [upN_other _ _ e] at h; exact .inr ⟨e, h⟩
  have old : ∀ m u d, N m u = some d → d.1 < w.heap.size := fun m u d h => (t.node m u d h).lt
  refine ⟨?_, fun m u d h => ?_, fun m u m' u' d d' h h' e => ?_, fun m u d h => ?_, fun m u h => ?_, fun m u h => ?_, fun m u d h => ?_, fun k hk => by rw [set_size]; exact Nat.lt_of_lt_of_le (t.zl k hk) (by simp)⟩
  · rw [upN_other _ _ (by omega)]; exact t.root
  · rcases key m u d h with ⟨rfl, rfl, _⟩ | ⟨_, h⟩
    · exact ⟨by omega, by rw [Nat.pow_succ]; omega⟩
    · exact t.rng m u d h
  · rcases key m u d h with ⟨rfl, rfl, rfl⟩ | ⟨_, h1⟩ <;> rcases key m' u' d' h' with ⟨rfl, rfl, rfl⟩ | ⟨_, h2⟩
    · exact ⟨rfl, rfl⟩
    · have := old _ _ _ h2; simp only at e; omega
    · have := old _ _ _ h1; simp only at e; omega
    · exact t.inj m u m' u' d d' h1 h2 e
  · rcases key m u d h with ⟨rfl, rfl, rfl⟩ | ⟨_, h'⟩
    · rw [upN_other _ _ (by omega), upN_other _ _ (by omega), (t.up _ _ hc).1, (t.up _ _ hc).2, t.cn _ _ hc]
      exact (new_node w).keep (Below.heap_setCell _ _ _ _ (by simp only; omega)) (moved_set hnode.lo _)
    · by_cases e2 : m = n ∧ u = v
      · obtain ⟨rfl, rfl⟩ := e2
        have : d = a := by rw [ha] at h'; exact (Option.some.inj h').symm
        subst this
        exact hnode.lead b hb (some (w.heap.size, 0))
      · rw [(up_far N _ e2 hb).1, (up_far N _ e2 hb).2]
        exact (t1.node m u d h').keep (Below.heap_setCell _ _ _ _ (t.ne ha h' e2)) (moved_set hnode.lo _)
  · by_cases e : m = n + 1 ∧ u = 2 * v + b
    · obtain ⟨rfl, rfl⟩ := e; rw [upN_same] at h; cases h
    · rw [upN_other _ _ e] at h
      by_cases e2 : m = n ∧ u = v
      · obtain ⟨rfl, rfl⟩ := e2; rw [ha] at h; cases h
      · rw [(up_far N _ e2 hb).1, (up_far N _ e2 hb).2]
        exact t.up m u h
  · by_cases e : m = n + 1 ∧ u = 2 * v + b
    · obtain ⟨rfl, rfl⟩ := e; rw [upN_same] at h; cases h
    · rw [upN_other _ _ e] at h; exact t.cn m u h
  · rcases key m u d h with ⟨_, _, rfl⟩ | ⟨_, h⟩
    · exact hB
    · exact t.base m u d h
theorem Trie.none_up {w : World} {B : Nat → Prop} {p W : Nat} {N : Ways} {C : Told2} (t : Trie w B p W N C) {n v : Nat} (h : N n v = none) (m u : Nat) (hm : n ≤ m) (hu : u / 2 ^ (m - n) = v) : N m u = none := by
  induction m generalizing u with
  | zero =>
    have e : n = 0 := by omega
    subst e
    have : u = v := by simpa using hu
    rw [this]; exact h
  | succ m ih =>
    by_cases e : n = m + 1
    · subst e
      have : u = v := by simpa using hu
      rw [this]; exact h
    · have h2 := ih (u / 2) (by omega) (by rw [Nat.div_div_eq_div_mul, ← Nat.pow_add_one', show m - n + 1 = m + 1 - n from by omega]; exact hu)
      have := t.up m (u / 2) h2
      rcases Nat.mod_two_eq_zero_or_one u with e0 | e0
      · rw [show u = 2 * (u / 2) from by omega]; exact this.1
      · rw [show u = 2 * (u / 2) + 1 from by omega]; exact this.2
end Go.Proofs.YtffbnggdckjogaaGreat
