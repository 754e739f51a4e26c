/- What stays while tables of nodes are turned; what an entry says, as it lies. -/
import Derived.Test.YtlnkfgdepddmlacU64
import Derived.Test.YtlnkfgdepddmlacTMath
namespace Go.Proofs.Ytlnkfgdepddmlac
open Go.RowKit

/-- a cell of a block that may be turned: a pointer or an int -/
def Loose (v : Value) : Prop := (∃ a, v = .pointer a) ∨ ∃ n, v = .int .i64 n

theorem loose_ptr (a : Option Addr) : Loose (.pointer a) := .inl ⟨a, rfl⟩
theorem loose_int (n : Int) : Loose (.int .i64 n) := .inr ⟨n, rfl⟩
theorem tight_u64 (n : Int) : ¬ Loose (.int .u64 n) := by rintro (⟨_, h⟩ | ⟨_, h⟩) <;> cases h
theorem tight_slice (a : Option Addr) (n c : Nat) : ¬ Loose (.slice a n c) := by rintro (⟨_, h⟩ | ⟨_, h⟩) <;> cases h

/-- all cells of a block are so, and it is no list of ints -/
def LooseAt (w : World) (k : Nat) : Prop := (∀ o x, w.cell? ⟨k, o, none⟩ = some x → Loose x) ∧ ∀ n, w.shape? k ≠ some (3, n)

theorem shape_of_block {w w' : World} {k : Nat} (h : w'.heap[k]? = w.heap[k]?) : w'.shape? k = w.shape? k := by simp [World.shape?, h]

theorem shape_set (w : World) (a : Addr) (v : Value) (k : Nat) : (w.setCell a v).shape? k = w.shape? k := by
  unfold World.setCell World.shape?
  simp only [Array.getElem?_modify]
  by_cases e : a.block = k
  · rw [if_pos e]
    cases w.heap[k]? with
    | none => rfl
    | some o =>
      cases o with
      | cells c t f => simp only [Option.map_some]; split <;> simp
      | _ => rfl
  · rw [if_neg e]

/-- nothing old is another one, but blocks of pointers and ints alone -/
structure Moved (w w' : World) : Prop where
  size : w.heap.size ≤ w'.heap.size
  block : ∀ k, k < w.heap.size → w'.heap[k]? = w.heap[k]? ∨ LooseAt w k

theorem Moved.refl (w : World) : Moved w w := ⟨Nat.le_refl _, fun _ _ => .inl rfl⟩

theorem moved_below {w w' : World} (h : Below w.heap.size w w') : Moved w w' := ⟨h.size, fun k hk => .inl (h.block k hk)⟩

theorem Moved.trans {a b c : World} (h : Moved a b) (k : Moved b c) : Moved a c := by
  refine ⟨Nat.le_trans h.size k.size, fun i hi => ?_⟩
  rcases h.block i hi with h1 | h1
  · rcases k.block i (Nat.lt_of_lt_of_le hi h.size) with k1 | k1
    · exact .inl (k1.trans h1)
    · refine .inr ⟨fun o x hx => k1.1 o x ?_, fun n hn => k1.2 n ?_⟩
      · rw [World.cell?_of_block (w := a) (w' := b) (a := ⟨i, o, none⟩) h1]
        exact hx
      · rw [shape_of_block h1]; exact hn
  · exact .inr h1

theorem Moved.cell {w w' : World} (m : Moved w w') {b o o' : Nat} {v u : Value} (h : w.cell? ⟨b, o, none⟩ = some v) (hu : w.cell? ⟨b, o', none⟩ = some u) (hn : ¬ Loose u) : w'.cell? ⟨b, o, none⟩ = some v := by
  rcases m.block b (World.block_lt_of_cell? w _ h) with e | e
  · rw [World.cell?_of_block (w := w) (w' := w') (a := ⟨b, o, none⟩) e]; exact h
  · exact absurd (e.1 o' u hu) hn

theorem Moved.frozen {w w' : World} (m : Moved w w') {b o o' : Nat} {u : Value} (hu : w.cell? ⟨b, o', none⟩ = some u) (hn : ¬ Loose u) : w'.frozen? ⟨b, o, none⟩ = w.frozen? ⟨b, o, none⟩ := by
  rcases m.block b (World.block_lt_of_cell? w _ hu) with e | e
  · exact World.frozen?_of_block (w := w) (w' := w') (a := ⟨b, o, none⟩) e
  · exact absurd (e.1 o' u hu) hn

theorem Moved.has {w w' : World} (m : Moved w w') {a : Option Addr} {len : Nat} {zs : List Int} (h : Has .u64 w a len zs) : Has .u64 w' a len zs := by
  refine ⟨h.1, h.2.1, ?_⟩
  rcases h.2.2 with h | ⟨b, off, rfl, hlt, hc⟩
  · exact .inl h
  · exact .inr ⟨b, off, rfl, Nat.lt_of_lt_of_le hlt m.size, fun i hi => m.cell (hc i hi) (hc i hi) (tight_u64 _)⟩

theorem moved_set {w : World} {k o : Nat} (h : LooseAt w k) (v : Value) : Moved w (w.setCell ⟨k, o, none⟩ v) := by
  refine ⟨by simp [World.setCell], fun i _ => ?_⟩
  by_cases e : i = k
  · subst e; exact .inr h
  · exact .inl (Below.heap_setCell _ _ _ _ e)

theorem moved_alloc (w : World) (o : Obj) : Moved w (w.alloc o) := moved_below (bl_alloc (Below.refl _ _))

theorem LooseAt.set {w : World} {k k' o : Nat} (h : LooseAt w k) {u v : Value} (hu : w.cell? ⟨k', o, none⟩ = some u) (hv : Loose v) : LooseAt (w.setCell ⟨k', o, none⟩ v) k := by
  refine ⟨fun o' x hx => ?_, fun n hn => h.2 n (by rw [shape_set] at hn; exact hn)⟩
  by_cases e : (⟨k', o, none⟩ : Addr) = ⟨k, o', none⟩
  · rw [← e, World.cell?_setCell_same _ _ _ hu] at hx
    cases hx; exact hv
  · rw [World.cell?_setCell_other _ _ _ _ e] at hx
    exact h.1 o' x hx

theorem LooseAt.step {w w' : World} {k : Nat} (h : LooseAt w k) (hb : Below w.heap.size w w') (hk : k < w.heap.size) : LooseAt w' k := by
  refine ⟨fun o x hx => ?_, fun n hn => h.2 n (by rw [shape_of_block (hb.block k hk)] at hn; exact hn)⟩
  rw [hb.cell (p := ⟨k, o, none⟩) hk] at hx
  exact h.1 o x hx

/-- a list of ints stays -/
theorem Moved.ints {w w' : World} (m : Moved w w') {k n : Nat} (hs : w.shape? k = some (3, n)) : w'.heap[k]? = w.heap[k]? := by
  have hk : k < w.heap.size := by
    rcases Nat.lt_or_ge k w.heap.size with h | h
    · exact h
    · simp [World.shape?, Array.getElem?_eq_none h] at hs
  rcases m.block k hk with e | e
  · exact e
  · exact absurd hs (e.2 n)

/-- what an entry says, as a value -/
def Says (w : World) (v : Value) (h : Mth.HitM) : Prop :=
  ∃ a n c, v = .agg #[.int .i64 h.1, .slice a n c] ∧ (a = none → n = 0 ∧ c = 0) ∧ n ≤ 1000 ∧ Has .u64 w a n h.2

theorem Says.moved {w w' : World} {v : Value} {h : Mth.HitM} (s : Says w v h) (g : Moved w w') : Says w' v h := by
  obtain ⟨a, n, c, e, hn, hs, hh⟩ := s
  exact ⟨a, n, c, e, hn, hs, g.has hh⟩

abbrev NoHit : Value := .agg #[.int .i64 0, .slice none 0 0]

theorem says_none (w : World) : Says w NoHit (0, []) := ⟨none, 0, 0, rfl, fun _ => ⟨rfl, rfl⟩, by omega, has_nil _ _⟩

/-- and as it lies in a block -/
def Lies (w : World) (q : Nat) (h : Mth.HitM) : Prop :=
  ∃ a n c, w.cell? ⟨q, 0, none⟩ = some (.int .i64 h.1) ∧ w.cell? ⟨q, 1, none⟩ = some (.slice a n c) ∧ (a = none → n = 0 ∧ c = 0) ∧ n ≤ 1000 ∧ Has .u64 w a n h.2 ∧ From 0 a n

theorem Lies.moved {w w' : World} {q : Nat} {h : Mth.HitM} (s : Lies w q h) (g : Moved w w') : Lies w' q h := by
  obtain ⟨a, n, c, c0, c1, hn, hs, hh, hf⟩ := s
  exact ⟨a, n, c, g.cell c0 c1 (tight_slice _ _ _), g.cell c1 c1 (tight_slice _ _ _), hn, hs, g.has hh, hf⟩
end Go.Proofs.Ytlnkfgdepddmlac
