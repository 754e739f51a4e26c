/- Texts of one chain, joined: ExTab. -/
import Derived.Test.YtffbnggdckjogaaGreatG45
import Derived.Test.YtffbnggdckjogaaGreatG1
import Derived.Maps.OwnSet
import Derived.Maps.Ext
namespace Go.Proofs.YtffbnggdckjogaaGreat.Ex
open Go.RowKit Go.Maps
def rv (v : Value) : Option (DataW Value × List MemPlace) := some (.held v, [])
abbrev NoHit : Value := .agg #[.int .i64 0, .slice none 0 0]
theorem keyLaw : Keyed Tryz.prog 9 := string_keyed Tryz.underlying9
theorem zeroHit (w : World) : (zeroValue 50).run Tryz.prog w = .ok NoHit w := by kernel_rfl
def Grew (w w' : World) (row : Option Nat) : Prop := w.grownBy w' row ∧ ∀ q, row = some q → ∃ es cl, w.heap[q]? = some (.map es cl)
theorem Grew.cell {w w' : World} {row : Option Nat} (g : Grew w w' row) {b o : Nat} {v : Value} (h : w.cell? ⟨b, o, none⟩ = some v) : w'.cell? ⟨b, o, none⟩ = some v := by
  refine g.1.cell h ?_
  intro e
  obtain ⟨es, cl, he⟩ := g.2 b e.symm
  simp [World.cell?, he] at h
theorem Grew.frozen {w w' : World} {row : Option Nat} (g : Grew w w' row) {b o : Nat} {v : Value} (h : w.cell? ⟨b, o, none⟩ = some v) : w'.frozen? ⟨b, o, none⟩ = w.frozen? ⟨b, o, none⟩ := by
  refine World.frozen?_of_block (g.1.block b (World.block_lt_of_cell? w _ h) ?_)
  intro e
  obtain ⟨es, cl, he⟩ := g.2 b e.symm
  simp [World.cell?, he] at h
theorem Grew.has {k : IntKind} {w w' : World} {row : Option Nat} (g : Grew w w' row) {a : Option Addr} {len : Nat} {zs : List Int} (h : Has k w a len zs) : Has k w' a len zs := by
  refine ⟨h.1, h.2.1, ?_⟩
  rcases h.2.2 with h | ⟨b, off, rfl, hlt, hc⟩
  · exact .inl h
  · exact .inr ⟨b, off, rfl, Nat.lt_of_lt_of_le hlt g.1.size, fun i hi => g.cell (hc i hi)⟩
theorem Grew.refl (w : World) : Grew w w none := ⟨World.grownBy.refl _ _, by intro q h; cases h⟩
theorem grew_below {w w' : World} (h : Below w.heap.size w w') : Grew w w' none := ⟨⟨h.os, h.tape, h.output, h.size, fun k hk _ => h.block k hk⟩, by intro q h; cases h⟩
theorem Grew.andThen {w w' w'' : World} {b : Nat} (h : Below w.heap.size w w') (k : w'.grownBy w'' (some b)) : w.grownBy w'' (some b) :=
  ⟨k.os.trans h.os, k.tape.trans h.tape, k.output.trans h.output, Nat.le_trans h.size k.size, fun i hi hne => (k.block i (Nat.lt_of_lt_of_le hi h.size) hne).trans (h.block i hi)⟩
theorem grown_of_below {w w' : World} {b : Nat} (h : Below w.heap.size w w') : w.grownBy w' (some b) :=
  ⟨h.os, h.tape, h.output, h.size, fun i hi _ => h.block i hi⟩
def Says (w : World) (v : Value) (h : Int × List Int) : Prop :=
  ∃ a n c, v = .agg #[.int .i64 h.1, .slice a n c] ∧ (a = none → n = 0 ∧ c = 0) ∧ n ≤ 1000 ∧ Has .u64 w a n h.2
theorem Says.grew {w w' : World} {row : Option Nat} {v : Value} {h : Int × List Int} (s : Says w v h) (g : Grew w w' row) : Says w' v h := by
  obtain ⟨a, n, c, e, hn, hs, hh⟩ := s
  exact ⟨a, n, c, e, hn, hs, g.has hh⟩
theorem says_none (w : World) : Says w NoHit (0, []) := ⟨none, 0, 0, rfl, fun _ => ⟨rfl, rfl⟩, by omega, has_nil _ _⟩
def Holding (w : World) (b : Nat) (C : List UInt8 → Option (Int × List Int)) (n : Nat) (D : DataW Value) : Prop :=
  w.ownsMap Tryz.prog 9 rv b n D ∧ (∀ x, Maps.has D (.string x) = (C x).isSome) ∧ ∀ x h, C x = some h → ∃ v, (∀ z, D.atKey (.string x) z = .held v) ∧ Says w v h
structure Tab (w : World) (p b K M : Nat) (C : List UInt8 → Option (Int × List Int)) (ss : List (List UInt8)) : Prop where
  c0 : w.cell? ⟨p, 0, none⟩ = some (.int .i64 K)
  c1 : w.cell? ⟨p, 1, none⟩ = some (.int .i64 M)
  c2 : w.cell? ⟨p, 2, none⟩ = some (.map (some b))
  nd : ss.Nodup
  mem : ∀ x, x ∈ ss ↔ (C x).isSome = true
  len : ∀ x ∈ ss, x.length = 8 * K
  most : ss.length ≤ M
  map : ∃ D, Holding w b C ss.length D
theorem Holding.size {w : World} {b n : Nat} {C : List UInt8 → Option (Int × List Int)} {D : DataW Value} (h : Holding w b C n D) {ss : List (List UInt8)} (nd : ss.Nodup) (mem : ∀ x, x ∈ ss ↔ (C x).isSome = true) : ss.Perm (strKeys D) ∧ Maps.size D = ss.length := by
  obtain ⟨hown, hh, _⟩ := h
  obtain ⟨es, rfl, hp⟩ := hown.tidy keyLaw
  obtain ⟨es', e, hk⟩ := hown.keysOf
  have e2 : es' = es := by simpa using e.symm
  subst e2
  have hperm := perm_strKeys hp (fun p hp' => by
    obtain ⟨v, hv⟩ := hk p hp'
    obtain ⟨x, _, hx, _⟩ := Maps.keyOf_str Tryz.underlying9 hv
    exact ⟨x, hx⟩) nd (fun x => by rw [mem x, hh x])
  refine ⟨hperm, ?_⟩
  rw [hperm.length_eq]
  simp [Maps.size, strKeys]
theorem owns_tight {w : World} {b n m : Nat} {D : DataW Value} (h : w.ownsMap Tryz.prog 9 rv b n D) (hm : Maps.size D ≤ m) : w.ownsMap Tryz.prog 9 rv b m D := by
  obtain ⟨es, cl, hb, F, _, rfl⟩ := h
  exact ⟨es, cl, hb, F, by simpa [Maps.size, length_sorted] using hm, rfl⟩
theorem Holding.grew {w w' : World} {b n : Nat} {C : List UInt8 → Option (Int × List Int)} {D : DataW Value} {row : Option Nat} (h : Holding w b C n D) (g : Grew w w' row) (hne : some b ≠ row) : Holding w' b C n D := by
  refine ⟨h.1.kept g.1 hne, h.2.1, fun x y hx => ?_⟩
  obtain ⟨v, hv, hs⟩ := h.2.2 x y hx
  exact ⟨v, hv, hs.grew g⟩
theorem Tab.grew {w w' : World} {p b K M : Nat} {C : List UInt8 → Option (Int × List Int)} {ss : List (List UInt8)} {row : Option Nat} (t : Tab w p b K M C ss) (g : Grew w w' row) (hne : some b ≠ row) : Tab w' p b K M C ss := by
  obtain ⟨D, hD⟩ := t.map
  exact ⟨g.cell t.c0, g.cell t.c1, g.cell t.c2, t.nd, t.mem, t.len, t.most, D, hD.grew g hne⟩
theorem Tab.step {w w' : World} {p b K M : Nat} {C : List UInt8 → Option (Int × List Int)} {ss : List (List UInt8)} (t : Tab w p b K M C ss) (h : Below w.heap.size w w') : Tab w' p b K M C ss :=
  t.grew (grew_below h) (by simp)
theorem Tab.isMap {w : World} {p b K M : Nat} {C : List UInt8 → Option (Int × List Int)} {ss : List (List UInt8)} (t : Tab w p b K M C ss) : ∃ es cl, w.heap[b]? = some (.map es cl) := by
  obtain ⟨D, ⟨es, cl, hb, _⟩, _⟩ := t.map
  exact ⟨es, cl, hb⟩
theorem Tab.grew_own {w w' : World} {p b K M : Nat} {C : List UInt8 → Option (Int × List Int)} {ss : List (List UInt8)} (t : Tab w p b K M C ss) (h : w.grownBy w' (some b)) : Grew w w' (some b) :=
  ⟨h, fun q e => by cases e; exact t.isMap⟩
def upd (C : List UInt8 → Option (Int × List Int)) (x : List UInt8) (h : Option (Int × List Int)) : List UInt8 → Option (Int × List Int) := fun y => if y = x then h else C y
theorem str_ne {x y : List UInt8} (h : x ≠ y) : Lit.string x ≠ Lit.string y := fun e => h (by simpa using e)
theorem Holding.put {w w' : World} {b n m : Nat} {C : List UInt8 → Option (Int × List Int)} {D : DataW Value} {x : List UInt8} {v : Value} {h : Int × List Int} (H : Holding w b C n D) (g : Grew w w' (some b))
    (hown : w'.ownsMap Tryz.prog 9 rv b m (D.put (.string x) (.held v))) (hs : Says w v h) : Holding w' b (upd C x (some h)) m (D.put (.string x) (.held v)) := by
  have hM := H.1.isMap
  refine ⟨hown, fun y => ?_, fun y z hy => ?_⟩
  · unfold upd
    by_cases e : y = x
    · subst e; rw [if_pos rfl, Maps.has_put_same hM (show WideAt.IsKeyLit (.string y) from trivial)]; rfl
    · rw [if_neg e, Maps.has_put_other (str_ne e), H.2.1 y]
  · unfold upd at hy
    by_cases e : y = x
    · subst e
      rw [if_pos rfl] at hy
      cases hy
      exact ⟨v, fun z => Maps.atKey_put_same hM (show WideAt.IsKeyLit (.string y) from trivial) _ _, hs.grew g⟩
    · rw [if_neg e] at hy
      obtain ⟨u, hu, hs'⟩ := H.2.2 y z hy
      exact ⟨u, fun z => by rw [Maps.atKey_put_other (str_ne e), hu], hs'.grew g⟩
theorem Holding.del {w w' : World} {b n m : Nat} {C : List UInt8 → Option (Int × List Int)} {D : DataW Value} {x : List UInt8} (H : Holding w b C n D) (g : Grew w w' (some b))
    (hown : w'.ownsMap Tryz.prog 9 rv b m (D.del (.string x))) : Holding w' b (upd C x none) m (D.del (.string x)) := by
  refine ⟨hown, fun y => ?_, fun y z hy => ?_⟩
  · unfold upd
    by_cases e : y = x
    · subst e; rw [if_pos rfl, Maps.has_del_same]; rfl
    · rw [if_neg e, Maps.has_del_other (str_ne e), H.2.1 y]
  · unfold upd at hy
    by_cases e : y = x
    · subst e; rw [if_pos rfl] at hy; cases hy
    · rw [if_neg e] at hy
      obtain ⟨u, hu, hs'⟩ := H.2.2 y z hy
      exact ⟨u, fun z => by rw [Maps.atKey_del_other (str_ne e), hu], hs'.grew g⟩
end Go.Proofs.YtffbnggdckjogaaGreat.Ex
