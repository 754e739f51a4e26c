/- Two tables by masks side by side: what turns the one leaves the other. -/
import Derived.Test.YtlnkfgdepddmlacMLen
namespace Go.Proofs.Ytlnkfgdepddmlac
open Go.RowKit Mth

/-- numbers stay where only blocks have turned that hold none -/
theorem has_kept {w w' : World} {X : Nat → Prop} (hs : w.heap.size ≤ w'.heap.size) (hk : ∀ k, k < w.heap.size → ¬ X k → w'.heap[k]? = w.heap[k]?) (hX : ∀ k x, X k → w.cell? ⟨k, 0, none⟩ ≠ some (.int .u64 x)) {a : Option Addr} {m : Nat} {zs : List Int} (f : From 0 a m) (h : Has .u64 w a m zs) : Has .u64 w' a m zs := by
  refine ⟨h.1, h.2.1, ?_⟩
  by_cases h0 : 0 < m
  · obtain ⟨b, off, rfl, hlt, hc⟩ := h.some h0
    obtain ⟨b', off', e, _, hz⟩ := f h0
    simp only [Option.some.injEq, Addr.mk.injEq, and_true] at e
    obtain ⟨rfl, rfl⟩ := e
    subst hz
    have h00 := hc 0 h0
    rw [Nat.zero_add] at h00
    have hblk := hk b hlt (fun hx => hX b _ hx h00)
    exact .inr ⟨b, 0, rfl, Nat.lt_of_lt_of_le hlt hs, fun i hi => (World.cell?_of_block (w := w) (w' := w') (a := ⟨b, 0 + i, none⟩) hblk).trans (hc i hi)⟩
  · exact .inl (List.eq_nil_of_length_eq_zero (by have := h.1; omega))

/-- the head's block and the list's -/
def Two (w : World) (p o k : Nat) : Prop := k = p ∨ ∃ n c, w.cell? ⟨p, o, none⟩ = some (.slice (some ⟨k, 0, none⟩) n c)

theorem Fr.two {w w' : World} {p o : Nat} (h : Fr w w' p o) {k : Nat} (hk : k < w.heap.size) (h2 : ¬ Two w p o k) : w'.heap[k]? = w.heap[k]? :=
  h.kept k hk (fun e => h2 (.inl e)) (fun g n c hg e => h2 (.inr ⟨n, c, by rw [e]; exact hg⟩))

theorem MTab.two {w : World} {B p : Nat} {keys most : Int} {T : List TE} (t : MTab w B p keys most T) {k : Nat} (h : Two w p 2 k) : (k = p ∧ w.cell? ⟨k, 0, none⟩ = some (.int .i64 keys)) ∨ (∃ a m c, w.cell? ⟨k, 0, none⟩ = some (.slice a m c)) := by
  rcases h with rfl | ⟨n, c, h⟩
  · exact .inl ⟨rfl, t.c0⟩
  · obtain ⟨la, cap, h2, hr⟩ := t.lst
    rw [h2] at h
    simp only [Option.some.injEq, Value.slice.injEq] at h
    exact .inr (hr.2 k h.1)

theorem KRws.two {w : World} {B r : Nat} {keys most : Int} {E : List TE} (t : KRws w B r keys most E) {k : Nat} (h : Two w r 4 k) : (k = r ∧ w.cell? ⟨k, 0, none⟩ = some (.int .i64 3)) ∨ (∃ a m c, w.cell? ⟨k, 0, none⟩ = some (.slice a m c)) := by
  rcases h with rfl | ⟨n, c, h⟩
  · exact .inl ⟨rfl, t.hd.c0⟩
  · obtain ⟨la, cap, h2, hr⟩ := t.lst
    rw [h2] at h
    simp only [Option.some.injEq, Value.slice.injEq] at h
    exact .inr (hr.2 k h.1)

theorem MTab.two_lt {w : World} {B p : Nat} {keys most : Int} {T : List TE} (t : MTab w B p keys most T) {k : Nat} (h : Two w p 2 k) : k < w.heap.size := by
  rcases t.two h with ⟨_, h⟩ | ⟨_, _, _, h⟩ <;> exact World.block_lt_of_cell? w _ h

theorem KRws.two_lt {w : World} {B r : Nat} {keys most : Int} {E : List TE} (t : KRws w B r keys most E) {k : Nat} (h : Two w r 4 k) : k < w.heap.size := by
  rcases t.two h with ⟨_, h⟩ | ⟨_, _, _, h⟩ <;> exact World.block_lt_of_cell? w _ h

theorem MTab.num {w : World} {B p : Nat} {keys most : Int} {T : List TE} (t : MTab w B p keys most T) (k : Nat) (x : Int) (h : Two w p 2 k) : w.cell? ⟨k, 0, none⟩ ≠ some (.int .u64 x) := by
  rcases t.two h with ⟨_, h⟩ | ⟨_, _, _, h⟩ <;> rw [h] <;> simp

theorem KRws.num {w : World} {B r : Nat} {keys most : Int} {E : List TE} (t : KRws w B r keys most E) (k : Nat) (x : Int) (h : Two w r 4 k) : w.cell? ⟨k, 0, none⟩ ≠ some (.int .u64 x) := by
  rcases t.two h with ⟨_, h⟩ | ⟨_, _, _, h⟩ <;> rw [h] <;> simp

/-- both tables have nothing in common -/
def Apart (w : World) (p r : Nat) : Prop := ∀ k, Two w p 2 k → ¬ Two w r 4 k

theorem two_stay {w w' : World} {p o : Nat} (h : w'.heap[p]? = w.heap[p]?) (k : Nat) : Two w' p o k ↔ Two w p o k := by
  unfold Two
  rw [World.cell?_of_block (w := w) (w' := w') (a := ⟨p, o, none⟩) h]

theorem Fr.more {w w' : World} {p o : Nat} (h : Fr w w' p o) {k : Nat} (h2 : Two w' p o k) : Two w p o k ∨ w.heap.size ≤ k := by
  rcases h2 with h2 | ⟨n, c, h2⟩
  · exact .inl (.inl h2)
  · rcases h.new k n c h2 with ⟨n', c', h3⟩ | h3
    · exact .inl (.inr ⟨n', c', h3⟩)
    · exact .inr h3

theorem krws_beside {w w' : World} {B p r : Nat} {keys most : Int} {T E : List TE} (t : MTab w B p keys most T) (s : KRws w B r keys most E) (hA : Apart w p r) (hf : Fr w w' p 2) : KRws w' B r keys most E ∧ Apart w' p r := by
  have hr := World.block_lt_of_cell? w _ s.hd.c0
  have hrr : w'.heap[r]? = w.heap[r]? := hf.two hr (fun h => hA r h (.inl rfl))
  have cs : ∀ i, w'.cell? ⟨r, i, none⟩ = w.cell? ⟨r, i, none⟩ := fun i => World.cell?_of_block (w := w) (w' := w') (a := ⟨r, i, none⟩) hrr
  obtain ⟨la, cap, h4, hrow⟩ := s.lst
  refine ⟨⟨⟨(cs 0).trans s.hd.c0, (cs 1).trans s.hd.c1, (cs 2).trans s.hd.c2, (cs 3).trans s.hd.c3⟩, (World.frozen?_of_block (w := w) (w' := w') (a := ⟨r, 4, none⟩) hrr).trans s.f4, s.base, ⟨la, cap, (cs 4).trans h4, ?_⟩, s.good⟩, fun k h1 h2 => ?_⟩
  · refine hrow.keep (fun g e => ?_) (fun a m zs f h => has_kept hf.size (fun _ hk hx => hf.two hk hx) t.num f h)
    refine hf.two (hrow.lt g e).2 (fun h => hA g h (.inr ⟨_, _, by rw [h4, e]⟩))
  · rw [two_stay hrr] at h2
    rcases hf.more h1 with h | h
    · exact hA k h h2
    · have := s.two_lt h2; omega

theorem mtab_beside {w w' : World} {B p r : Nat} {keys most : Int} {T E : List TE} (t : MTab w B p keys most T) (s : KRws w B r keys most E) (hA : Apart w p r) (hf : Fr w w' r 4) : MTab w' B p keys most T ∧ Apart w' p r := by
  have hp := World.block_lt_of_cell? w _ t.c0
  have hpp : w'.heap[p]? = w.heap[p]? := hf.two hp (fun h => hA p (.inl rfl) h)
  have cs : ∀ i, w'.cell? ⟨p, i, none⟩ = w.cell? ⟨p, i, none⟩ := fun i => World.cell?_of_block (w := w) (w' := w') (a := ⟨p, i, none⟩) hpp
  obtain ⟨la, cap, h2, hrow⟩ := t.lst
  refine ⟨⟨(cs 0).trans t.c0, (cs 1).trans t.c1, (World.frozen?_of_block (w := w) (w' := w') (a := ⟨p, 2, none⟩) hpp).trans t.f2, t.base, ⟨la, cap, (cs 2).trans h2, ?_⟩, t.ok⟩, fun k h1 h3 => ?_⟩
  · refine hrow.keep (fun g e => ?_) (fun a m zs f h => has_kept hf.size (fun _ hk hx => hf.two hk hx) s.num f h)
    refine hf.two (hrow.lt g e).2 (fun h => hA g (.inr ⟨_, _, by rw [h2, e]⟩) h)
  · rw [two_stay hpp] at h1
    rcases hf.more h3 with h | h
    · exact hA k h1 h
    · have := t.two_lt h1; omega

theorem Apart.step {w w' : World} {B p r : Nat} {keys most : Int} {T E : List TE} (h : Apart w p r) (t : MTab w B p keys most T) (s : KRws w B r keys most E) (hb : Below w.heap.size w w') : Apart w' p r := by
  have hp := World.block_lt_of_cell? w _ t.c0
  have hr := World.block_lt_of_cell? w _ s.hd.c0
  intro k h1 h2
  rw [two_stay (hb.block p hp)] at h1
  rw [two_stay (hb.block r hr)] at h2
  exact h k h1 h2

/-- an entry that lies in other blocks stays -/
theorem good_kept {w w' : World} {p o : Nat} {d : MD} {e : TE} (hf : Fr w w' p o) (hX : ∀ k x, Two w p o k → w.cell? ⟨k, 0, none⟩ ≠ some (.int .u64 x)) (h : d.good w e) (hn : d.new 0) : d.good w' e :=
  h.keep hn (fun _ _ _ f h => has_kept hf.size (fun _ hk hx => hf.two hk hx) hX f h)
end Go.Proofs.Ytlnkfgdepddmlac
