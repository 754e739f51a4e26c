/- Texts of one chain, joined: SBeside. -/
import Derived.Test.YtffbnggdckjogaaGreatG36
import Derived.Test.YtffbnggdckjogaaGreatG34
namespace Go.Proofs.YtffbnggdckjogaaGreat
open Go.RowKit Mth
@[reducible] def FK.at (k : FK) (Z : Nat → Prop) : FK := ⟨k.kind, k.B, k.p, k.b, k.K, k.M, k.wd, k.keys, k.most, Z⟩
theorem Trie.beside {w w' : World} {Z Z' : Nat → Prop} {p W : Nat} {N : Ways} {C : Told2} (t : Trie w Z p W N C) (m : Moved w w') (hs : ∀ j, j < w.heap.size → ¬ Z j → w'.heap[j]? = w.heap[j]?) (hz : ∀ j, Z' j → j < w'.heap.size ∧ (j < w.heap.size → Z j)) : Trie w' Z' p W N C :=
  ⟨t.root, t.rng, t.inj, fun n v a ha => (t.node n v a ha).keep (hs _ (t.node n v a ha).lt (t.base n v a ha)) m, t.up, t.cn, fun n v a ha h => t.base n v a ha ((hz _ h).2 (t.node n v a ha).lt), fun j hj => (hz j hj).1⟩
theorem Tab.beside {w w' : World} {Z Z' : Nat → Prop} {p : Nat} {wd most : Int} {C : Told2} {es : List (Nat × Nat)} (t : Tab w Z p wd most C es) (m : Moved w w') (hs : ∀ j, j < w.heap.size → ¬ Z j → w'.heap[j]? = w.heap[j]?) (hz : ∀ j, Z' j → j < w'.heap.size ∧ (j < w.heap.size → Z j)) : Tab w' Z' p wd most C es := by
  obtain ⟨N, tr⟩ := t.tr
  have hp := hs p (tr.node 0 0 _ tr.root).lt (tr.base 0 0 _ tr.root)
  have cs : ∀ i, w'.cell? ⟨p, i, none⟩ = w.cell? ⟨p, i, none⟩ := fun i => World.cell?_of_block (w := w) (w' := w') (a := ⟨p, i, none⟩) hp
  exact ⟨⟨(cs 0).trans t.hd.c0, (cs 1).trans t.hd.c1, (cs 2).trans t.hd.c2, (World.frozen?_of_block (w := w) (w' := w') (a := ⟨p, 2, none⟩) hp).trans t.hd.f2⟩, t.nd, t.mem, t.emp, N, tr.beside m hs hz⟩
theorem own_num {w : World} {k : FK} {f : FSt} (h : FaceAt w k f) (hk : k.kind = 3) (j : Nat) (x : Int) (o : Own w k j) : w.cell? ⟨j, 0, none⟩ ≠ some (.int .u64 x) := by
  rcases h with ⟨e, _⟩ | ⟨e, _⟩ | ⟨_, t, _⟩
  · omega
  · omega
  rcases o with ⟨e, _⟩ | ⟨e, _⟩ | ⟨_, o⟩
  · omega
  · omega
  exact t.num j x o
theorem FaceAt.beside {w w' : World} {k k' : FK} {f f' : FSt} (h : FaceAt w k f) (h' : FaceAt w k' f') (ek : k'.kind = k.kind) (fk : FKeep w w' k') (b0 : Below 0 w w') (ap : ∀ j, j < w.heap.size → Own w k' j → ¬ Own w k j) (Z' : Nat → Prop) (hz : k.kind = 2 → ∀ j, Z' j → j < w'.heap.size ∧ (j < w.heap.size → k.Z j)) (hB : k.kind = 2 → ∀ j, j < k.B → Z' j) : FaceAt w' (k.at Z') f := by
  rcases h with ⟨e, t, h1, h2, h3⟩ | ⟨e, t, h1, h2, _⟩ | ⟨e, t, h1, h2⟩
  · rcases h' with ⟨_, t', _⟩ | ⟨e', _⟩ | ⟨e', _⟩
    · refine .inl ⟨e, ?_, h1, h2, h3⟩
      obtain ⟨es, cl, hm⟩ := t'.isMap
      have hb' := (Array.getElem?_eq_some_iff.1 hm).1
      refine t.grew (row := some k'.b) ⟨⟨b0.os, b0.tape, b0.output, b0.size, fun j hj hn => fk.2.1 j hj (fun o => ?_)⟩, fun q hq => ?_⟩ (fun eb => ap k'.b hb' (.inl ⟨by omega, rfl⟩) (.inl ⟨e, (Option.some.inj eb).symm⟩))
      · rcases o with ⟨_, o⟩ | ⟨e', _⟩ | ⟨e', _⟩
        · exact hn (by rw [o])
        · omega
        · omega
      · cases hq; exact ⟨es, cl, hm⟩
    · omega
    · omega
  · refine .inr (.inl ⟨e, ?_, h1, h2, hB e⟩)
    refine t.beside (fk.2.2.2 (by omega)) (fun j hj hn => fk.2.1 j hj (fun o => ap j hj o (.inr (.inl ⟨e, hn⟩)))) (hz e)
  · have hk3 : k'.kind = 3 := by omega
    have hp := World.block_lt_of_cell? w _ t.c0
    have keep : ∀ j, j < w.heap.size → Two w k.p 2 j → w'.heap[j]? = w.heap[j]? := fun j hj hx => fk.2.1 j hj (fun o => ap j hj o (.inr (.inr ⟨e, hx⟩)))
    have hpp := keep k.p hp (.inl rfl)
    have cs : ∀ i, w'.cell? ⟨k.p, i, none⟩ = w.cell? ⟨k.p, i, none⟩ := fun i => World.cell?_of_block (w := w) (w' := w') (a := ⟨k.p, i, none⟩) hpp
    obtain ⟨la, cap, h4, hrow⟩ := t.lst
    refine .inr (.inr ⟨e, ⟨(cs 0).trans t.c0, (cs 1).trans t.c1, (World.frozen?_of_block (w := w) (w' := w') (a := ⟨k.p, 2, none⟩) hpp).trans t.f2, t.base, ⟨la, cap, (cs 2).trans h4, ?_⟩, t.ok⟩, h1, h2⟩)
    refine hrow.keep (fun g eg => ?_) (fun a m zs fr hh => has_kept (X := Own w k') fk.1 (fun j hj hx => fk.2.1 j hj hx) (own_num h' hk3) fr hh)
    exact keep g (hrow.lt g eg).2 (.inr ⟨_, _, by rw [h4, eg]⟩)
theorem StAt.beside {w w' : World} {s : Nat} {k k' : FK} {f f' : FSt} {ws : List Int} {Ms : List (Int × List Int)} {h : HitM} {N : Nat} {X : Nat → Prop} (t : StAt w s k f ws Ms h N X) (h' : FaceAt w k' f') (ek : k'.kind = k.kind) (fk : FKeep w w' k') (b0 : Below 0 w w') (ap : ∀ j, j < w.heap.size → Own w k' j → ¬ Own w k j ∧ (X j ∨ N ≤ j)) (Z' : Nat → Prop) (hz : k.kind = 2 → ∀ j, Z' j → j < w'.heap.size ∧ (j < w.heap.size → k.Z j)) (hB : k.kind = 2 → ∀ j, j < k.B → Z' j) (hX : k.kind = 2 → ∀ j, j < N → ¬ Z' j → X j) : StAt w' s (k.at Z') f ws Ms h N X := by
  have blk : ∀ j, j < w.heap.size → ¬ X j → j < N → w'.heap[j]? = w.heap[j]? := fun j hj hx hn => fk.2.1 j hj (fun o => by
    rcases (ap j hj o).2 with h | h
    · exact hx h
    · omega)
  have mb : Below (mask (fun j => X j ∨ N ≤ j ∨ j = s) (fun _ => Classical.propDecidable _) w).heap.size (mask (fun j => X j ∨ N ≤ j ∨ j = s) (fun _ => Classical.propDecidable _) w) (mask (fun j => X j ∨ N ≤ j ∨ j = s) (fun _ => Classical.propDecidable _) w') := mask_below b0.os b0.tape b0.output fk.1 (fun _ h => h) (fun j hj hn => ⟨hn, blk j hj (fun hx => hn (.inl hx)) (by rcases Nat.lt_or_ge j N with h | h; exact h; exact absurd (.inr (.inl h)) hn)⟩)
  have hf := t.face.beside h' ek fk b0 (fun j hj o => (ap j hj o).1) Z' hz hB
  have r := t.keep (w' := w') (f' := f) (blk s (Nat.lt_of_lt_of_le t.sx.2 t.low) t.sx.1 t.sx.2) mb
  have hs := blk s (Nat.lt_of_lt_of_le t.sx.2 t.low) t.sx.1 t.sx.2
  have ce : ∀ o, w'.cell? ⟨s, o, none⟩ = w.cell? ⟨s, o, none⟩ := fun o => World.cell?_of_block (w := w) (w' := w') (a := ⟨s, o, none⟩) hs
  obtain ⟨wa, wn, wc, h1, h2⟩ := t.c2
  obtain ⟨ma, mn, mc, h3, h4⟩ := t.c3
  obtain ⟨a, n, c, h5, h6, h7⟩ := t.c4
  obtain ⟨cs, ht⟩ := t.ty
  refine ⟨t.sx, ⟨cs, hs.trans ht⟩, (ce 0).trans t.c0, (ce 1).trans t.c1, ⟨wa, wn, wc, (ce 2).trans h1, h2.step mb⟩, ⟨ma, mn, mc, (ce 3).trans h3, h4.step mb⟩, ⟨a, n, c, (ce 4).trans h5, (ce 5).trans h6, h7.moved (moved_below mb)⟩, hf, t.few, t.one, fun j hj o => ?_, Nat.le_trans t.low fk.1⟩
  rcases o with ⟨e, o⟩ | ⟨e, o⟩ | ⟨e, o⟩
  · exact t.inv j hj (.inl ⟨e, o⟩)
  · exact hX e j hj o
  · refine t.inv j hj (.inr (.inr ⟨e, ?_⟩))
    have hp := t.face.head e
    have hpp := fk.2.1 k.p hp (fun o => (ap k.p hp o).1 (.inr (.inr ⟨e, .inl rfl⟩)))
    exact (two_stay hpp j).1 o
theorem AllIs.beside {w w' : World} {B : Nat} {k k' : FK} {f f' : FSt} {v : Value} (h : AllIs w k f v) (hn : AllNew w B k f v) (h' : FaceAt w k' f') (ek : k'.kind = k.kind) (fk : FKeep w w' k') (b0 : Below 0 w w') (ap : ∀ j, Own w k' j → j < B ∨ w.heap.size ≤ j) : AllIs w' k f v ∧ AllNew w' B k f v := by
  rcases h with ⟨e, h⟩ | ⟨e, a, c, ev, h⟩ | ⟨e, _⟩
  · refine ⟨.inl ⟨e, ?_⟩, fun e' => by omega⟩
    rcases h' with ⟨_, t', _⟩ | ⟨e', _⟩ | ⟨e', _⟩
    · obtain ⟨es, cl, hm⟩ := t'.isMap
      refine h.grew (row := some k'.b) ⟨⟨b0.os, b0.tape, b0.output, b0.size, fun j hj hq => fk.2.1 j hj (fun o => ?_)⟩, fun q hq => by cases hq; exact ⟨es, cl, hm⟩⟩
      rcases o with ⟨_, o⟩ | ⟨e', _⟩ | ⟨e', _⟩
      · exact hq (by rw [o])
      · omega
      · omega
    · omega
    · omega
  · exact ⟨.inr (.inl ⟨e, a, c, ev, h.moved (fk.2.2.2 (by omega))⟩), fun e' => by omega⟩
  · obtain ⟨a, c, ev, hl, hE⟩ := hn e
    have hN : MEntsN w' B a f.T.length f.T := ⟨hl, fun i x hx => by
      obtain ⟨g, d, ea, hg, hat, hgd, h0, hnew⟩ := hE i x hx
      have hgl : g < w.heap.size := World.block_lt_of_cell? _ _ hat.c0
      have hgg := fk.2.1 g hgl (fun o => by rcases ap g o with h | h <;> omega)
      have cs : ∀ i, w'.cell? ⟨g, i, none⟩ = w.cell? ⟨g, i, none⟩ := fun i => World.cell?_of_block (w := w) (w' := w') (a := ⟨g, i, none⟩) hgg
      exact ⟨g, d, ea, hg, ⟨(cs _).trans hat.c0, (cs _).trans hat.c1, (cs _).trans hat.c2, (cs _).trans hat.c3, (cs _).trans hat.c4, (cs _).trans hat.c5⟩, hgd.keep (hnew.mono (Nat.zero_le _)) (fun a m zs fr hh => has_kept (X := Own w k') fk.1 (fun j hj hx => fk.2.1 j hj hx) (own_num h' (by omega)) fr hh), h0, hnew⟩⟩
    exact ⟨.inr (.inr ⟨e, a, c, ev, hN.ents⟩), fun _ => ⟨a, c, ev, hN⟩⟩
end Go.Proofs.YtffbnggdckjogaaGreat
