/- Texts of one chain, joined: SPair. -/
import Derived.Test.YtffbnggdckjogaaGreatG52
import Derived.Test.YtffbnggdckjogaaGreatG41
import Derived.Test.YtffbnggdckjogaaGreatG51
namespace Go.Proofs.YtffbnggdckjogaaGreat
open Go.RowKit Mth
theorem told_at {w : World} {k : FK} {f : FSt} {v : Value} (h : AllIs w k f v) : ∃ a c, v = .slice a (faceLen k f) c ∧ ∀ i x, (tldE k f)[i]? = some x → ∃ g, ∃ d : MD, a = some ⟨g, 0, none⟩ ∧ d.at w g (i * 6) ∧ d.good w x.1 ∧ d.ln = x.2 := by
  unfold tldE faceLen
  rcases h with ⟨e, h⟩ | ⟨e, a, c, ev, h⟩ | ⟨e, a, c, ev, h⟩
  · rw [if_pos e, if_pos e]
    obtain ⟨g, cap, ds, ev, _, hl, hc, hg⟩ := h
    rw [List.length_map, Ex.rising_length] at ev hl
    refine ⟨_, _, ev, fun i x hx => ?_⟩
    rw [List.getElem?_map] at hx
    cases hy : (Ex.rising f.ss)[i]? with
    | none => rw [hy] at hx; cases hx
    | some y =>
      rw [hy] at hx
      cases hx
      have hi : i < ds.length := by
        have := (List.getElem?_eq_some_iff.1 hy).1
        rw [Ex.rising_length] at this
        omega
      have hd : ds[i]? = some ds[i] := List.getElem?_eq_getElem hi
      obtain ⟨g1, g2, g3, g4, g5, g6, g7⟩ := hg i ds[i] (Ex.entOf f.Cx y) hd (by rw [List.getElem?_map, hy]; rfl)
      obtain ⟨c0, c1, c2, c3, c4, c5⟩ := hc i ds[i] hd
      rw [Nat.mul_comm] at c0 c1 c2 c3 c4 c5
      exact ⟨g, ⟨ds[i].ka, ds[i].kn, ds[i].kc, none, 0, 0, 0, 0, ds[i].act, ds[i].a, ds[i].n, ds[i].c⟩, rfl, ⟨c0, c1, c2, c3, c4, c5⟩, ⟨g1, g2, g3, fun _ => ⟨rfl, rfl⟩, Nat.zero_le _, has_nil _ _, rfl, g4, g5, g6, g7⟩, rfl⟩
  · rw [if_neg (by omega), if_pos e, if_neg (by omega), if_pos e]
    refine ⟨a, c, ev, fun i x hx => ?_⟩
    rw [List.getElem?_map] at hx
    cases hy : (pre f.C (wid k.wd + 1) 0 0)[i]? with
    | none => rw [hy] at hx; cases hx
    | some y =>
      rw [hy] at hx
      cases hx
      obtain ⟨g, d, ea, ⟨c0, c1, c2, c3, c4, c5⟩, g1, g2, g3, g4, g5, g6, g7, g8⟩ := h.2 i (entOf f.C (wid k.wd) y) (by unfold allOf; rw [List.getElem?_map, hy]; rfl)
      exact ⟨g, ⟨d.ka, d.kn, d.kc, none, 0, 0, d.ln, 0, d.act, d.a, d.n, d.c⟩, ea, ⟨c0, c1, c2, c3, c4, c5⟩, ⟨g1, g2, g3, fun _ => ⟨rfl, rfl⟩, Nat.zero_le _, has_nil _ _, rfl, g5, g6, g7, g8⟩, g4⟩
  · rw [if_neg (by omega), if_neg (by omega), if_neg (by omega), if_neg (by omega)]
    refine ⟨a, c, ev, fun i x hx => ?_⟩
    rw [List.getElem?_map] at hx
    cases hy : f.T[i]? with
    | none => rw [hy] at hx; cases hx
    | some y =>
      rw [hy] at hx
      cases hx
      obtain ⟨g, d, ea, hat, hg, hl⟩ := h.2 i y hy
      exact ⟨g, d, ea, hat, hg, hl⟩
theorem face_head {w : World} {k : FK} {f : FSt} (h : FaceAt w k f) (hk : k.kind = 2) : ¬ k.Z k.p ∧ k.p < w.heap.size ∧ (∀ j, k.Z j → j < w.heap.size) ∧ ∀ j, j < k.B → k.Z j := by
  rcases h with ⟨e, _⟩ | ⟨_, t, _, _, hB⟩ | ⟨e, _⟩
  · omega
  · obtain ⟨N, tr⟩ := t.tr
    exact ⟨tr.base 0 0 _ tr.root, (tr.node 0 0 _ tr.root).lt, tr.zl, hB⟩
  · omega
theorem own_lt {w w' : World} {k : FK} {f : FSt} (h : FaceAt w k f) (hk : k.kind = 3 → w'.heap[k.p]? = w.heap[k.p]?) {j : Nat} (hj : j < w'.heap.size) (o : Own w' (k.at (zoneN w' k.p)) j) : j < w.heap.size ∧ (Own w (k.at (zoneN w k.p)) j) := by
  rcases h with ⟨e, t, _⟩ | ⟨e, t, _⟩ | ⟨e, t, _⟩
  · rcases o with ⟨_, o⟩ | ⟨e', _⟩ | ⟨e', _⟩
    · obtain ⟨es, cl, hm⟩ := t.isMap
      have := (Array.getElem?_eq_some_iff.1 hm).1
      have o' : j = k.b := o
      exact ⟨by omega, .inl ⟨e, o⟩⟩
    · change k.kind = 2 at e'; omega
    · change k.kind = 3 at e'; omega
  · rcases o with ⟨e', _⟩ | ⟨_, o⟩ | ⟨e', _⟩
    · change k.kind = 1 at e'; omega
    · obtain ⟨N, tr⟩ := t.tr
      have hp : k.p < w.heap.size := (tr.node 0 0 _ tr.root).lt
      have ej : j = k.p := Classical.byContradiction fun hn => o ⟨hj, hn⟩
      exact ⟨by omega, .inr (.inl ⟨e, fun h => h.2 ej⟩)⟩
    · change k.kind = 3 at e'; omega
  · rcases o with ⟨e', _⟩ | ⟨e', _⟩ | ⟨_, o⟩
    · change k.kind = 1 at e'; omega
    · change k.kind = 2 at e'; omega
    have o2 := (two_stay (hk e) j).1 o
    exact ⟨t.two_lt o2, .inr (.inr ⟨e, o2⟩)⟩
theorem StAt.rezone {w w' : World} {s : Nat} {k : FK} {f : FSt} {ws : List Int} {Ms : List (Int × List Int)} {h : HitM} {N : Nat} {X : Nat → Prop} (t : StAt w s k f ws Ms h N X) (hb : Below w.heap.size w w') (hz : k.kind = 2 → ∀ j, j < w.heap.size → j ≠ k.p → k.Z j) : StAt w' s (k.at (zoneN w' k.p)) f ws Ms h N X := by
  have t' := t.step hb
  refine ⟨t'.sx, t'.ty, t'.c0, t'.c1, t'.c2, t'.c3, t'.c4, ?_, t'.few, t'.one, fun j hj o => ?_, t'.low⟩
  · rcases t.face with ⟨e, x, r⟩ | ⟨e, x, h1, h2, h3⟩ | ⟨e, x, r⟩
    · exact .inl ⟨e, x.step hb, r⟩
    · have hp := (face_head t.face e).1
      have hs := t.face.small
      refine .inr (.inl ⟨e, x.beside (moved_below hb) (fun j hj _ => hb.block j hj) (fun j hj => ⟨hj.1, fun hw => hz e j hw hj.2⟩), h1, h2, fun j hj => ⟨by have := hb.size; change j < k.B at hj; omega, fun ej => hp (ej ▸ h3 j hj)⟩⟩)
    · exact .inr (.inr ⟨e, x.step hb, r⟩)
  · rcases o with ⟨e, o⟩ | ⟨e, o⟩ | ⟨e, o⟩
    · exact t.inv j hj (.inl ⟨e, o⟩)
    · have hl := t.low
      have hp := (face_head t.face e).1
      have ej : j = k.p := Classical.byContradiction fun hn => o ⟨by have := hb.size; omega, hn⟩
      exact t.inv j hj (.inr (.inl ⟨e, ej ▸ hp⟩))
    · exact t.inv j hj (.inr (.inr ⟨e, (two_stay (hb.block _ (t.face.head e)) j).1 o⟩))
structure PairAt (w : World) (s u : Nat) (k ku : FK) (ws : List Int) (Ms : List (Int × List Int)) (h : HitM) (N Nu : Nat) (X Xu : Nat → Prop) : Prop where
  ss : StAt w s k FSt.none ws Ms h N X
  uu : StAt w u ku FSt.none ws Ms h Nu Xu
  al : Alike k ku
  o1 : ∀ j, j < w.heap.size → Own w k j → j < ku.B
  nb : N ≤ ku.B
  xu : ∀ j, j < ku.B → Xu j
  zu : ku.kind = 2 → ∀ j, j < w.heap.size → j ≠ ku.p → ku.Z j
theorem alike_new {t : TabD} {wl : List Int} {k ku : FK} (n : NewFace t wl k.B k) (nu : NewFace t wl ku.B ku) : Alike k ku := by
  refine ⟨nu.kind.trans n.kind.symm, fun e => ?_, fun e => ?_, fun e => ?_⟩
  · have e' : t.kind = 1 := n.kind.symm.trans e
    obtain ⟨a, b⟩ := n.K e'
    obtain ⟨c, d⟩ := nu.K e'
    exact ⟨c.trans a.symm, by omega⟩
  · have e' : t.kind = 2 := n.kind.symm.trans e
    obtain ⟨a, b⟩ := n.wd e'
    obtain ⟨c, d⟩ := nu.wd e'
    exact ⟨c.trans a.symm, d.trans b.symm⟩
  · have e' : t.kind = 3 := n.kind.symm.trans e
    obtain ⟨a, b⟩ := n.keys e'
    obtain ⟨c, d⟩ := nu.keys e'
    exact ⟨c.trans a.symm, d.trans b.symm⟩
theorem pair_new {w5 w6 w7 w8 : World} {t : TabD} {s u : Nat} {k ku : FK} {ws : List Int} {Ms : List (Int × List Int)} {h : HitM} {N Nu : Nat} {X Xu : Nat → Prop} (st : StAt w5 s k FSt.none ws Ms h N X) (hN : N = w5.heap.size) (hZ : k.Z = zoneN w5 k.p) (n : NewFace t ws k.B k) (h56 : Below w5.heap.size w5 w6)
    (su : StAt w7 u ku FSt.none ws Ms h Nu Xu) (hZu : ku.Z = zoneN w7 ku.p) (nu : NewFace t ws ku.B ku) (hB : w6.heap.size ≤ ku.B) (hxu : ∀ j, j < ku.B → Xu j) (h67 : Below w6.heap.size w6 w7) (h78 : Below w7.heap.size w7 w8) :
    PairAt w8 s u (k.at (zoneN w8 k.p)) (ku.at (zoneN w8 ku.p)) ws Ms h N Nu X Xu := by
  have h58 : Below w5.heap.size w5 w8 := bl_step (bl_step h56 h67) h78
  have z56 := h56.size
  have al := alike_new n nu
  refine ⟨st.rezone h58 (fun _ j h1 h2 => by rw [hZ]; exact ⟨h1, h2⟩), su.rezone h78 (fun _ j h1 h2 => by rw [hZu]; exact ⟨h1, h2⟩), ⟨al.kind, al.K, al.wd, al.keys⟩, fun j hj o => ?_, ?_, hxu, fun _ j h1 h2 => ⟨h1, h2⟩⟩
  · have := (own_lt st.face (fun e => h58.block _ (st.face.head e)) hj o).1
    show j < ku.B
    omega
  · show N ≤ ku.B
    omega
theorem PairAt.turned {w w9 w10 : World} {s u : Nat} {k ku : FK} {ws : List Int} {Ms : List (Int × List Int)} {h : HitM} {N Nu : Nat} {X Xu : Nat → Prop} {f : FSt} (P : PairAt w s u k ku ws Ms h N Nu X Xu) (t : StAt w9 s k f ws Ms h N X) (fk : FKeep w w9 k) (b0 : Below 0 w w9) (hb : Below w9.heap.size w9 w10) :
    StAt w10 u (ku.at (zoneN w10 ku.p)) FSt.none ws Ms h Nu Xu ∧ ∀ j, j < w10.heap.size → Own w10 (ku.at (zoneN w10 ku.p)) j → j < w9.heap.size ∧ ¬ Own w10 k j ∧ (X j ∨ N ≤ j) := by
  have fk10 : FKeep w w10 k := fk.trans (fkeep_below hb t.face.head)
  have ek := P.al.kind
  have hn : ∀ j, j < w.heap.size → ku.B ≤ j → ¬ Own w k j := fun j hj hB o => by have := P.o1 j hj o; omega
  have hsz := fk10.1
  refine ⟨P.uu.beside P.ss.face ek.symm fk10 (b0.trans (hb.mono (Nat.zero_le _))) (fun j hj o => ⟨fun o2 => hn j hj (fown_from P.uu.face o2) o, .inl (P.xu j (P.o1 j hj o))⟩) _ (fun e j hj => ⟨hj.1, fun hw => P.zu e j hw hj.2⟩) ?_ (fun e j hj hz => ?_), fun j hj o => ?_⟩
  · intro e j hj
    have hs := P.uu.face.small
    have hh := face_head P.uu.face e
    exact ⟨by omega, fun ej => hh.1 (ej ▸ hh.2.2.2 j hj)⟩
  · have hl := P.uu.low
    have ej : j = ku.p := Classical.byContradiction fun hne => hz ⟨by omega, hne⟩
    exact P.uu.inv j hj (.inr (.inl ⟨e, ej ▸ (face_head P.uu.face e).1⟩))
  · have hpB : ku.kind = 3 → ku.B ≤ ku.p := fun e => fown_from P.uu.face (.inr (.inr ⟨e, .inl rfl⟩))
    obtain ⟨hjw, o1⟩ := own_lt P.uu.face (fun e => fk10.2.1 _ (P.uu.face.head e) (hn _ (P.uu.face.head e) (hpB e))) hj o
    have hjB : ku.B ≤ j := by
      refine fown_from P.uu.face ?_
      rcases o1 with o1 | ⟨e, o1⟩ | o1
      · exact .inl o1
      · refine .inr (.inl ⟨e, fun hz => ?_⟩)
        have ej : j = ku.p := Classical.byContradiction fun hne => o1 ⟨hjw, hne⟩
        exact (face_head P.uu.face e).1 (ej ▸ hz)
      · exact .inr (.inr o1)
    refine ⟨by have := fk.1; omega, fun o2 => ?_, .inr (by have := P.nb; omega)⟩
    rcases fk10.2.2.1 j o2 with o3 | o3
    · exact hn j hjw hjB o3
    · omega
theorem StAt.stay {w10 w' : World} {s B : Nat} {k ku : FK} {ws : List Int} {Ms : List (Int × List Int)} {h : HitM} {N : Nat} {X : Nat → Prop} {f fu : FSt} {v : Value} (t : StAt w10 s k f ws Ms h N X) (hu : FaceAt w10 ku fu) (ek : ku.kind = k.kind) (ow : ∀ j, j < w10.heap.size → Own w10 ku j → j < B ∧ ¬ Own w10 k j ∧ (X j ∨ N ≤ j)) (fk : FKeep w10 w' ku) (b0 : Below 0 w10 w') (hall : AllIs w10 k f v) (hnew : AllNew w10 B k f v) :
    StAt w' s k f ws Ms h N X ∧ AllIs w' k f v := by
  refine ⟨t.beside hu ek fk b0 (fun j hj o => (ow j hj o).2) k.Z (fun e j hj => ⟨Nat.lt_of_lt_of_le ((face_head t.face e).2.2.1 j hj) fk.1, fun _ => hj⟩) ?_ (fun e j hj hz => t.inv j hj (.inr (.inl ⟨e, hz⟩))), (hall.beside hnew hu ek fk b0 (fun j o => ?_)).1⟩
  · exact fun e j hj => (face_head t.face e).2.2.2 j hj
  · rcases Nat.lt_or_ge j w10.heap.size with hj | hj
    · exact .inl (ow j hj o).1
    · exact .inr hj
end Go.Proofs.YtffbnggdckjogaaGreat
