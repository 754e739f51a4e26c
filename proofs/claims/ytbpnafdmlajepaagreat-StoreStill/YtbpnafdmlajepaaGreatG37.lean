/- Texts of one chain, joined: SKeep, SDef. -/
import Derived.Test.YtbpnafdmlajepaaGreatG36
namespace Go.Proofs.YtbpnafdmlajepaaGreat
open Go.RowKit Mth
structure Sw (w w' : World) (s : Nat) : Prop where
  size : w'.heap.size = w.heap.size
  block : ∀ j, j ≠ s → w'.heap[j]? = w.heap[j]?
  cell : ∀ o, o ≠ 4 → o ≠ 5 → w'.cell? ⟨s, o, none⟩ = w.cell? ⟨s, o, none⟩
  c0 : ∃ T v, w.cell? ⟨s, 0, none⟩ = some (.iface T v)
  c4 : ∃ x, w.cell? ⟨s, 4, none⟩ = some (.int .i64 x)
  c5 : ∃ a n c, w.cell? ⟨s, 5, none⟩ = some (.slice a n c)
  gr : w.grownBy w' (some s)
theorem Sw.set {w : World} {s : Nat} {T : TypeId} {v : Value} {x : Int} {a : Option Addr} {n c : Nat} (h0 : w.cell? ⟨s, 0, none⟩ = some (.iface T v)) (h4 : w.cell? ⟨s, 4, none⟩ = some (.int .i64 x)) (h5 : w.cell? ⟨s, 5, none⟩ = some (.slice a n c)) (v4 v5 : Value) : Sw w ((w.setCell ⟨s, 4, none⟩ v4).setCell ⟨s, 5, none⟩ v5) s := by
  have hb : ∀ j, j ≠ s → ((w.setCell ⟨s, 4, none⟩ v4).setCell ⟨s, 5, none⟩ v5).heap[j]? = w.heap[j]? := fun j hj => (Below.heap_setCell _ _ _ _ hj).trans (Below.heap_setCell _ _ _ _ hj)
  have hs : ((w.setCell ⟨s, 4, none⟩ v4).setCell ⟨s, 5, none⟩ v5).heap.size = w.heap.size := by simp [World.setCell]
  exact ⟨hs, hb, fun o h4 h5 => (World.cell?_setCell_other _ _ _ _ (by simp only [ne_eq, Addr.mk.injEq]; omega)).trans (World.cell?_setCell_other _ _ _ _ (by simp only [ne_eq, Addr.mk.injEq]; omega)), ⟨_, _, h0⟩, ⟨_, h4⟩, ⟨_, _, _, h5⟩, ⟨rfl, rfl, rfl, Nat.le_of_eq hs.symm, fun k _ hk => hb k (fun e => hk (by rw [e]))⟩⟩
theorem Sw.far {w w' : World} {s : Nat} (x : Sw w w' s) {j : Nat} (hj : j ≠ s) (o : Nat) : w'.cell? ⟨j, o, none⟩ = w.cell? ⟨j, o, none⟩ := World.cell?_of_block (w := w) (w' := w') (a := ⟨j, o, none⟩) (x.block j hj)
theorem Sw.frz {w w' : World} {s : Nat} (x : Sw w w' s) {j : Nat} (hj : j ≠ s) (o : Nat) : w'.frozen? ⟨j, o, none⟩ = w.frozen? ⟨j, o, none⟩ := World.frozen?_of_block (w := w) (w' := w') (a := ⟨j, o, none⟩) (x.block j hj)
theorem Sw.head {w w' : World} {s : Nat} (x : Sw w w' s) {p : Nat} {v : Value} (h : w.cell? ⟨p, 0, none⟩ = some v) (hv : ∀ T u, v ≠ .iface T u) : p ≠ s := by
  rintro rfl
  obtain ⟨T, u, e⟩ := x.c0
  rw [h] at e
  exact hv T u (Option.some.inj e)
theorem Sw.u64 {w w' : World} {s : Nat} (x : Sw w w' s) {b o : Nat} {n : Int} (h : w.cell? ⟨b, o, none⟩ = some (.int .u64 n)) : w'.cell? ⟨b, o, none⟩ = some (.int .u64 n) := by
  by_cases hb : b = s
  · subst hb
    refine (x.cell o (fun e => ?_) (fun e => ?_)).trans h
    · subst e
      obtain ⟨y, hy⟩ := x.c4
      rw [h] at hy
      cases hy
    · subst e
      obtain ⟨a, m, c, hy⟩ := x.c5
      rw [h] at hy
      cases hy
  · exact (x.far hb o).trans h
theorem Sw.has {w w' : World} {s : Nat} (x : Sw w w' s) {a : Option Addr} {n : Nat} {zs : List Int} (h : Has .u64 w a n zs) : Has .u64 w' a n zs := by
  refine ⟨h.1, h.2.1, ?_⟩
  rcases h.2.2 with h | ⟨b, off, rfl, hlt, hc⟩
  · exact .inl h
  · exact .inr ⟨b, off, rfl, by rw [x.size]; exact hlt, fun i hi => x.u64 (hc i hi)⟩
theorem Sw.tight {w w' : World} {s : Nat} (x : Sw w w' s) : ¬ LooseAt w s := fun h => by
  obtain ⟨T, u, e⟩ := x.c0
  rcases h.1 0 _ e with ⟨_, h⟩ | ⟨_, h⟩ <;> cases h
theorem Sw.lies {w w' : World} {s : Nat} (x : Sw w w' s) {q : Nat} {h : HitM} (l : Lies w q h) : Lies w' q h := by
  obtain ⟨a, n, c, c0, c1, hn, hs, hh, hf⟩ := l
  have hq := x.head c0 (fun _ _ e => by cases e)
  exact ⟨a, n, c, (x.far hq 0).trans c0, (x.far hq 1).trans c1, hn, hs, x.has hh, hf⟩
theorem Sw.said {w w' : World} {s : Nat} (x : Sw w w' s) {v : Value} {h : Option HitM} (l : Said w v h) : Said w' v h := by
  cases h with
  | none => exact l
  | some h => obtain ⟨q, e, l⟩ := l; exact ⟨q, e, x.lies l⟩
theorem Sw.loose {w w' : World} {s : Nat} (x : Sw w w' s) {j : Nat} (h : LooseAt w j) : LooseAt w' j :=
  have hj : j ≠ s := fun e => x.tight (e ▸ h)
  loose_block (x.block j hj).symm h
theorem Sw.loose_back {w w' : World} {s : Nat} (x : Sw w w' s) {j : Nat} (h : LooseAt w' j) : LooseAt w j := by
  have hj : j ≠ s := fun e => by
    subst e
    obtain ⟨T, u, e⟩ := x.c0
    rcases h.1 0 _ ((x.cell 0 (by decide) (by decide)).trans e) with ⟨_, h⟩ | ⟨_, h⟩ <;> cases h
  exact loose_block (x.block j hj) h
theorem Sw.node {w w' : World} {s : Nat} (x : Sw w w' s) {a : Loc} {l r : Option Loc} {h : Option HitM} (n : NodeAt w a l r h) : NodeAt w' a l r h := by
  have ha : a.1 ≠ s := fun e => x.tight (e ▸ n.lo)
  obtain ⟨v, h2, hs⟩ := n.c2
  exact ⟨(x.far ha _).trans n.c0, (x.far ha _).trans n.c1, ⟨v, (x.far ha _).trans h2, x.said hs⟩, (x.frz ha _).trans n.f0, (x.frz ha _).trans n.f1, (x.frz ha _).trans n.f2, x.loose n.lo⟩
theorem Sw.tab {w w' : World} {s : Nat} (x : Sw w w' s) {B p : Nat} {wd most : Int} {C : Told2} {es : List (Nat × Nat)} (t : Tab w B p wd most C es) : Tab w' B p wd most C es := by
  obtain ⟨N, tr⟩ := t.tr
  have hp := x.head t.hd.c0 (fun _ _ e => by cases e)
  exact ⟨⟨(x.far hp _).trans t.hd.c0, (x.far hp _).trans t.hd.c1, (x.far hp _).trans t.hd.c2, (x.frz hp _).trans t.hd.f2⟩, t.nd, t.mem, t.emp, N, ⟨tr.root, tr.rng, tr.inj, fun n v a ha => x.node (tr.node n v a ha), tr.up, tr.cn, tr.base⟩⟩
theorem Sw.xtab {w w' : World} {s : Nat} (x : Sw w w' s) {p b K M : Nat} {C : List UInt8 → Option (Int × List Int)} {ss : List (List UInt8)} (t : Ex.Tab w p b K M C ss) : Ex.Tab w' p b K M C ss := by
  obtain ⟨D, hD⟩ := t.map
  have hp := x.head t.c0 (fun _ _ e => by cases e)
  obtain ⟨es, cl, hm⟩ := t.isMap
  have hb : b ≠ s := by
    rintro rfl
    obtain ⟨T, u, e⟩ := x.c0
    simp [World.cell?, hm] at e
  refine ⟨(x.far hp _).trans t.c0, (x.far hp _).trans t.c1, (x.far hp _).trans t.c2, t.nd, t.mem, t.len, t.most, D, hD.1.kept x.gr (fun e => hb (Option.some.inj e)), hD.2.1, fun y h hy => ?_⟩
  obtain ⟨v, hv, a, n, c, e, hn, hs, hh⟩ := hD.2.2 y h hy
  exact ⟨v, hv, a, n, c, e, hn, hs, x.has hh⟩
theorem Sw.mtab {w w' : World} {s : Nat} (x : Sw w w' s) {B p : Nat} {keys most : Int} {T : List TE} (t : MTab w B p keys most T) : MTab w' B p keys most T := by
  have hp := x.head t.c0 (fun _ _ e => by cases e)
  obtain ⟨la, cap, h2, ⟨ds, hl, hT, ho, hg⟩, hr⟩ := t.lst
  have hla : ∀ g, la = some ⟨g, 0, none⟩ → g ≠ s := fun g e => by
    obtain ⟨a, m, c, hc⟩ := hr g e
    exact x.head hc (fun _ _ e => by cases e)
  refine ⟨(x.far hp _).trans t.c0, (x.far hp _).trans t.c1, (x.frz hp _).trans t.f2, t.base, ⟨la, cap, (x.far hp _).trans h2, ⟨ds, hl, hT, ho.kept x.gr ?_, fun i d e hd he => ?_⟩, fun g e => ?_⟩, t.ok⟩
  · rcases ho.2 with ⟨e, _⟩ | ⟨g, cap', cur, e, _⟩
    · simp only [Value.slice.injEq] at e
      rw [e.1]
      exact .inl rfl
    · simp only [Value.slice.injEq] at e
      rw [e.1]
      exact .inr fun e' => hla g e.1 (Option.some.inj e')
  · obtain ⟨h1, h2, h3⟩ := hg i d e hd he
    exact ⟨h1.keep h2 (fun a m zs _ h => x.has h), h2, h3⟩
  · obtain ⟨a, m, c, hc⟩ := hr g e
    exact ⟨a, m, c, (x.far (hla g e) 0).trans hc⟩
theorem Sw.face {w w' : World} {s : Nat} (x : Sw w w' s) {k : FK} {f : FSt} (h : FaceAt w k f) : FaceAt w' k f := by
  rcases h with ⟨e, t, r⟩ | ⟨e, t, r⟩ | ⟨e, t, r⟩
  · exact .inl ⟨e, x.xtab t, r⟩
  · exact .inr (.inl ⟨e, x.tab t, r⟩)
  · exact .inr (.inr ⟨e, x.mtab t, r⟩)
theorem Sw.own {w w' : World} {s : Nat} (x : Sw w w' s) {k : FK} {f : FSt} (h : FaceAt w k f) {j : Nat} (o : Own w' k j) : Own w k j := by
  rcases o with o | ⟨e, o⟩ | ⟨e, o⟩
  · exact .inl o
  · exact .inr (.inl ⟨e, x.loose_back o⟩)
  · refine .inr (.inr ⟨e, ?_⟩)
    rcases h with ⟨e', _⟩ | ⟨e', _⟩ | ⟨_, t, _⟩
    · omega
    · omega
    have hp := x.head t.c0 (fun _ _ e => by cases e)
    rcases o with o | ⟨n, c, o⟩
    · exact .inl o
    · exact .inr ⟨n, c, by rw [x.far hp 2] at o; exact o⟩
end Go.Proofs.YtbpnafdmlajepaaGreat

namespace Go.Proofs.YtbpnafdmlajepaaGreat
open Go.RowKit Mth
theorem cov_new {F F' : Nat → Prop} {w w' : World} (hs : w.heap.size ≤ w'.heap.size) (h : ∀ g, ¬ F g → ¬ F' g ∧ w'.heap[g]? = w.heap[g]?) : Cov (mask F (fun _ => Classical.propDecidable _) w) (mask F' (fun _ => Classical.propDecidable _) w') := by
  refine ⟨by rw [mask_size, mask_size]; exact hs, fun g o v hc => ?_⟩
  by_cases hF : F g
  · have hg : g < w.heap.size := by have := World.block_lt_of_cell? _ _ hc; rwa [mask_size] at this
    simp only [World.cell?, mask_on hF hg] at hc
    simp at hc
  · obtain ⟨h1, h2⟩ := h g hF
    refine mask_cell ?_ h1
    rw [World.cell?_of_block (w := w) (w' := w') (a := ⟨g, o, none⟩) h2]
    exact (cov_mask F w).2 _ _ _ hc
theorem own_old {w w0 : World} {k : FK} {f : FSt} (h : FaceAt w0 k f) (hb : Below w0.heap.size w0 w) {g o : Nat} {n : Int} (hg : w0.heap.size ≤ g) (hc : w.cell? ⟨g, o, none⟩ = some (.int .u64 n)) : ¬ Own w k g := by
  rintro (⟨e, o⟩ | ⟨e, o⟩ | ⟨e, o⟩)
  · rcases h with ⟨_, t, _⟩ | ⟨e', _⟩ | ⟨e', _⟩
    · obtain ⟨es, cl, hm⟩ := t.isMap
      have := (Array.getElem?_eq_some_iff.1 hm).1
      omega
    · omega
    · omega
  · exact tight_u64 n (o.1 _ _ hc)
  · rcases h with ⟨e', _⟩ | ⟨e', _⟩ | ⟨_, t, _⟩
    · omega
    · omega
    have hp : k.p < w0.heap.size := World.block_lt_of_cell? _ _ t.c0
    rcases o with o | ⟨m, c, o⟩
    · omega
    · obtain ⟨la, cap, h2, _, hr⟩ := t.lst
      rw [hb.cell (p := ⟨k.p, 2, none⟩) hp, h2] at o
      simp only [Option.some.injEq, Value.slice.injEq] at o
      obtain ⟨a, m', c', hc'⟩ := hr g o.1
      have : g < w0.heap.size := World.block_lt_of_cell? _ _ hc'
      omega
theorem StAt.deft {w w1 w2 : World} {s : Nat} {k : FK} {f : FSt} {ws : List Int} {Ms : List (Int × List Int)} {h h' : HitM} {N : Nat} {X : Nat → Prop} {a : Option Addr} {n c : Nat} (t : StAt w s k f ws Ms h N X) (hb1 : Below w.heap.size w w1) (hb2 : Below w1.heap.size w1 w2) (hf : From w1.heap.size a n) (hs : Says w2 (.agg #[.int .i64 h'.1, .slice a n c]) h') :
    StAt ((w2.setCell ⟨s, 4, none⟩ (.int .i64 h'.1)).setCell ⟨s, 5, none⟩ (.slice a n c)) s k f ws Ms h' ((w2.setCell ⟨s, 4, none⟩ (.int .i64 h'.1)).setCell ⟨s, 5, none⟩ (.slice a n c)).heap.size (Own ((w2.setCell ⟨s, 4, none⟩ (.int .i64 h'.1)).setCell ⟨s, 5, none⟩ (.slice a n c)) k) := by
  have t2 := t.step (bl_step hb1 hb2)
  obtain ⟨a0, n0, c0, h4, h5, _⟩ := t2.c4
  have hT : ∃ T v, faceV k = .iface T v := by unfold faceV; split <;> (try split) <;> exact ⟨_, _, rfl⟩
  obtain ⟨T, v, eT⟩ := hT
  have hc0 := t2.c0
  rw [eT] at hc0
  have x := Sw.set hc0 h4 h5 (.int .i64 h'.1) (.slice a n c)
  have d4 : ((w2.setCell ⟨s, 4, none⟩ (.int .i64 h'.1)).setCell ⟨s, 5, none⟩ (.slice a n c)).cell? ⟨s, 4, none⟩ = some (.int .i64 h'.1) := (World.cell?_setCell_other _ _ _ _ (by simp)).trans (World.cell?_setCell_same _ _ _ h4)
  have d5 : ((w2.setCell ⟨s, 4, none⟩ (.int .i64 h'.1)).setCell ⟨s, 5, none⟩ (.slice a n c)).cell? ⟨s, 5, none⟩ = some (.slice a n c) := World.cell?_setCell_same _ _ _ ((World.cell?_setCell_other _ _ _ _ (by simp)).trans h5)
  have hty : ∃ cs, ((w2.setCell ⟨s, 4, none⟩ (.int .i64 h'.1)).setCell ⟨s, 5, none⟩ (.slice a n c)).heap[s]? = some (.cells cs 47 (0, 0)) := by
    obtain ⟨cs, ht⟩ := t2.ty
    exact ⟨_, by simp only [World.setCell, Array.getElem?_modify, ht, Option.map_some]; rfl⟩
  generalize (w2.setCell ⟨s, 4, none⟩ (.int .i64 h'.1)).setCell ⟨s, 5, none⟩ (.slice a n c) = w3 at *
  have hN : N ≤ w3.heap.size := by rw [x.size]; exact t2.low
  have hsl : s < w.heap.size := Nat.lt_of_lt_of_le t.sx.2 t.low
  have cv : Cov (mask (fun j => X j ∨ N ≤ j ∨ j = s) (fun _ => Classical.propDecidable _) w2) (mask (fun j => Own w3 k j ∨ w3.heap.size ≤ j ∨ j = s) (fun _ => Classical.propDecidable _) w3) := cov_new (Nat.le_of_eq x.size.symm) fun g hg => by
    have hgs : g ≠ s := fun e => hg (.inr (.inr e))
    have hgN : g < N := by rcases Nat.lt_or_ge g N with h | h; exact h; exact absurd (.inr (.inl h)) hg
    refine ⟨?_, x.block g hgs⟩
    rintro (o | o | o)
    · exact hg (.inl (t2.inv g hgN (x.own t2.face o)))
    · omega
    · exact hgs o
  obtain ⟨wa, wn, wc, g1, g2⟩ := t2.c2
  obtain ⟨ma, mn, mc, g3, g4⟩ := t2.c3
  refine ⟨⟨fun o => t.sx.1 (t2.inv s t.sx.2 (x.own t2.face o)), Nat.lt_of_lt_of_le t.sx.2 hN⟩, hty, (x.cell 0 (by decide) (by decide)).trans t2.c0, (x.cell 1 (by decide) (by decide)).trans t2.c1, ⟨wa, wn, wc, (x.cell 2 (by decide) (by decide)).trans g1, g2.cov cv⟩, ⟨ma, mn, mc, (x.cell 3 (by decide) (by decide)).trans g3, g4.cov cv⟩, ⟨a, n, c, d4, d5, ?_⟩, x.face t2.face, t.few, t.one, fun _ _ o => o, Nat.le_refl _⟩
  obtain ⟨a', n', c', e, hn, hsm, hh⟩ := hs
  simp only [Value.agg.injEq, Array.mk.injEq, List.cons.injEq, Value.slice.injEq, and_true, true_and] at e
  obtain ⟨rfl, rfl, rfl⟩ := e
  refine ⟨a, n, c, rfl, hn, hsm, hh.1, hh.2.1, ?_⟩
  rcases hh.2.2 with hh | ⟨b, off, rfl, hlt, hc⟩
  · exact .inl hh
  · rcases Nat.eq_zero_or_pos n with h0 | h0
    · exact .inl (List.length_eq_zero_iff.1 (by rw [hh.1]; exact h0))
    obtain ⟨b', off', e, hB, _⟩ := hf h0
    simp only [Option.some.injEq, Addr.mk.injEq, and_true] at e
    obtain ⟨rfl, rfl⟩ := e
    have hs1 := hb1.size
    have hbs : b ≠ s := by omega
    have c3 : ∀ i, i < n → w3.cell? ⟨b, off + i, none⟩ = some (.int .u64 (h'.2.getD i 0)) := fun i hi => x.u64 (hc i hi)
    have hb3 : b < w3.heap.size := by rw [x.size]; exact hlt
    refine .inr ⟨b, off, rfl, by rw [mask_size]; exact hb3, fun i hi => mask_cell (c3 i hi) ?_⟩
    rintro (o | o | o)
    · exact own_old t.face (bl_step hb1 hb2) (Nat.le_trans hs1 hB) (hc i hi) (x.own t2.face o)
    · omega
    · exact hbs o
def StDef (w : World) (s : Nat) (k : FK) (f : FSt) (ws : List Int) (Ms : List (Int × List Int)) (h h' : HitM) (N : Nat) (X : Nat → Prop) (r : Ending) (w' : World) : Prop := r = .returned (.int .i64 (hitC Ms h'.1 h'.2)) ∧ (hitC Ms h'.1 h'.2 ≠ 0 → StAt w' s k f ws Ms h N X ∧ Below w.heap.size w w') ∧ (hitC Ms h'.1 h'.2 = 0 → (∃ N' X', StAt w' s k f ws Ms h' N' X') ∧ ∀ B, B ≤ s → B ≤ w.heap.size → Below B w w')
set_option maxHeartbeats 2000000 in
set_option maxRecDepth 20000 in
theorem st_default {w : World} {s : Nat} {k : FK} {f : FSt} {ws : List Int} {Ms : List (Int × List Int)} {h h' : HitM} {N : Nat} {X : Nat → Prop} {a : Option Addr} {n c : Nat} (t : StAt w s k f ws Ms h N X) (hs : Says w (.agg #[.int .i64 h'.1, .slice a n c]) h') :
    Calls Tryz.prog 13 #[.pointer (some ⟨s, 0, none⟩), .agg #[.int .i64 h'.1, .slice a n c]] w (StDef w s k f ws Ms h h' N X) := by
  obtain ⟨W1, hW1⟩ : ∃ W1, W1 = w.alloc (.cells #[.int .i64 h'.1, .slice a n c] 45) := ⟨_, rfl⟩
  obtain ⟨eb, heb⟩ : ∃ b, b = w.heap.size := ⟨_, rfl⟩
  have b1 : Below w.heap.size w W1 := by rw [hW1]; exact bl_alloc (Below.refl _ _)
  have e0 : W1.cell? ⟨eb, 0, none⟩ = some (.int .i64 h'.1) := by rw [hW1, heb]; simp
  have e1 : W1.cell? ⟨eb, 1, none⟩ = some (.slice a n c) := by rw [hW1, heb]; simp
  have c0 := cell_keep t.cell b1
  have hsl : s < W1.heap.size := World.block_lt_of_cell? _ _ c0
  have hel : eb < W1.heap.size := World.block_lt_of_cell? _ _ e0
  have e0' := cell_by e0
  have e1' := cell_by e1
  have HS := hid hs
  obtain ⟨hx, hnn⟩ : Has .u64 w a n h'.2 ∧ n ≤ 100000 := by
    obtain ⟨a', n', c', e, _, hsm, hh⟩ := hs
    simp only [Value.agg.injEq, Array.mk.injEq, List.cons.injEq, Value.slice.injEq, and_true, true_and] at e
    obtain ⟨rfl, rfl, rfl⟩ := e
    exact ⟨hh, by omega⟩
  have HW : Hid (∀ q : BelowBy W1, Calls Tryz.prog 24 #[.pointer (some ⟨s, 1, none⟩), .agg #[.int .i64 h'.1, .slice a n c]] q.to fun r w' => r = .returned (.int .i64 (hitC Ms h'.1 h'.2)) ∧ Below q.to.heap.size q.to w') := fun q => (whit_any ((t.rules.step b1).step q.h) ((hx.step b1).step q.h) hnn t.few).mono fun r w' hq => ⟨hq.1, by obtain ⟨m, os, rfl⟩ := hq.2; exact below_grow _ m os⟩
  have HT := hid t
  have HB := hid b1
  have EW := hid hW1
  have EB := hid heb
  haveI inhB : ∀ w : World, Inhabited (BelowBy w) := fun w => ⟨⟨w, Below.refl _ _⟩⟩
  have HE0 := hid e0
  have HE1 := hid e1
  clear hW1 heb b1 hs hx hnn t c0 e0 e1
  generalize hC : hitC Ms h'.1 h'.2 = C at HW
  have HCC := hid hC
  clear hC
  go_enter Tryz.func13, Tryz.ntmps13
  go_upto_region 1 with fail
  rw [← EW.out, ← EB.out]
  clear EW EB
  go_wp2_with fail
  refine wp_region_quiet_below (by kernel_rfl) (by kernel_rfl) ?_
  repeat (go_big_quiet_step (first | (go_at_call 24; exact calls_below _ (HW.out _))))
  refine wpQuiet_nil ?_
  intro w2 hw'
  obtain ⟨⟨_, hw2⟩, hw''⟩ := hw'
  subst hw''
  have HB2 := hid (bl_step HB.out hw2)
  have e0 := cell_keep HE0.out hw2
  have e1 := cell_keep HE1.out hw2
  clear e0' e1' hw2 HW hsl hel HE0 HE1
  by_cases h0 : C = 0
  · subst h0
    have HSP := hid (scopied_any (HS.out.moved (moved_below HB2.out)))
    have t2 := HT.out.step HB2.out
    have hsl2 : s < w2.heap.size := World.block_lt_of_cell? _ _ t2.c0
    go_wp2_with fail
    refine HSP.out.mono ?_
    rintro r w3 ⟨a3, n3, c3, rfl, hf3, hs3, hb3⟩
    have t3 := HT.out.step (bl_step HB2.out hb3)
    obtain ⟨a4, n4, c4, q4, q5, _⟩ := t3.c4
    obtain ⟨cs, hty⟩ := t3.ty
    have z4 : w3.frozen? ⟨s, 4, none⟩ = false := by simp [World.frozen?, hty]
    have z5 : w3.frozen? ⟨s, 5, none⟩ = false := by simp [World.frozen?, hty]
    have HE : Hid (StDef w s k f ws Ms h h' N X (.returned (.int .i64 0)) ((w3.setCell ⟨s, 4, none⟩ (.int .i64 h'.1)).setCell ⟨s, 5, none⟩ (.slice a3 n3 c3))) := by
      refine ⟨by rw [HCC.out], fun h => absurd HCC.out h, fun _ => ⟨⟨_, _, HT.out.deft HB2.out hb3 hf3 hs3⟩, fun B hBs hBw => (((bl_step HB2.out hb3).mono hBw).setCell (p := ⟨s, 4, none⟩) hBs _).setCell (p := ⟨s, 5, none⟩) hBs _⟩⟩
    clear hf3 hs3 hb3 t3 hty HSP HT HS HB2 t2 e0 e1
    go_wp2
    go_ret
    exact HE.out
  · have hne : (C != 0) = true := by simpa using h0
    have HE : Hid (StDef w s k f ws Ms h h' N X (.returned (.int .i64 C)) w2) := ⟨by rw [HCC.out], fun _ => ⟨HT.out.step HB2.out, HB2.out⟩, fun h => absurd (HCC.out.symm.trans h) h0⟩
    clear HT HS HB2 HCC h0
    go_wp2
    go_ret
    exact HE.out
end Go.Proofs.YtbpnafdmlajepaaGreat
