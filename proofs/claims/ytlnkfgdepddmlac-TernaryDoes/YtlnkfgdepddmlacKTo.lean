/- What stays while a table's list is turned; an entry behind a list, and where the list lies then. -/
import Derived.Test.YtlnkfgdepddmlacKAll
namespace Go.Proofs.Ytlnkfgdepddmlac
open Go.RowKit Mth

/-- the same as one step of a region that draws -/
theorem step_app6 {ops : Array Oper} {o : Oper} {a : Act} {w : World} {K : Act → World → Prop} {Q : Exit → Act → World → Prop} {F : Prop} (hgd : o.guard = none) (s x : Operand)
    (ho : o.op = .call { callee := .builtin .append, args := #[s, x], argTypes := #[28, 28] }) (base n cap : Nat) (la : Option Addr) (xs news : List Value) (ad : Addr) (c : Nat)
    (hs : a.eval s = .slice la n cap) (hx : a.eval x = .slice (some ad) 1 c) (hown : w.ownsRow base 33 6 (.slice la n cap) n xs) (hl : news.length = 1 * 6) (hn : ∀ j u, news[j]? = some u → w.cell? (ad.add j) = some u) (h1 : ∀ u ∈ news, u.oneCell' = true)
    (hsm : n ≤ 100000) (hbase : base ≤ w.heap.size) (h : ∀ g cap' w', w'.ownsRow base 33 6 (.slice (some ⟨g, 0, none⟩) (n + 1) cap') (n + 1) (xs ++ news) → w.grownBy w' (Value.slice la n cap).ownBlock → (la = some ⟨g, 0, none⟩ ∨ w.heap.size ≤ g) → K (a.put o.dst (.slice (some ⟨g, 0, none⟩) (n + 1) cap')) w') :
    if Region.wanted o (yielded ops a.tmps) = true then Oper.wp Try.prog o a w K Q else F := by
  have hw : Region.wanted o (yielded ops a.tmps) = true := by simp [Region.wanted, hgd]
  rw [if_pos hw]
  obtain ⟨g, cap', w', hrun, r1, r2, r3⟩ := run_app6 (c := c) o.type hown hl hn h1 hsm hbase
  unfold Oper.wp execOp
  simp only [ho, resolve, invoke, builtin, Sem.run_bind, Sem.run_pure, Result.andThen_ok, List.map_toArray, List.map_cons, List.map_nil, hs, hx, hrun]
  exact h g cap' w' r1 r2 r3

/-- the document's table behind a turn -/
structure KTo (w w' : World) (B r : Nat) (keys most : Int) (E : List TE) : Prop where
  t : KRws w' B r keys most E
  bel : Below B w w'
  fr : Fr w w' r 4

theorem KRws.small {w : World} {B r : Nat} {keys most : Int} {E : List TE} (t : KRws w B r keys most E) : B ≤ w.heap.size :=
  Nat.le_trans t.base (Nat.le_of_lt (World.block_lt_of_cell? w _ t.hd.c0))

theorem KTo.same {w w' : World} {B r : Nat} {keys most : Int} {E : List TE} (t : KRws w B r keys most E) (hb : Below w.heap.size w w') : KTo w w' B r keys most E :=
  ⟨t.step hb, hb.mono t.small, fr_below hb (World.block_lt_of_cell? w _ t.hd.c0)⟩

/-- the document's table behind another list -/
theorem krws_new {w wA w6 : World} {B r : Nat} {keys most : Int} {E E' : List TE} {la la' : Option Addr} {cap m cap' : Nat} (t : KRws w B r keys most E) (hb : Below w.heap.size w wA) (h4 : w.cell? ⟨r, 4, none⟩ = some (.slice la E.length cap)) (hg : wA.grownBy w6 (Value.slice la E.length cap).ownBlock)
    (hr' : ∀ v, MRow (w6.setCell ⟨r, 4, none⟩ v) B la' m cap' E') (hE : E'.length = m) (hgood : ∀ x ∈ E', GoodM keys x) (hfr : ∀ g, la' = some ⟨g, 0, none⟩ → la = some ⟨g, 0, none⟩ ∨ w.heap.size ≤ g) : KTo w (w6.setCell ⟨r, 4, none⟩ (.slice la' m cap')) B r keys most E' := by
  have hrl : r < w.heap.size := World.block_lt_of_cell? w _ t.hd.c0
  obtain ⟨la2, cap2, h42, hrow⟩ := t.lst
  rw [h4] at h42
  simp only [Option.some.injEq, Value.slice.injEq, true_and] at h42
  obtain ⟨rfl, rfl⟩ := h42
  have hrA := hrow.step hb
  have hdA := t.hd.step hb
  have hrr : w6.heap[r]? = wA.heap[r]? := by
    refine hg.block r (Nat.lt_of_lt_of_le hrl hb.size) (fun e => ?_)
    cases la with
    | none => cases e
    | some ad =>
      obtain ⟨a', m', c', hc'⟩ := hrA.2 ad.block (by rw [← hrA.at0 ad rfl])
      have : r = ad.block := by simpa [Value.ownBlock] using e
      rw [← this, hdA.c0] at hc'
      cases hc'
  have cs : ∀ i, w6.cell? ⟨r, i, none⟩ = wA.cell? ⟨r, i, none⟩ := fun i => World.cell?_of_block (w := wA) (w' := w6) (a := ⟨r, i, none⟩) hrr
  have c4 : w6.cell? ⟨r, 4, none⟩ = some (.slice la E.length cap) := (cs 4).trans ((hb.cell (p := ⟨r, 4, none⟩) hrl).trans h4)
  have cz : ∀ i, i ≠ 4 → (w6.setCell ⟨r, 4, none⟩ (.slice la' m cap')).cell? ⟨r, i, none⟩ = wA.cell? ⟨r, i, none⟩ := fun i hi => (World.cell?_setCell_other _ _ _ _ (addr_ne (by omega))).trans (cs i)
  have c4' : (w6.setCell ⟨r, 4, none⟩ (.slice la' m cap')).cell? ⟨r, 4, none⟩ = some (.slice la' m cap') := World.cell?_setCell_same _ _ _ c4
  refine ⟨⟨⟨(cz 0 (by omega)).trans hdA.c0, (cz 1 (by omega)).trans hdA.c1, (cz 2 (by omega)).trans hdA.c2, (cz 3 (by omega)).trans hdA.c3⟩, ?_, t.base, ⟨la', cap', by rw [hE]; exact c4', by rw [hE]; exact hr' _⟩, hgood⟩, ?_, ?_, fun k hk hkr hkg => ?_, fun g n c h => ?_⟩
  · simp only [World.frozen?_setCell]
    exact (World.frozen?_of_block (w := wA) (w' := w6) (a := ⟨r, 4, none⟩) hrr).trans ((hb.frozen (p := ⟨r, 4, none⟩) hrl).trans t.f4)
  · refine ((hb.mono t.small).grown hg (Nat.le_trans t.small hb.size) (fun k hk => ?_)).setCell t.base _
    cases la with
    | none => cases hk
    | some ad =>
      have : ad.block = k := by simpa [Value.ownBlock] using hk
      rw [← this]
      exact (hrow.lt ad.block (by rw [← hrow.at0 ad rfl])).1
  · have := hb.size; have := hg.size
    simp only [World.setCell, Array.size_modify]; omega
  · rw [Below.heap_setCell _ _ _ _ hkr, hg.block k (Nat.lt_of_lt_of_le hk hb.size) (fun e => ?_)]
    · exact hb.block k hk
    · cases la with
      | none => cases e
      | some ad =>
        have : k = ad.block := by simpa [Value.ownBlock] using e
        exact hkg ad.block _ _ (by rw [h4, ← hrow.at0 ad rfl]) this
  · rw [c4'] at h
    simp only [Option.some.injEq, Value.slice.injEq] at h
    rcases hfr g h.1 with h1 | h1
    · exact .inl ⟨_, _, by rw [h4, h1]⟩
    · exact .inr h1
end Go.Proofs.Ytlnkfgdepddmlac
