/- Texts of one chain, joined: LOne. -/
import Derived.Test.YtffbnggdckjogaaGreatG13
import Derived.Test.YtffbnggdckjogaaGreatG46
import Derived.Deep.CutRange
namespace Go.Proofs.YtffbnggdckjogaaGreat
open Go.RowKit Mth
abbrev E0 : Obj := EC none 0 0 none 0 0 0 0 0 none 0 0
theorem Lst.set6 {w : World} {B r : Nat} {a : Option Addr} {n c : Nat} {zs : List Int} (h : Lst w B a n c zs) (hr : r < B) (v0 v1 v2 v3 v4 v5 : Value) {B' : Nat} (hB : B' ≤ B) :
    Lst ((((((w.setCell ⟨r, 0, none⟩ v0).setCell ⟨r, 1, none⟩ v1).setCell ⟨r, 2, none⟩ v2).setCell ⟨r, 3, none⟩ v3).setCell ⟨r, 4, none⟩ v4).setCell ⟨r, 5, none⟩ v5) B' a n c zs := by
  obtain ⟨h1, h2, h3, f⟩ := h
  exact ⟨h1, h2, ((((((h3.far f hr v0).far f hr v1).far f hr v2).far f hr v3).far f hr v4).far f hr v5), f.mono hB⟩
theorem below_six {B : Nat} {w w' : World} {r : Nat} (h : Below B w w') (hr : B ≤ r) (v0 v1 v2 v3 v4 v5 : Value) :
    Below B w ((((((w'.setCell ⟨r, 0, none⟩ v0).setCell ⟨r, 1, none⟩ v1).setCell ⟨r, 2, none⟩ v2).setCell ⟨r, 3, none⟩ v3).setCell ⟨r, 4, none⟩ v4).setCell ⟨r, 5, none⟩ v5) :=
  (((((h.setCell hr v0).setCell hr v1).setCell hr v2).setCell hr v3).setCell hr v4).setCell hr v5
theorem Six.far {w : World} {s r o : Nat} {x0 x1 x2 x3 x4 x5 : Value} (t : Six w r x0 x1 x2 x3 x4 x5) (h : s ≠ r) (v : Value) : Six (w.setCell ⟨s, o, none⟩ v) r x0 x1 x2 x3 x4 x5 := by
  have hne : ∀ i, (⟨s, o, none⟩ : Addr) ≠ ⟨r, i, none⟩ := fun i e => h (congrArg Addr.block e)
  have cs : ∀ i, (w.setCell ⟨s, o, none⟩ v).cell? ⟨r, i, none⟩ = w.cell? ⟨r, i, none⟩ := fun i => World.cell?_setCell_other _ _ _ _ (hne i)
  exact ⟨(cs 0).trans t.k0, (cs 1).trans t.k1, (cs 2).trans t.k2, (cs 3).trans t.k3, (cs 4).trans t.k4, (cs 5).trans t.k5, by simpa using t.f0, by simpa using t.f1, by simpa using t.f2, by simpa using t.f3, by simpa using t.f4, by simpa using t.f5⟩
theorem Lst.step {w w' : World} {B : Nat} {a : Option Addr} {n c : Nat} {zs : List Int} (h : Lst w B a n c zs) (hb : Below w.heap.size w w') : Lst w' B a n c zs := h.moved (moved_below hb)
theorem Lst.far {w : World} {B r o : Nat} {a : Option Addr} {n c : Nat} {zs : List Int} (h : Lst w B a n c zs) (hr : r < B) (v : Value) : Lst (w.setCell ⟨r, o, none⟩ v) B a n c zs :=
  ⟨h.1, h.2.1, h.2.2.1.far h.2.2.2 hr v, h.2.2.2⟩
def fst (ks : List Int) : Nat := (ks.getD 0 0).toNat
end Go.Proofs.YtffbnggdckjogaaGreat
