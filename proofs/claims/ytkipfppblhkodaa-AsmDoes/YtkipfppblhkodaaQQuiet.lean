/- A region that draws its order, whose operations read and whose callees may lay blocks of their own: in the class of all worlds behind w in which nothing old has turned. -/
import Derived.Test.YtkipfppblhkodaaQLay
import Derived.Shelf.SlSortCmp.QuietGrown
namespace Go.Proofs.Ytkipfppblhkodaa
open Go.RowKit

/-- a world behind w in which nothing old has turned -/
structure BelowBy (w : World) where
  to : World
  h : Below w.heap.size w to

theorem wp_region_quiet_below {P : Program} {id : Nat} {Q : Exit → Act → World → Prop} {a : Act} {w : World} {l : List Oper} (hm : P.follows .mixedOrders = true) (hB : Region.lexB .any l.toArray = true)
    (h : wpQuiet P l.toArray (fun w' => ∃ p : BelowBy w, w' = p.to) (fun a' => ∀ w', (∃ p : BelowBy w, w' = p.to) → Q .normal a' w') l a) : (Code.region id l.toArray true).wp P Q a w :=
  wp_region_quiet (C := fun w' => ∃ p : BelowBy w, w' = p.to) hm hB ⟨⟨w.drew, (Below.refl _ _).drew⟩, rfl⟩ (by simpa using h)

theorem calls_below {P : Program} {f : FuncId} {args : Array Value} {w : World} {v : Value} (p : BelowBy w) (h : Calls P f args p.to fun e w' => e = .returned v ∧ Below p.to.heap.size p.to w') : Calls P f args p.to fun e w'' => e = .returned v ∧ ∃ p : BelowBy w, w'' = p.to :=
  h.mono fun _ w'' ⟨he, hb⟩ => ⟨he, ⟨w'', bl_step p.h hb⟩, rfl⟩

theorem calls_same {P : Program} {f : FuncId} {args : Array Value} {w : World} {v : Value} (p : BelowBy w) (h : Calls P f args p.to fun e w' => e = .returned v ∧ w' = p.to) : Calls P f args p.to fun e w'' => e = .returned v ∧ ∃ p : BelowBy w, w'' = p.to :=
  h.mono fun _ _ ⟨he, hb⟩ => ⟨he, p, hb⟩

/-- a cell, in every world of the class -/
theorem cell_by {w : World} {g o : Nat} {v : Value} (h : w.cell? ⟨g, o, none⟩ = some v) (p : BelowBy w) : p.to.cell? ⟨g, o, none⟩ = some v := cell_keep h p.h
end Go.Proofs.Ytkipfppblhkodaa
