/- Texts of one chain, joined: QGreat. -/
import Derived.Test.YtedeiaokohdhpaaGreatG15
namespace Go.Proofs.YtedeiaokohdhpaaGreat
open Go.RowKit
theorem row_at {α : Type} {k : Nat} {P : α → World → Nat → Nat → Prop} {w : World} {s : QSl} {S : List α} (h : QRow k P w s S) {i : Nat} (hi : i < s.n) : ∃ g off x, s.a = some ⟨g, off, none⟩ ∧ S[i]? = some x ∧ P x w g (off + i * k) := by
  have hi' : i < S.length := by rw [h.1]; exact hi
  obtain ⟨g, off, e, hp⟩ := h.2 i _ (List.getElem?_eq_getElem hi')
  exact ⟨g, off, _, e, List.getElem?_eq_getElem hi', hp⟩
@[reducible] def PlanD.box (d : PlanD) : Obj := .cells #[.slice d.heads.a d.heads.n d.heads.c, .slice d.mta.a d.mta.n d.mta.c, .slice d.states.a d.states.n d.states.c, .slice d.acts.a d.acts.n d.acts.c, .slice d.tabs.a d.tabs.n d.tabs.c, .slice d.nodes.a d.nodes.n d.nodes.c, .slice d.out.a d.out.n d.out.c] 29
end Go.Proofs.YtedeiaokohdhpaaGreat
