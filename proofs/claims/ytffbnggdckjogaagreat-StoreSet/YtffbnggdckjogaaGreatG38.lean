/- Texts of one chain, joined: QGreat. -/
import Derived.Test.YtffbnggdckjogaaGreatG29
namespace Go.Proofs.YtffbnggdckjogaaGreat
open Go.RowKit
theorem row_at {α : Type} {k : Nat} {P : α → World → Nat → Nat → Prop} {w : World} {s : QSl} {S : List α} (h : QRow k P w s S) {i : Nat} (hi : i < s.n) : ∃ g off x, s.a = some ⟨g, off, none⟩ ∧ S[i]? = some x ∧ P x w g (off + i * k) := by
  have hi' : i < S.length := by rw [h.1]; exact hi
  obtain ⟨g, off, e, hp⟩ := h.2 i _ (List.getElem?_eq_getElem hi')
  exact ⟨g, off, _, e, List.getElem?_eq_getElem hi', hp⟩
end Go.Proofs.YtffbnggdckjogaaGreat
