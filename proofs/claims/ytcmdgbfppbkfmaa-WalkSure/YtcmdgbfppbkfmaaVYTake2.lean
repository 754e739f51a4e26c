/- A packet is parsed, by the document: take, from every state on. -/
import Derived.Test.YtcmdgbfppbkfmaaVYTake
namespace Go.Proofs.Ytcmdgbfppbkfmaa
open Go.RowKit

theorem take_all (d : PlanD) (hc : (chkP d.p).1 = 0) (N : Nat) : ∀ m k : Nat, k < d.p.ss.length → d.p.ss.length - k ≤ m → TakeOk d hc N (k : Int) := by
  intro m
  induction m with
  | zero => intro k h1 h2; omega
  | succ m ih =>
    intro k h1 h2
    refine take_step d hc N k h1 fun tz htz => ?_
    rcases (state_ok hc h1).out tz htz with h | h | ⟨h3, h4⟩
    · exact take_end d hc N tz (.inl h)
    · exact take_end d hc N tz (.inr h)
    · have := ih tz.toNat (by omega) (by omega)
      rwa [show ((tz.toNat : Nat) : Int) = tz by omega] at this

/-- from the first state on, of a packet at its beginning -/
theorem take_zero (d : PlanD) (hc : (chkP d.p).1 = 0) (G : GoD) (w0 w : World) (hl : d.lie w0) (hb : ∃ B, w0.heap.size ≤ B ∧ B ≤ G.q ∧ B ≤ G.th ∧ B ≤ G.vb ∧ Below B w0 w) (hg : GoAt d G w) (hn : G.b.n ≤ 2000) (ht : thereN G.T = 0) (h0 : 0 < d.p.ss.length) :
    Calls Try.prog 17 #[.pointer (some ⟨G.q, 0, none⟩), .int .i64 0] w (TakeDone d hc G.b.n G w) :=
  take_all d hc G.b.n d.p.ss.length 0 h0 (by omega) G w0 w hl hb hg hn ⟨0, by omega, fun h => absurd h (by decide), fun _ => by rw [ht]; exact .nil⟩

end Go.Proofs.Ytcmdgbfppbkfmaa
