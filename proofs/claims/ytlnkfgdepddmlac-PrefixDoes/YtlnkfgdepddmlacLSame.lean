/- What the document's SameHit does. -/
import Derived.Test.YtlnkfgdepddmlacLEnts
namespace Go.Proofs.Ytlnkfgdepddmlac
open Go.RowKit Mth

theorem Says.len {w : World} {x : Int} {a : Option Addr} {n c : Nat} {h : HitM} (s : Says w (.agg #[.int .i64 x, .slice a n c]) h) : x = h.1 ∧ n = h.2.length ∧ n ≤ 1000 ∧ Has .u64 w a n h.2 := by
  obtain ⟨a', n', c', e, hn, hs, hh⟩ := s
  simp only [Value.agg.injEq, Array.mk.injEq, List.cons.injEq, Value.int.injEq, Value.slice.injEq, true_and, and_true] at e
  obtain ⟨rfl, rfl, rfl, rfl⟩ := e
  exact ⟨rfl, hh.1.symm, hs, hh⟩

theorem Has.drewN {k : IntKind} {w : World} {a : Option Addr} {len : Nat} {zs : List Int} (h : Has k w a len zs) (s : Nat) : Has k (w.drewN s) a len zs := h

set_option maxHeartbeats 400000 in
set_option maxRecDepth 20000 in
theorem same_hit {w : World} {u v : Value} {h : HitM} (su : Says w u h) (sv : Says w v h) :
    Calls Try.prog 20 #[u, v] w fun e w' => e = .returned (.bool true) ∧ Below w.heap.size w w' := by
  obtain ⟨a, n, c, rfl, _, hs, hu⟩ := su
  obtain ⟨b, m, d, rfl, _, _, hv⟩ := sv
  have e : m = n := by rw [← hu.1, ← hv.1]
  subst e
  have hx : (h.1 == h.1) = true := by simp
  have HU := hid hu
  have HV := hid hv
  clear hu hv
  go_enter Try.func20, Try.ntmps20
  go_wp2_with (go_at_call 48; refine (same_nums _ _ hs HU.out.alloc.alloc HV.out.alloc.alloc).mono ?_; rintro e w1 ⟨rfl, s1, rfl⟩)
  go_ret
  exact ⟨rfl, below_drewN (bl_alloc (bl_alloc (Below.refl _ _))) s1⟩
end Go.Proofs.Ytlnkfgdepddmlac
