/- Every Width, Widths and Takes of a plan is as the document says: for every input shuntyardlaw.PlanWidths returns true, and its arguments read afterwards as they read before. -/
import Derived.Test.YtlnkfgdepddmladRows
import Derived.Test.YtlnkfgdepddmladQLaw
import Derived.WalkKit
import Derived.ProofKit
import Derived.OpenShut
import Derived.ShutString
import Derived.ChangeOld
import Derived.Below
namespace Go.Proofs.Ytlnkfgdepddmlad.planWidths
open Go.ChangeShapes Go.WideShapes Go.ChangeAt Go.RowKit

theorem own : ownKnob Try.prog.godebug = none := by kernel_rfl
theorem laidOut : laidOutB Try.prog = true := by kernel_rfl

set_option maxRecDepth 100000 in
theorem lifted (os : Os) (started : os.Started) (H : Type) (enc : TypeId × Value → H) :
    ReturnsInHanded {} Try.checked os 3 .any (Rows.planWidthsSpec.pre6 enc Try.prog Try.f3 Rows.planWidthsRow.domain false) (Rows.planWidthsSpec.post enc Try.prog Try.f3 false true false false) := by
  refine returnsInHanded_of_change (C := Try.checked) own started (by kernel_rfl) Try.func3
    (ChangeSpec.witness6 (enc := enc) (C := Try.checked) false ⟨#[], #[.agg #[.slice none 0 0, .slice none 0 0, .slice none 0 0, .slice none 0 0, .slice none 0 0, .slice none 0 0, .slice none 0 0], .agg #[.int .i64 0, .int .i64 0], .slice none 0 0, .agg #[.int .i64 0, .slice none 0 0, .slice none 0 0, .int .i64 0, .int .i64 0, .slice none 0 0], .int .i64 0], []⟩ 8 (by kernel_rfl) (by kernel_rfl) (by kernel_rfl) (by kernel_rfl)) ?_
  intro W base args ds gs before hval0 hW hcnd _
  have hval : ∀ (j : Nat) t v, Try.f3.params[j]? = some t → args[j]? = some v → Value.okWide Try.prog W .any base t v := hval0
  have hW' := hW
  obtain ⟨p, q, hA0, hV, rfl, hfz, hnd⟩ := hW
  have hA : DataW.TrodAll enc Try.prog W 0 (fun _ => true) true Try.f3.params.toList args.toList ds p := hA0
  rw [Try.params3] at hA hval
  obtain ⟨v0, vs0, d0, ds0, p0, q0, hargs, rfl, rfl, h0, r0⟩ := trodAll_cons hA
  obtain ⟨v1, vs1, d1, ds1, p1, q1, rfl, rfl, rfl, h1, r1⟩ := trodAll_cons r0
  obtain ⟨v2, vs2, d2, ds2, p2, q2, rfl, rfl, rfl, h2, r2⟩ := trodAll_cons r1
  obtain ⟨v3, vs3, d3, ds3, p3, q3, rfl, rfl, rfl, h3, r3⟩ := trodAll_cons r2
  obtain ⟨v4, vs4, d4, ds4, p4, q4, rfl, rfl, rfl, h4, r4⟩ := trodAll_cons r3
  obtain ⟨rfl, rfl, rfl⟩ := trodAll_nil r4
  obtain rfl : args = #[v0, v1, v2, v3, v4] := by cases args; simp_all
  obtain ⟨rfl, rfl⟩ := trodVars_none hV
  obtain ⟨c0, rfl, s0⟩ := okWide_struct Try.underlying29 (hval 0 29 v0 rfl rfl)
  obtain ⟨c1, rfl, s1⟩ := okWide_struct Try.underlying31 (hval 1 31 v1 rfl rfl)
  obtain ⟨a2, len2, cap2, rfl⟩ := okWide_slice Try.underlying23 (hval 2 23 v2 rfl rfl)
  obtain ⟨c3, rfl, s3⟩ := okWide_struct Try.underlying35 (hval 3 35 v3 rfl rfl)
  obtain ⟨op, rfl, rfl, rfl, w4⟩ := open_int Try.underlying3 (hval 4 3 v4 rfl rfl) h4
  have k0 := h0
  have k1 := h1
  have k2 := h2
  have k3 := h3
  have lt0 : ∀ x ∈ p0, x.block < W.heap.size := by obtain ⟨m, hm⟩ := k0; exact DataW.trod_lt m _ _ _ hm
  have lt1 : ∀ x ∈ p1, x.block < W.heap.size := by obtain ⟨m, hm⟩ := k1; exact DataW.trod_lt m _ _ _ hm
  have lt2 : ∀ x ∈ p2, x.block < W.heap.size := by obtain ⟨m, hm⟩ := k2; exact DataW.trod_lt m _ _ _ hm
  have lt3 : ∀ x ∈ p3, x.block < W.heap.size := by obtain ⟨m, hm⟩ := k3; exact DataW.trod_lt m _ _ _ hm
  obtain ⟨d, e0, _, hd⟩ : ∃ d : PlanD, Value.agg c0 = d.v ∧ d.nil0 ∧ d.lie W := by
    obtain ⟨fuel, hf⟩ := h0
    rw [Try.qcPlan] at s0
    exact qopen_plan (cs := c0.toList) (by simpa using s0) hf
  obtain ⟨r, e1⟩ : ∃ r : RefD, Value.agg c1 = .agg #[.int .i64 r.h, .int .i64 r.f] := by
    obtain ⟨fuel, hf⟩ := h1
    rw [Try.qcRef] at s1
    obtain ⟨l⟩ := c1
    obtain ⟨x, y, rfl⟩ := q2 (l := l) (by simpa using s1)
    obtain ⟨r, rfl, rfl, _⟩ := qopen_ref hf
    exact ⟨r, rfl⟩
  obtain ⟨zs, hz⟩ : ∃ zs, Has .i64 W a2 len2 zs := by
    obtain ⟨fuel, hf⟩ := h2
    obtain ⟨s, zs, e, _, hz⟩ := qopen_ints hf
    simp only [Value.slice.injEq] at e
    obtain ⟨rfl, rfl, _⟩ := e
    exact ⟨zs, hz⟩
  obtain ⟨t, e3, hk⟩ : ∃ t : TabD, Value.agg c3 = t.v ∧ QRow 2 RefD.lie W t.keys t.ks := by
    obtain ⟨fuel, hf⟩ := h3
    rw [Try.qcTab] at s3
    obtain ⟨l⟩ := c3
    obtain ⟨x0, x1, x2, x3, x4, x5, rfl⟩ := q6 (l := l) (by simpa using s3)
    obtain ⟨t, rfl, rfl, rfl, rfl, rfl, rfl, _, hk, _⟩ := qopen_tab hf
    exact ⟨t, rfl, hk⟩
  clear hA0 hval0
  have main := planwidths_main d r a2 len2 cap2 zs t op W hd hz hk
  rw [← e0, ← e1, ← e3] at main
  refine main.mono fun e W' ⟨he, bel⟩ => ?_
  subst he
  exact ⟨_, rfl, _, _, _, [], _, [], hW', trodAll_mk1 (shut_bool Try.underlying4 _), (trodAll_cons_mk (Below.trod laidOut (by kernel_rfl) (of_decide_eq_true (by kernel_rfl)) k0 bel lt0) (trodAll_cons_mk (Below.trod laidOut (by kernel_rfl) (of_decide_eq_true (by kernel_rfl)) k1 bel lt1) (trodAll_cons_mk (Below.trod laidOut (by kernel_rfl) (of_decide_eq_true (by kernel_rfl)) k2 bel lt2) (trodAll_cons_mk (Below.trod laidOut (by kernel_rfl) (of_decide_eq_true (by kernel_rfl)) k3 bel lt3) (trodAll_cons_mk (shut_int Try.underlying3 w4) trodAll_mk0))))), rfl, bel.frame _, fun h => by cases h⟩

theorem over : Rows.planWidthsRow.holds Try.pinned (OpenSpec.ofChange Rows.planWidthsSpec) :=
  OpenClaim.holds_of_wide 3 Try.f3 rfl rfl rfl rfl rfl rfl rfl ⟨rfl, rfl, rfl, rfl, rfl⟩ rfl rfl rfl rfl rfl (by kernel_rfl) Try.func3 (by kernel_rfl)
    (of_decide_eq_true (by kernel_rfl)) (by unfold Func.isWrapper; first | (rw [if_pos (by decide +kernel)]; kernel_rfl) | (rw [if_neg (by decide +kernel)]; exact ⟨rfl, rfl⟩))
    (fun os started H enc _ => lifted os started H enc)

end Go.Proofs.Ytlnkfgdepddmlad.planWidths

namespace Go.Proofs.Ytlnkfgdepddmlad
theorem planWidths_holds : Rows.PlanWidthsSaid := planWidths.over
#print axioms planWidths_holds
end Go.Proofs.Ytlnkfgdepddmlad
