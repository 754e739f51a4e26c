/- NOT WHEN, BUT WHAT: a table to which all entries of another one are added anew, in another order, tells the same: for every input shuntyardlaw.StoreSet returns true, and its arguments read afterwards as they read before. -/
import Derived.Test.YtffbnggdckjogaaGreatRows
import Derived.Test.YtffbnggdckjogaaGreatG44
import Derived.Test.YtffbnggdckjogaaGreatG46
import Derived.Test.YtffbnggdckjogaaGreatG29
import Derived.WalkKit
import Derived.ProofKit
import Derived.OpenShut
import Derived.ShutString
import Derived.ChangeOld
import Derived.Below
namespace Go.Proofs.YtffbnggdckjogaaGreat.storeSet
open Go.ChangeShapes Go.WideShapes Go.ChangeAt Go.RowKit

theorem own : ownKnob Tryz.prog.godebug = none := by kernel_rfl
theorem laidOut : laidOutB Tryz.prog = true := by kernel_rfl

set_option maxRecDepth 100000 in
theorem lifted (os : Os) (started : os.Started) (H : Type) (enc : TypeId × Value → H) :
    ReturnsInHanded {} Tryz.checked os 3 .any (Rows.storeSetSpec.pre6 enc Tryz.prog Tryz.f3 Rows.storeSetRow.domain false) (Rows.storeSetSpec.post enc Tryz.prog Tryz.f3 false true false false) := by
  refine returnsInHanded_of_change (C := Tryz.checked) own started (by kernel_rfl) Tryz.func3
    (ChangeSpec.witness6 (enc := enc) (C := Tryz.checked) false ⟨#[], #[.agg #[.int .i64 0, .slice none 0 0, .slice none 0 0, .int .i64 0, .int .i64 0, .slice none 0 0], .slice none 0 0, .slice none 0 0, .slice none 0 0, .int .i64 0], []⟩ 8 (by kernel_rfl) (by kernel_rfl) (by kernel_rfl) (by kernel_rfl)) ?_
  intro W base args ds gs before hval0 hW hcnd _
  have hval : ∀ (j : Nat) t v, Tryz.f3.params[j]? = some t → args[j]? = some v → Value.okWide Tryz.prog W .any base t v := hval0
  have hW' := hW
  obtain ⟨p, q, hA0, hV, rfl, hfz, hnd⟩ := hW
  have hA : DataW.TrodAll enc Tryz.prog W 0 (fun _ => true) true Tryz.f3.params.toList args.toList ds p := hA0
  rw [Tryz.params3] at hA hval
  obtain ⟨v0, vs0, d0, ds0, p0, q0, hargs, rfl, rfl, h0, r0⟩ := trodAll_cons hA
  obtain ⟨v1, vs1, d1, ds1, p1, q1, rfl, rfl, rfl, h1, r1⟩ := trodAll_cons r0
  obtain ⟨v2, vs2, d2, ds2, p2, q2, rfl, rfl, rfl, h2, r2⟩ := trodAll_cons r1
  obtain ⟨v3, vs3, d3, ds3, p3, q3, rfl, rfl, rfl, h3, r3⟩ := trodAll_cons r2
  obtain ⟨v4, vs4, d4, ds4, p4, q4, rfl, rfl, rfl, h4, r4⟩ := trodAll_cons r3
  obtain ⟨rfl, rfl, rfl⟩ := trodAll_nil r4
  obtain rfl : args = #[v0, v1, v2, v3, v4] := by cases args; simp_all
  obtain ⟨rfl, rfl⟩ := trodVars_none hV
  obtain ⟨c0, rfl, s0⟩ := okWide_struct Tryz.underlying26 (hval 0 26 v0 rfl rfl)
  obtain ⟨a1, n1, c1, rfl⟩ := okWide_slice Tryz.underlying23 (hval 1 23 v1 rfl rfl)
  obtain ⟨a2, n2, c2, rfl⟩ := okWide_slice Tryz.underlying27 (hval 2 27 v2 rfl rfl)
  obtain ⟨a3, n3, c3, rfl⟩ := okWide_slice Tryz.underlying28 (hval 3 28 v3 rfl rfl)
  obtain ⟨a4, rfl, rfl, rfl, w4⟩ := open_int Tryz.underlying3 (hval 4 3 v4 rfl rfl) h4
  have k0 := h0
  have k1 := h1
  have k2 := h2
  have k3 := h3
  have lt0 : ∀ x ∈ p0, x.block < W.heap.size := by obtain ⟨m, hm⟩ := k0; exact DataW.trod_lt m _ _ _ hm
  have lt1 : ∀ x ∈ p1, x.block < W.heap.size := by obtain ⟨m, hm⟩ := k1; exact DataW.trod_lt m _ _ _ hm
  have lt2 : ∀ x ∈ p2, x.block < W.heap.size := by obtain ⟨m, hm⟩ := k2; exact DataW.trod_lt m _ _ _ hm
  have lt3 : ∀ x ∈ p3, x.block < W.heap.size := by obtain ⟨m, hm⟩ := k3; exact DataW.trod_lt m _ _ _ hm
  obtain ⟨d, e0, hd1, hd2, hd3, hd4⟩ : ∃ d : TabD, Value.agg c0 = d.v' ∧ Has .i64 W d.acts.a d.acts.n d.al ∧ Has .u64 W d.args.a d.args.n d.zs ∧ d.args.nil0 ∧ (Lit.int .i64 d.cap).wf = true := by
    obtain ⟨fuel, hf⟩ := h0
    rw [Tryz.qcTab] at s0
    obtain ⟨x0, x1, x2, x3, x4, x5, ex⟩ := q6 (l := c0.toList) (by simpa using s0)
    have hf' := hf
    simp only [Value.cells] at hf'
    rw [ex] at hf'
    obtain ⟨d, rfl, rfl, rfl, rfl, rfl, rfl, ⟨_, hcap, _, _, _, hn0⟩, _, hac, har⟩ := qopen_tab hf'
    refine ⟨d, ?_, hac, har, hn0, hcap⟩
    have : c0 = c0.toList.toArray := by simp
    rw [this, ex]
  obtain ⟨s1, z1, e1, hn1, hr1⟩ : ∃ s : QSl, ∃ zs, Value.slice a1 n1 c1 = .slice s.a s.n s.c ∧ s.nil0 ∧ Has .i64 W s.a s.n zs := by
    obtain ⟨fuel, hf⟩ := h1
    exact qopen_ints hf
  obtain ⟨s2, z2, e2, hn2, hr2⟩ : ∃ s : QSl, ∃ S, Value.slice a2 n2 c2 = .slice s.a s.n s.c ∧ s.nil0 ∧ QRow 2 ActD.lie W s S := by
    obtain ⟨fuel, hf⟩ := h2
    exact qopen_row Tryz.underlying27 Tryz.qcAct (by omega) (P := ActD.lie) (fun h1 h2 h3 => qlie_act h1 h2 h3) hf
  obtain ⟨S, hS⟩ : ∃ S, Steps W a3 n3 S := by
    obtain ⟨fuel, hf⟩ := h3
    exact open_steps hf
  clear hA0 hval0
  have main := storeset_main d s1 z1 s2 z2 a3 n3 c3 S a4 W hr1 hn1 hd4 hd1 hd2 hd3 hr2 hS
  rw [← e0, ← e1, ← e2] at main
  refine main.mono fun e W' ⟨he, bel⟩ => ?_
  subst he
  exact ⟨_, rfl, _, _, _, [], _, [], hW', trodAll_mk1 (shut_bool Tryz.underlying4 _), (trodAll_cons_mk (Below.trod laidOut (by kernel_rfl) (of_decide_eq_true (by kernel_rfl)) k0 bel lt0) (trodAll_cons_mk (Below.trod laidOut (by kernel_rfl) (of_decide_eq_true (by kernel_rfl)) k1 bel lt1) (trodAll_cons_mk (Below.trod laidOut (by kernel_rfl) (of_decide_eq_true (by kernel_rfl)) k2 bel lt2) (trodAll_cons_mk (Below.trod laidOut (by kernel_rfl) (of_decide_eq_true (by kernel_rfl)) k3 bel lt3) (trodAll_cons_mk (shut_int Tryz.underlying3 w4) trodAll_mk0))))), rfl, bel.frame _, fun h => by cases h⟩

theorem over : Rows.storeSetRow.holds Tryz.pinned (OpenSpec.ofChange Rows.storeSetSpec) :=
  OpenClaim.holds_of_wide 3 Tryz.f3 rfl rfl rfl rfl rfl rfl rfl ⟨rfl, rfl, rfl, rfl, rfl⟩ rfl rfl rfl rfl rfl (by kernel_rfl) Tryz.func3 (by kernel_rfl)
    (of_decide_eq_true (by kernel_rfl)) (by unfold Func.isWrapper; first | (rw [if_pos (by decide +kernel)]; kernel_rfl) | (rw [if_neg (by decide +kernel)]; exact ⟨rfl, rfl⟩))
    (fun os started H enc _ => lifted os started H enc)

end Go.Proofs.YtffbnggdckjogaaGreat.storeSet

namespace Go.Proofs.YtffbnggdckjogaaGreat
theorem storeSet_holds : Rows.StoreSetSaid := storeSet.over
#print axioms storeSet_holds
end Go.Proofs.YtffbnggdckjogaaGreat
