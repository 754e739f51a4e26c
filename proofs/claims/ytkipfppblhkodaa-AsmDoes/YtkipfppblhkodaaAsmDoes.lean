/- Every step of an Asm (Label, Mark, Put, Done) is as the document says, and what was told before stays: for every input shuntyardlaw.AsmDoes returns true, and its arguments read afterwards as they read before. -/
import Derived.Test.YtkipfppblhkodaaRows
import Derived.Test.YtkipfppblhkodaaALaw
import Derived.Test.YtkipfppblhkodaaGOpen
import Derived.WalkKit
import Derived.ProofKit
import Derived.OpenShut
import Derived.ShutString
import Derived.ChangeOld
import Derived.Below
namespace Go.Proofs.Ytkipfppblhkodaa
open Go.RowKit Go.Maps Go.ChangeShapes Go.WideShapes Go.ChangeAt Go.Deep
theorem Try.gcAStep : Try.prog.cellsOf 36 = 8 := by kernel_rfl
theorem g8 {α : Type} {l : List α} (h : l.length = 8) : ∃ a b c d e f g k, l = [a, b, c, d, e, f, g, k] := by
  match l, h with
  | [a, b, c, d, e, f, g, k], _ => exact ⟨a, b, c, d, e, f, g, k, rfl⟩
theorem glie_astep {H : Type} {enc : TypeId × Value → H} {W : World} {base : Nat} {held : Bool} {fuel g o : Nat} {cs : List Value} {x : DataW H × List MemPlace} (hl : cs.length = 8) (hc : ∀ i, i < 8 → W.cell? ⟨g, o + i, none⟩ = cs[i]?) (h : DataW.trod enc Try.prog W base (fun _ => true) held fuel 36 cs = some x) : ∃ d : AStD, d.lie W g o := by
  obtain ⟨v0, v1, v2, v3, v4, v5, v6, v7, rfl⟩ := g8 hl
  obtain ⟨xs, m, _, _, _, hxl, hf⟩ := DataW.trod_struct Try.underlying36 h
  have f0 := hf 0 _ rfl
  have f1 := hf 1 _ rfl
  have f2 := hf 2 _ rfl
  have hxl3 : xs.length = 3 := hxl
  rw [List.getElem?_eq_getElem (by omega)] at f0 f1 f2
  simp only [List.getElem_toArray, List.getElem_cons_zero, List.getElem_cons_succ, Try.gcInt, Try.gcIns, List.drop_succ_cons, List.drop_zero, List.take_succ_cons, List.take_zero] at f0 f1 f2
  obtain ⟨a, rfl, ha⟩ := gopen_num f0
  obtain ⟨b, rfl, hb⟩ := gopen_num f1
  obtain ⟨d, hd⟩ := glie_ins (g := g) (o := o + 2) rfl (fun i hi => by
    have := hc (2 + i) (by omega)
    rw [← Nat.add_assoc] at this
    rw [this]
    rcases (show i = 0 ∨ i = 1 ∨ i = 2 ∨ i = 3 ∨ i = 4 ∨ i = 5 by omega) with rfl | rfl | rfl | rfl | rfl | rfl <;> rfl) f2
  exact ⟨⟨a, b, d⟩, ⟨hc 0 (by omega), ha⟩, ⟨hc 1 (by omega), hb⟩, hd⟩
end Go.Proofs.Ytkipfppblhkodaa
namespace Go.Proofs.Ytkipfppblhkodaa.asmDoes
open Go.ChangeShapes Go.WideShapes Go.ChangeAt Go.RowKit

theorem own : ownKnob Try.prog.godebug = none := by kernel_rfl
theorem laidOut : laidOutB Try.prog = true := by kernel_rfl

set_option maxRecDepth 100000 in
theorem lifted (os : Os) (started : os.Started) (H : Type) (enc : TypeId × Value → H) :
    ReturnsInHanded {} Try.checked os 3 .any (Rows.asmDoesSpec.pre6 enc Try.prog Try.f3 Rows.asmDoesRow.domain false) (Rows.asmDoesSpec.post enc Try.prog Try.f3 false true false false) := by
  refine returnsInHanded_of_change (C := Try.checked) own started (by kernel_rfl) Try.func3
    (ChangeSpec.witness6 (enc := enc) (C := Try.checked) false ⟨#[], #[.slice none 0 0, .slice none 0 0], []⟩ 8 (by kernel_rfl) (by kernel_rfl) (by kernel_rfl) (by kernel_rfl)) ?_
  intro W base args ds gs before hval0 hW hcnd _
  have hval : ∀ (j : Nat) t v, Try.f3.params[j]? = some t → args[j]? = some v → Value.okWide Try.prog W .any base t v := hval0
  have hW' := hW
  obtain ⟨p, q, hA0, hV, rfl, hfz, hnd⟩ := hW
  have hA : DataW.TrodAll enc Try.prog W 0 (fun _ => true) true Try.f3.params.toList args.toList ds p := hA0
  rw [Try.params3] at hA hval
  obtain ⟨v0, vs0, d0, ds0, p0, q0, hargs, rfl, rfl, h0, r0⟩ := trodAll_cons hA
  obtain ⟨v1, vs1, d1, ds1, p1, q1, rfl, rfl, rfl, h1, r1⟩ := trodAll_cons r0
  obtain ⟨rfl, rfl, rfl⟩ := trodAll_nil r1
  obtain rfl : args = #[v0, v1] := by cases args; simp_all
  obtain ⟨rfl, rfl⟩ := trodVars_none hV
  obtain ⟨a0, len0, cap0, rfl⟩ := okWide_slice Try.underlying22 (hval 0 22 v0 rfl rfl)
  obtain ⟨a1, len1, cap1, rfl⟩ := okWide_slice Try.underlying23 (hval 1 23 v1 rfl rfl)
  have k0 := h0
  have k1 := h1
  have lt0 : ∀ x ∈ p0, x.block < W.heap.size := by obtain ⟨m, hm⟩ := k0; exact DataW.trod_lt m _ _ _ hm
  have lt1 : ∀ x ∈ p1, x.block < W.heap.size := by obtain ⟨m, hm⟩ := k1; exact DataW.trod_lt m _ _ _ hm
  obtain ⟨s0, S0, e0, n0, row0⟩ : ∃ s : QSl, ∃ S, Value.slice a0 len0 cap0 = .slice s.a s.n s.c ∧ s.nil0 ∧ QRow 8 AStD.lie W s S := by
    obtain ⟨fuel, hf⟩ := h0
    exact gopen_row Try.underlying22 Try.gcAStep (by omega) (P := AStD.lie) (fun h1 h2 h3 => glie_astep h1 h2 h3) hf
  obtain ⟨s1, S1, e1, n1, row1⟩ : ∃ s : QSl, ∃ S, Value.slice a1 len1 cap1 = .slice s.a s.n s.c ∧ s.nil0 ∧ QRow 3 ShapeD.lie W s S := by
    obtain ⟨fuel, hf⟩ := h1
    exact gopen_row Try.underlying23 Try.gcShape (by omega) (P := ShapeD.lie) (fun h1 h2 h3 => glie_shape h1 h2 h3) hf
  clear hA0 hval0
  have main := asmdoes_main s0 s1 S0 S1 W row0 row1 n1
  rw [← e0, ← e1] at main
  refine main.mono fun e W' ⟨he, bel⟩ => ?_
  subst he
  exact ⟨_, rfl, _, _, _, [], _, [], hW', trodAll_mk1 (shut_bool Try.underlying4 _), (trodAll_cons_mk (Below.trod laidOut (by kernel_rfl) (of_decide_eq_true (by kernel_rfl)) k0 bel lt0) (trodAll_cons_mk (Below.trod laidOut (by kernel_rfl) (of_decide_eq_true (by kernel_rfl)) k1 bel lt1) trodAll_mk0)), rfl, bel.frame _, fun h => by cases h⟩

theorem over : Rows.asmDoesRow.holds Try.pinned (OpenSpec.ofChange Rows.asmDoesSpec) :=
  OpenClaim.holds_of_wide 3 Try.f3 rfl rfl rfl rfl rfl rfl rfl ⟨rfl, rfl, rfl, rfl, rfl⟩ rfl rfl rfl rfl rfl (by kernel_rfl) Try.func3 (by kernel_rfl)
    (of_decide_eq_true (by kernel_rfl)) (by unfold Func.isWrapper; first | (rw [if_pos (by decide +kernel)]; kernel_rfl) | (rw [if_neg (by decide +kernel)]; exact ⟨rfl, rfl⟩))
    (fun os started H enc _ => lifted os started H enc)

end Go.Proofs.Ytkipfppblhkodaa.asmDoes

namespace Go.Proofs.Ytkipfppblhkodaa
theorem asmDoes_holds : Rows.AsmDoesSaid := asmDoes.over
#print axioms asmDoes_holds
end Go.Proofs.Ytkipfppblhkodaa
