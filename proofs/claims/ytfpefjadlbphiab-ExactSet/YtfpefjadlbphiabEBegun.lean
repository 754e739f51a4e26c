/- What exactBegun does. -/
import Derived.Test.YtfpefjadlbphiabEFind
namespace Go.Proofs.Ytfpefjadlbphiab
open Go.RowKit Go.Maps

abbrev O1 (x : Int) : Obj := .cells #[.int .u64 x] 71

theorem one_num (w : World) (x : Int) (h : 0 ≤ x ∧ x < 100) : Has .u64 (w.alloc (O1 x)) (some ⟨w.heap.size, 0, none⟩) 1 [x] := by
  refine ⟨rfl, by intro n hn; simp at hn; subst hn; exact wf_u64 _ (by omega), .inr ⟨_, _, rfl, by simp, ?_⟩⟩
  intro i hi
  match i, hi with
  | 0, _ => simp

theorem says_three (w : World) (x : Int) : Says w (.agg #[.int .i64 x, .slice none 0 0]) (x, []) := ⟨none, 0, 0, rfl, fun _ => ⟨rfl, rfl⟩, by omega, has_nil _ _⟩

theorem five_six : Mth.nm [6] ≠ Mth.nm [5] := by decide

set_option maxHeartbeats 1000000 in
set_option maxRecDepth 20000 in
theorem exact_begun (w : World) : Calls Try.prog 26 #[] w fun e w' => e = .returned (.bool true) ∧ Below w.heap.size w w' := by
  go_enter Try.func26, Try.ntmps26
  go_wp2_with fail
  refine (new_any 1 1 _).mono ?_
  rintro e w1 ⟨rfl, t1, hb1⟩
  have T1 := hid (t1.step (bl_alloc (o := O1 5) (Below.refl w1.heap.size w1)))
  have K1 := hid (one_num w1 5 (by omega))
  have B1 := hid hb1
  have hz1 : w.heap.size < w1.heap.size := by obtain ⟨es, cl, h⟩ := t1.isMap; exact (Array.getElem?_eq_some_iff.1 h).1
  clear t1 hb1
  go_wp2_with fail
  refine (add_good T1.out (by omega) (by decide) K1.out rfl (by decide) (says_three _ 3)).mono ?_
  rintro e w2 ⟨rfl, t2, hg2⟩
  have B2 := hid ((bl_alloc (o := O1 5) B1.out).grown hg2 (by have := (bl_alloc (o := O1 5) B1.out).size; exact this) (fun k hk => by cases hk; exact Nat.le_refl _))
  have T2 := hid (t2.step (bl_alloc (o := O1 6) (Below.refl w2.heap.size w2)))
  have K2 := hid (one_num w2 6 (by omega))
  clear t2 hg2 T1 K1 B1
  go_wp2_with fail
  refine (add_full T2.out (by omega) K2.out (by unfold upd; rw [if_neg five_six]; rfl) (by decide)).mono ?_
  rintro e w3 ⟨rfl, hb3⟩
  have B3 := hid (bl_step (bl_alloc (o := O1 6) B2.out) hb3)
  have T3 := hid ((T2.out.step hb3).step (bl_alloc (o := O1 5) (Below.refl w3.heap.size w3)))
  have K3 := hid (one_num w3 5 (by omega))
  clear T2 K2 B2 hb3
  go_wp2_with fail
  refine (find_any T3.out (by omega) K3.out).mono ?_
  rintro e w4 ⟨v, rfl, hs, hb4⟩
  have hf : found (upd (fun _ => none) (Mth.nm [5]) (some (3, []))) 1 1 [5] = some (3, []) := by unfold found upd; simp
  rw [hf] at hs ⊢
  obtain ⟨a, n, c, rfl, _⟩ := hs
  have B4 := hid (bl_step (bl_alloc (o := O1 5) B3.out) hb4)
  clear T3 K3 B3 hb4 hf
  go_wp2
  go_ret
  exact ⟨rfl, bl_alloc B4.out⟩
end Go.Proofs.Ytfpefjadlbphiab
