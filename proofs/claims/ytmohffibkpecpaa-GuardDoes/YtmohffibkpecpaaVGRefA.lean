/- The document's word on instructions: fieldsOf, isReg. -/
import Derived.Test.YtmohffibkpecpaaVGFits
import Derived.Test.YtmohffibkpecpaaJ1
namespace Go.Proofs.Ytmohffibkpecpaa
open Go.RowKit

theorem fields_in {op : Int} (h : fieldsN op ≠ 0) : inB op 1 18 = true := by
  unfold fieldsN at h
  rw [show inB op 1 18 = true ↔ 1 ≤ op ∧ op ≤ 18 by simp [inB]]
  repeat' split at h
  all_goals first
    | omega
    | exact absurd rfl h

set_option maxHeartbeats 8000000 in
set_option maxRecDepth 20000 in
theorem rfields (op : Int) (w : World) : Calls Try.prog 16 #[.int .i64 op] w fun e w' => e = .returned (.tuple #[.agg #[.bool (hasR op), .bool (hasS op), .bool (hasK op), .bool (hasT op), .bool (hasN op)], .bool (inB op 1 18)]) ∧ Below w.heap.size w w' := by
  rcases ins_ways op with rfl | rfl | rfl | rfl | rfl | rfl | rfl | rfl | rfl | rfl | rfl | rfl | rfl | rfl | rfl | rfl | rfl | rfl | ⟨h1, h2, h3, h4, h5, h6, h7, h8, h9, h10, h11, h12, h13, h14, h15, h16, h17, h18⟩

  · go_enter Try.func16, Try.ntmps16
    go_wp2
    exact bodyPost_ret (v := .tuple #[.agg #[.bool true, .bool false, .bool false, .bool false, .bool true], .bool true]) (by simp [results, Try.results16, go_sem]) rfl ⟨rfl, bl_alloc (Below.refl _ _)⟩
  · go_enter Try.func16, Try.ntmps16
    go_wp2
    exact bodyPost_ret (v := .tuple #[.agg #[.bool true, .bool true, .bool false, .bool false, .bool false], .bool true]) (by simp [results, Try.results16, go_sem]) rfl ⟨rfl, bl_alloc (Below.refl _ _)⟩
  · go_enter Try.func16, Try.ntmps16
    go_wp2
    exact bodyPost_ret (v := .tuple #[.agg #[.bool true, .bool true, .bool true, .bool false, .bool false], .bool true]) (by simp [results, Try.results16, go_sem]) rfl ⟨rfl, bl_alloc (Below.refl _ _)⟩
  · go_enter Try.func16, Try.ntmps16
    go_wp2
    exact bodyPost_ret (v := .tuple #[.agg #[.bool true, .bool false, .bool false, .bool false, .bool false], .bool true]) (by simp [results, Try.results16, go_sem]) rfl ⟨rfl, bl_alloc (Below.refl _ _)⟩
  · go_enter Try.func16, Try.ntmps16
    go_wp2
    exact bodyPost_ret (v := .tuple #[.agg #[.bool true, .bool true, .bool false, .bool false, .bool false], .bool true]) (by simp [results, Try.results16, go_sem]) rfl ⟨rfl, bl_alloc (Below.refl _ _)⟩
  · go_enter Try.func16, Try.ntmps16
    go_wp2
    exact bodyPost_ret (v := .tuple #[.agg #[.bool true, .bool true, .bool true, .bool false, .bool true], .bool true]) (by simp [results, Try.results16, go_sem]) rfl ⟨rfl, bl_alloc (Below.refl _ _)⟩
  · go_enter Try.func16, Try.ntmps16
    go_wp2
    exact bodyPost_ret (v := .tuple #[.agg #[.bool true, .bool false, .bool false, .bool false, .bool true], .bool true]) (by simp [results, Try.results16, go_sem]) rfl ⟨rfl, bl_alloc (Below.refl _ _)⟩
  · go_enter Try.func16, Try.ntmps16
    go_wp2
    exact bodyPost_ret (v := .tuple #[.agg #[.bool true, .bool false, .bool false, .bool false, .bool true], .bool true]) (by simp [results, Try.results16, go_sem]) rfl ⟨rfl, bl_alloc (Below.refl _ _)⟩
  · go_enter Try.func16, Try.ntmps16
    go_wp2
    exact bodyPost_ret (v := .tuple #[.agg #[.bool true, .bool false, .bool false, .bool true, .bool true], .bool true]) (by simp [results, Try.results16, go_sem]) rfl ⟨rfl, bl_alloc (Below.refl _ _)⟩
  · go_enter Try.func16, Try.ntmps16
    go_wp2
    exact bodyPost_ret (v := .tuple #[.agg #[.bool true, .bool true, .bool false, .bool true, .bool false], .bool true]) (by simp [results, Try.results16, go_sem]) rfl ⟨rfl, bl_alloc (Below.refl _ _)⟩
  · go_enter Try.func16, Try.ntmps16
    go_wp2
    exact bodyPost_ret (v := .tuple #[.agg #[.bool true, .bool true, .bool false, .bool true, .bool false], .bool true]) (by simp [results, Try.results16, go_sem]) rfl ⟨rfl, bl_alloc (Below.refl _ _)⟩
  · go_enter Try.func16, Try.ntmps16
    go_wp2
    exact bodyPost_ret (v := .tuple #[.agg #[.bool false, .bool false, .bool false, .bool true, .bool false], .bool true]) (by simp [results, Try.results16, go_sem]) rfl ⟨rfl, bl_alloc (Below.refl _ _)⟩
  · go_enter Try.func16, Try.ntmps16
    go_wp2
    exact bodyPost_ret (v := .tuple #[.agg #[.bool true, .bool true, .bool true, .bool false, .bool true], .bool true]) (by simp [results, Try.results16, go_sem]) rfl ⟨rfl, bl_alloc (Below.refl _ _)⟩
  · go_enter Try.func16, Try.ntmps16
    go_wp2
    exact bodyPost_ret (v := .tuple #[.agg #[.bool true, .bool false, .bool true, .bool false, .bool false], .bool true]) (by simp [results, Try.results16, go_sem]) rfl ⟨rfl, bl_alloc (Below.refl _ _)⟩
  · go_enter Try.func16, Try.ntmps16
    go_wp2
    exact bodyPost_ret (v := .tuple #[.agg #[.bool true, .bool false, .bool false, .bool false, .bool false], .bool true]) (by simp [results, Try.results16, go_sem]) rfl ⟨rfl, bl_alloc (Below.refl _ _)⟩
  · go_enter Try.func16, Try.ntmps16
    go_wp2
    exact bodyPost_ret (v := .tuple #[.agg #[.bool true, .bool false, .bool false, .bool false, .bool false], .bool true]) (by simp [results, Try.results16, go_sem]) rfl ⟨rfl, bl_alloc (Below.refl _ _)⟩
  · go_enter Try.func16, Try.ntmps16
    go_wp2
    exact bodyPost_ret (v := .tuple #[.agg #[.bool false, .bool false, .bool false, .bool false, .bool false], .bool true]) (by simp [results, Try.results16, go_sem]) rfl ⟨rfl, bl_alloc (Below.refl _ _)⟩
  · go_enter Try.func16, Try.ntmps16
    go_wp2
    exact bodyPost_ret (v := .tuple #[.agg #[.bool true, .bool false, .bool false, .bool false, .bool false], .bool true]) (by simp [results, Try.results16, go_sem]) rfl ⟨rfl, bl_alloc (Below.refl _ _)⟩
  · have e : fieldsN op = 0 := by
      unfold fieldsN
      rw [if_neg (by omega), if_neg (by omega), if_neg (by omega), if_neg (by omega), if_neg (by omega), if_neg (by omega), if_neg (by omega), if_neg (by omega), if_neg (by omega)]
    have e2 : inB op 1 18 = false := by
      have : ¬ (inB op 1 18 = true) := by
        rw [show inB op 1 18 = true ↔ 1 ≤ op ∧ op ≤ 18 by simp [inB]]
        omega
      simpa using this
    rw [show hasR op = false by simp [hasR, e], show hasS op = false by simp [hasS, e], show hasK op = false by simp [hasK, e], show hasT op = false by simp [hasT, e], show hasN op = false by simp [hasN, e], e2]
    clear e e2
    go_enter Try.func16, Try.ntmps16
    go_wp2
    exact bodyPost_ret (v := .tuple #[.agg #[.bool false, .bool false, .bool false, .bool false, .bool false], .bool false]) (by simp [results, Try.results16, go_sem]) rfl ⟨rfl, bl_alloc (Below.refl _ _)⟩

set_option maxHeartbeats 1000000 in
set_option maxRecDepth 20000 in
theorem risReg (n : Int) (w : World) : Calls Try.prog 43 #[.int .i64 n] w fun e w' => e = .returned (.bool (inB n 0 9)) ∧ w' = w := by
  by_cases h1 : 0 ≤ n
  · have d1 := decide_eq_true h1
    have e : inB n 0 9 = decide (n < 10) := by unfold inB; rw [d1, Bool.true_and]; exact decide_eq_decide.2 (by omega)
    rw [e]
    clear e
    go_enter Try.func43, Try.ntmps43
    go_wp2
    go_ret
    exact ⟨rfl, rfl⟩
  · have d1 := decide_eq_false h1
    have e : inB n 0 9 = false := by unfold inB; rw [d1, Bool.false_and]
    rw [e]
    clear e
    go_enter Try.func43, Try.ntmps43
    go_wp2
    go_ret
    exact ⟨rfl, rfl⟩

end Go.Proofs.Ytmohffibkpecpaa
