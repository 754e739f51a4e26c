/- What the document's Get does. -/
import Derived.Test.YtehejhpgehlifabRef4
namespace Go.Proofs.Ytehejhpgehlifab
open Go.RowKit

set_option maxHeartbeats 1000000 in
theorem rget_no (a : Option Addr) (len cap : Nat) (t n : Int) (w : World) (hl : len ≤ 100000) (hcode : codeOf len t n ≠ 0) :
    Calls Try.prog 38 #[.slice a len cap, .int .i64 t, .int .i64 n] w fun e w' => e = .returned (.tuple #[.int .u64 0, .agg #[.int .i64 (codeOf len t n), .int .i64 (-1)]]) ∧ Below w.heap.size w w' := by
  have hc : (codeOf len t n != 0) = true := by simpa using hcode
  have ha : atOf (codeOf len t n) = -1 := by unfold atOf; rw [if_neg hcode]
  clear hcode
  go_enter Try.func38, Try.ntmps38
  go_wp2_with fail
  refine (bitsFault_any _ _ _ _ _ _ hl).mono ?_
  rintro e w1 ⟨rfl, hb1⟩
  have hb1' : Below (w.heap.size + 1) (w.alloc F0) w1 := by simpa using hb1
  obtain ⟨c0, c1, f0, f1, hsz⟩ := fault_cells hb1'
  go_wp2
  go_region
  go_wp2
  exact bodyPost_ret (v := .tuple #[.int .u64 0, .agg #[.int .i64 (codeOf len t n), .int .i64 (-1)]]) (by simp [results, Try.results38, go_sem, c0, c1, hsz]) rfl ⟨rfl, (bl_alloc (end_fault hb1' _ _)).drew⟩

/-- a piece of a row lies as Has says -/
theorem has_cut {w : World} {g n : Nat} {zs : List Int} (h : Has .u8 w (some ⟨g, 0, none⟩) n zs) (t k : Nat) (hk : t + k ≤ n) (h0 : 0 < k) : Has .u8 w (some ⟨g, t, none⟩) k ((zs.drop t).take k) := by
  obtain ⟨b, off, e, hlt, hc⟩ := h.some (by omega)
  simp only [Option.some.injEq, Addr.mk.injEq, and_true] at e
  obtain ⟨rfl, rfl⟩ := e
  have hl := h.1
  refine ⟨by rw [List.length_take, List.length_drop]; omega, fun n hn => h.2.1 n (List.mem_of_mem_drop (List.mem_of_mem_take hn)), .inr ⟨g, t, rfl, hlt, fun i hi => ?_⟩⟩
  have := hc (t + i) (by omega)
  rw [Nat.zero_add] at this
  rw [this]
  simp only [List.getD_eq_getElem?_getD, List.getElem?_take, if_pos hi, List.getElem?_drop]

theorem cut_bits (zs : List Int) (t k N : Nat) (h : t + k ≤ N) (j : Nat) (hj : j < k) : (((Mth.bo zs N).drop t).take k).getD j 0 = ((Mth.bit zs (t + j)).toNat : Int) := by
  have := Mth.bo_at zs N (t + j) (by omega)
  simp only [List.getD_eq_getElem?_getD] at this
  simp only [List.getD_eq_getElem?_getD, List.getElem?_take, if_pos hj, List.getElem?_drop, this]

theorem cut_isbits (zs : List Int) (t k N : Nat) : Mth.IsBits (((Mth.bo zs N).drop t).take k) := by
  intro j
  by_cases hj : j < k
  · have := Mth.bo_bits zs N (t + j)
    simp only [List.getD_eq_getElem?_getD] at this
    simpa only [List.getD_eq_getElem?_getD, List.getElem?_take, if_pos hj, List.getElem?_drop] using this
  · left; simp [List.getD_eq_getElem?_getD, List.getElem?_take, hj]

theorem bo_bytes (zs : List Int) (k : Nat) : Mth.Bytes (Mth.bo zs k) := by
  intro i
  have := Mth.bo_bits zs k i
  omega

set_option maxHeartbeats 1000000 in
theorem rget_yes (a : Option Addr) (len cap t n : Nat) (zs : List Int) (w : World) (hl : len ≤ 100000) (hz : Has .u8 w a len zs) (hcode : codeOf len t n = 0) :
    Calls Try.prog 38 #[.slice a len cap, .int .i64 t, .int .i64 n] w fun e w' => e = .returned (.tuple #[.int .u64 (Mth.rd zs t n), .agg #[.int .i64 0, .int .i64 0]]) ∧ Below w.heap.size w w' := by
  have hk := code_ok hcode
  have hc : (codeOf len t n != 0) = false := by simpa using hcode
  have ha : atOf (codeOf len t n) = 0 := by unfold atOf; rw [if_pos hcode]
  clear hcode
  go_enter Try.func38, Try.ntmps38
  go_wp2_with fail
  refine (bitsFault_any _ _ _ _ _ _ hl).mono ?_
  rintro e w1 ⟨rfl, hb1⟩
  have hb1' : Below w.heap.size w (w1.alloc (.cells #[.int .i64 (codeOf len t n), .int .i64 0] 36)) := bl_alloc (bl_step (bl_alloc (Below.refl _ _)) hb1)
  have hb1s : w.heap.size + 1 ≤ w1.heap.size := by have := hb1.size; simpa using this
  go_wp2_with fail
  refine (bitsOf_any _ _ _ zs _ hl (hz.step hb1')).mono ?_
  rintro e w2 ⟨x, rfl, hown2, hb2⟩
  obtain ⟨g, cp, rfl, hcp, hcm⟩ := owns_head hown2 (by omega)
  unfold maxLen at hcm
  have hz2 := has_cut (has_of_owns hown2 (bo_bytes _ _)) t n (by omega) (by omega)
  have e1 : t ≤ 8 * len := by omega
  have e2 : t + n ≤ 8 * len := by omega
  go_wp2_with fail
  refine (bitsNum_any _ _ _ _ _ (by omega) hz2 (cut_isbits _ _ _ _)).mono ?_
  rintro e w3 ⟨rfl, rfl⟩
  rw [Mth.num_rd zs _ t n (fun j hj => cut_bits zs t n (8 * len) e2 j hj)]
  have hB : Below (w.heap.size + 1) (w.alloc F0) w3 := by
    have h1 : Below (w.heap.size + 1) (w.alloc F0) w1 := by simpa using hb1
    exact (h1.alloc hb1s (.cells #[.int .i64 (codeOf len t n), .int .i64 0] 36)).trans (hb2.mono (by simp; omega))
  obtain ⟨c0, c1, f0, f1, hsz⟩ := fault_cells hB
  clear hown2 hz2 hb2 hb1 hz
  go_wp2
  exact bodyPost_ret (v := .tuple #[.int .u64 (Mth.rd zs t n), .agg #[.int .i64 0, .int .i64 0]]) (by simp [results, Try.results38, go_sem, c0, c1]) rfl ⟨rfl, end_fault hB _ _⟩

theorem rget_any (a : Option Addr) (len cap : Nat) (t n : Int) (zs : List Int) (w : World) (hl : len ≤ 100000) (hz : Has .u8 w a len zs) :
    Calls Try.prog 38 #[.slice a len cap, .int .i64 t, .int .i64 n] w fun e w' => e = .returned (.tuple #[.int .u64 (if codeOf len t n = 0 then (Mth.rd zs t.toNat n.toNat : Int) else 0), .agg #[.int .i64 (codeOf len t n), .int .i64 (if codeOf len t n = 0 then 0 else -1)]]) ∧ Below w.heap.size w w' := by
  by_cases h : codeOf len t n = 0
  · rw [if_pos h, if_pos h, h]
    have hk := code_ok h
    obtain ⟨t', rfl⟩ := Int.eq_ofNat_of_zero_le hk.2.2.1
    obtain ⟨n', rfl⟩ := Int.eq_ofNat_of_zero_le (show 0 ≤ n by omega)
    exact rget_yes a len cap t' n' zs w hl hz h
  · rw [if_neg h, if_neg h]
    exact rget_no a len cap t n w hl h
end Go.Proofs.Ytehejhpgehlifab
