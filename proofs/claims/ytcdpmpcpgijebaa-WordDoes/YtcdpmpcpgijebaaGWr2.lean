/- The writer of programs: numbers, tables, instructions, all. -/
import Derived.Test.YtcdpmpcpgijebaaGWr
import Derived.Test.YtcdpmpcpgijebaaGFits
namespace Go.Proofs.Ytcdpmpcpgijebaa
open Go.RowKit

/-- a number in k bytes, the upper first -/
def bigL : Nat → Nat → List Int
  | 0, _ => []
  | k + 1, n => ((n / 256 ^ k % 256 : Nat) : Int) :: bigL k n

theorem bigL_len (k n : Nat) : (bigL k n).length = k := by
  induction k with
  | zero => rfl
  | succ k ih => simp [bigL, ih]

theorem bigL_byt (k n : Nat) : GByt (bigL k n) := by
  induction k with
  | zero => intro x hx; simp [bigL] at hx
  | succ k ih =>
    intro x hx
    rcases List.mem_cons.1 hx with rfl | hx
    · omega
    · exact ih x hx

set_option maxHeartbeats 1000000 in
set_option maxRecDepth 20000 in
theorem gwhole (B p : Nat) (bs : List Int) (n size : Nat) (w : World) (hn : n < 18446744073709551616) (h8 : size ≤ 8) (h : GWr B p bs w) (hl : bs.length + size ≤ 9000000) :
    Calls Try.prog 42 #[.pointer (some ⟨p, 0, none⟩), .int .u64 n, .int .i64 size] w (GWDone B p (bs ++ bigL size n) w) := by
  have HW := hid h
  have HL := hid hl
  have HN := hid hn
  have H8 := hid h8
  clear h hl hn h8
  go_enter Try.func42, Try.ntmps42
  go_wp2
  go_loopw [8, 6] (fun q _ wr => ∃ (i : Nat) (cs : List Int), q = .int .i64 i ∧ Hid (i ≤ size) ∧ Hid (cs.length = bs.length + i) ∧ Hid (cs ++ bigL (size - i) n = bs ++ bigL size n) ∧ Hid (GWr B p cs wr) ∧ Hid (Below B w wr) ∧ Hid (GFram p w wr)) (fun q _ _ => size - (intOf q).toNat)
  case atStart => exact ⟨0, bs, rfl, Nat.zero_le _, rfl, rfl, HW, Below.refl _ _, GFram.refl _ _⟩
  case round =>
    obtain ⟨i, cs, rfl, HI, HC, HE, WR, HB, HF⟩ := hrel
    have h8 := H8.out
    by_cases hlt : i < size
    · have hli : (i : Int) < (size : Int) := by omega
      obtain ⟨j, hj⟩ : ∃ j : Nat, size - i = j + 1 := ⟨size - i - 1, by omega⟩
      have hjb : j < 8 := by omega
      have hw1 := gwrap_i ((size : Int) - 1) (by omega) (by omega)
      have hw2 : IntKind.i64.wrap ((size : Int) - 1 - (i : Int)) = (j : Int) := by rw [gwrap_i _ (by omega) (by omega)]; omega
      have hw3 : IntKind.i64.wrap (8 * (j : Int)) = ((8 * j : Nat) : Int) := by rw [gwrap_i _ (by omega) (by omega)]; omega
      have wd := WR.out.step (Below.refl wr.heap.size wr).drew
      obtain ⟨a, c, k1, k2, k3, _⟩ := WR.out.at
      obtain ⟨x, hx⟩ : ∃ x : Int, x = ((n / 256 ^ j % 256 : Nat) : Int) := ⟨_, rfl⟩
      have hx2 : 0 ≤ x ∧ x < 256 := by omega
      have hx8 : IntKind.u8.wrap ((n : Int) / 2 ^ (8 * (j : Int)).toNat) = x := by
        rw [hx, show (8 * (j : Int)).toNat = 8 * j by omega, ← gwrap8]
        congr 1
        have h256 : ((256 ^ j : Nat) : Int) = 2 ^ (8 * j) := by
          rw [show (256 : Nat) = 2 ^ 8 from rfl, ← Nat.pow_mul]
          exact Int.natCast_pow 2 _
        rw [Int.natCast_ediv, h256]
      obtain ⟨g, cap, w6, hrun, q1, q2, q3, WN, BN, FN⟩ := wd.push (show wr.drew.cell? ⟨p, 0, none⟩ = _ from k1) x hx2 (by have := HL.out; have := HC.out; omega)
      have hrun' : (Builtin.append_ #[26, 26] 26 #[.slice a cs.length c, .slice (some ⟨wr.heap.size, 0, none⟩) 1 1]).run Try.prog (wr.alloc (.cells #[.int .u8 x] 5)).drew = .ok (.slice (some ⟨g, 0, none⟩) (cs.length + 1) cap) w6 := hrun
      have HE2 : Hid ((cs ++ [x]) ++ bigL (size - (i + 1)) n = bs ++ bigL size n) := by
        show _ = _
        rw [← HE.out, show size - (i + 1) = j by omega, hj, bigL, ← hx]
        simp
      have HC2 : Hid ((cs ++ [x]).length = bs.length + (i + 1)) := by
        show _ = _
        rw [List.length_append, HC.out]
        simp
        omega
      have WN2 := hid WN
      have BN2 := hid ((HB.out.trans ((Below.refl B wr).drew)).trans BN)
      have FN2 := hid ((HF.out.trans (GFram.below (Below.refl wr.heap.size wr).drew)).trans FN)
      clear wd hx hrun WN BN FN WR HB HF HE HC hj
      go_wp2_with fail
      go_region_law (refine gapp_runR rfl _ _ rfl (by simp [Act.eval]) (by simp [Act.eval]) hrun' ?_)
      all_goals
        clear hrun'
        go_wp2
        go_roundw
        case rel => exact ⟨i + 1, _, by go_num, by show _ ≤ _; omega, HC2, HE2, WN2, BN2, FN2⟩
        case measure => simp [intOf]; omega
    · have hli : ¬ (i : Int) < (size : Int) := by omega
      have HE2 : Hid (GWDone B p (bs ++ bigL size n) w (.returned (.tuple #[])) wr) := ⟨rfl, by rw [← HE.out, show size - i = 0 by omega, bigL, List.append_nil]; exact WR.out, HB.out, HF.out⟩
      clear HE WR HB HF HC
      go_wp2
      go_end0
      exact HE2.out
end Go.Proofs.Ytcdpmpcpgijebaa
