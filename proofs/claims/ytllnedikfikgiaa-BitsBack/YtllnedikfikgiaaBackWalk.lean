/- BitsBack answers true. -/
import Derived.Test.YtllnedikfikgiaaBegun
namespace Go.Proofs.Ytllnedikfikgiaa
open Go.RowKit

set_option maxHeartbeats 400000 in
theorem back_long (a : Option Addr) (len cap : Nat) (t n o v : Int) (w : World) (hl : (500 : Int) < (len : Int)) :
    Calls Try.prog 4 #[.slice a len cap, .int .i64 t, .int .i64 n, .int .i64 o, .int .u64 v] w fun e w' => e = .returned (.bool true) ∧ Below w.heap.size w w' := by
  go_enter Try.func4, Try.ntmps4
  go_wp2_with fail
  refine (begun _).mono ?_
  rintro e w1 ⟨rfl, hb1⟩
  go_wp2
  go_ret
  exact ⟨rfl, hb1⟩

set_option maxHeartbeats 400000 in
theorem back_no (a : Option Addr) (len cap : Nat) (t n o v : Int) (w : World) (hl : (len : Int) ≤ 500) (hcode : codeOf len t n ≠ 0) :
    Calls Try.prog 4 #[.slice a len cap, .int .i64 t, .int .i64 n, .int .i64 o, .int .u64 v] w fun e w' => e = .returned (.bool true) ∧ Below w.heap.size w w' := by
  have hc : (codeOf len t n != 0) = true := by simpa using hcode
  go_enter Try.func4, Try.ntmps4
  go_wp2_with fail
  refine (begun _).mono ?_
  rintro e w1 ⟨rfl, hb1⟩
  go_wp2_with fail
  refine (put_no _ _ _ _ _ _ _ (by omega) hcode).mono ?_
  rintro e w2 ⟨rfl, hb2⟩
  go_wp2
  go_ret
  exact ⟨rfl, bl_alloc (bl_step hb1 hb2)⟩

theorem index_of (o : Int) (len : Nat) (h : 0 < len ∧ len ≤ 500) : ∃ K : Nat, K < 8 * len ∧ wrap64 ((IntKind.u64.wrap o).tmod (8 * (len : Int))) = (K : Int) := by
  have h0 := wrap_u64_nonneg o
  rw [Int.tmod_eq_emod_of_nonneg h0]
  have h1 := Int.emod_nonneg (IntKind.u64.wrap o) (show 8 * (len : Int) ≠ 0 by omega)
  have h2 := Int.emod_lt_of_pos (IntKind.u64.wrap o) (show 0 < 8 * (len : Int) by omega)
  generalize IntKind.u64.wrap o % (8 * (len : Int)) = q at *
  refine ⟨q.toNat, by omega, ?_⟩
  unfold wrap64
  omega

set_option maxHeartbeats 1000000 in
theorem back_yes (a : Option Addr) (len cap : Nat) (t n o v : Int) (zs : List Int) (w : World) (hl : (len : Int) ≤ 500) (hv : 0 ≤ v ∧ v < 18446744073709551616) (hz : Has .u8 w a len zs) (hcode : codeOf len t n = 0) :
    Calls Try.prog 4 #[.slice a len cap, .int .i64 t, .int .i64 n, .int .i64 o, .int .u64 v] w fun e w' => e = .returned (.bool true) ∧ Below w.heap.size w w' := by
  have hk := code_ok hcode
  have hbytes := hz.bytes
  have hlen : Hid (zs.length = len) := hz.1
  have HC : Hid (codeOf len t n = 0) := hcode
  clear hcode
  go_enter Try.func4, Try.ntmps4
  go_wp2_with fail
  refine (begun _).mono ?_
  rintro e w1 ⟨rfl, hb1⟩
  go_wp2_with fail
  refine (put_int _ _ _ _ _ _ zs _ (by omega) hv (hz.step hb1) HC.out).mono ?_
  rintro e w2 ⟨g, cp, rfl, hz2, hb2⟩
  go_wp2_with fail
  refine (get_int _ _ _ _ _ _ _ (by omega) hz2.alloc HC.out).mono ?_
  rintro e w3 ⟨rfl, hb3⟩
  have hb3' := bl_step (bl_alloc (bl_step hb1 hb2)) hb3
  have hx : ((Mth.rd (Mth.wr zs t.toNat n.toNat v.toNat n.toNat) t.toNat n.toNat : Int) != bits BinOp.and IntKind.u64 v (maskN n)) = false := by
    rw [and_mask v n hv ⟨hk.1, hk.2.1⟩, Mth.rd_wr _ _ _ _ hbytes (by rw [hlen.out]; omega)]
    simp
  go_wp2_with fail
  refine (mask_int _ _).mono ?_
  rintro e w4 ⟨rfl, rfl⟩
  go_wp2_with fail
  obtain ⟨K, hK, eK⟩ := index_of o len (by omega)
  rw [eK]
  clear eK
  have hcK : codeOf len K 1 = 0 := by
    unfold codeOf; rw [if_neg (by omega), if_neg (by omega)]
  have HK : Hid (codeOf len K 1 = 0) := hcK
  clear hcK
  refine (get_int _ _ _ _ _ _ _ (by omega) (hz.step (bl_alloc hb3')) HK.out).mono ?_
  rintro e w5 ⟨rfl, hb5⟩
  have hb5' := bl_step (bl_alloc hb3') hb5
  have hz5 := (hz2.alloc.step hb3).alloc.step hb5
  go_wp2_with fail
  refine (get_int _ _ _ _ _ _ _ (by omega) hz5.alloc HK.out).mono ?_
  rintro e w6 ⟨rfl, hb6⟩
  have hb6' := bl_step (bl_alloc hb5') hb6
  have hin : ¬ (t ≤ (K : Int) ∧ (K : Int) - t < n) → ((Mth.rd zs K 1 : Int) == (Mth.rd (Mth.wr zs t.toNat n.toNat v.toNat n.toNat) K 1 : Int)) = true := by
    intro hno
    have e1 : ∀ ys, Mth.rd ys K 1 = (Mth.bit ys K).toNat := by intro ys; simp [Mth.rd]
    rw [e1, e1, Mth.wr_bit _ _ _ _ _ _ hbytes (by rw [hlen.out]; omega), if_neg (by omega)]
    simp
  clear hz5 hz2 hb5 hb3 hb2 hb6 hx
  by_cases c1 : t ≤ (K : Int)
  · by_cases c2 : (K : Int) - t < n
    · clear hin
      go_wp2
      go_ret
      exact ⟨rfl, bl_alloc hb6'⟩
    · have hyz := hin (by omega)
      clear hin
      go_wp2
      go_ret
      exact ⟨rfl, bl_alloc hb6'⟩
  · have hyz := hin (by omega)
    clear hin
    go_wp2
    go_ret
    exact ⟨rfl, bl_alloc hb6'⟩
end Go.Proofs.Ytllnedikfikgiaa
