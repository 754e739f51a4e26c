/- What exact.nameOf does. -/
import Derived.Test.YtfpefjadlbphiabU64
import Derived.Test.YtfpefjadlbphiabEMath
import Derived.Test.YtfpefjadlbphiabSame
namespace Go.Proofs.Ytfpefjadlbphiab
open Go.RowKit

theorem one8 (w : World) (y : Value) : ∀ (j : Nat) (u : Value), [y][j]? = some u → (w.alloc (.cells #[y] 5)).cell? ((⟨w.heap.size, 0, none⟩ : Addr).add j) = some u := by
  intro j u hj
  match j, hj with
  | 0, hj => simp at hj; subst hj; simp [Addr.add]

theorem push_byte {w : World} {base n : Nat} {v : Value} {ys : List Int} {x y : Int} (h : w.ownsRow base 5 1 v (n + 1) (BB ys ++ [.int .u8 x])) (e : x = y) : w.ownsRow base 5 1 v (n + 1) (BB (ys ++ [y])) := by
  subst e
  simpa [BB] using h

set_option maxHeartbeats 1000000 in
set_option maxRecDepth 20000 in
theorem name_any (a : Option Addr) (m c : Nat) (ks : List Int) (w : World) (hm : m ≤ 1000) (hk : Has .u64 w a m ks) :
    Calls Try.prog 51 #[.slice a m c] w fun e w' => e = .returned (.string ⟨(Mth.nm ks).toArray⟩) ∧ Below w.heap.size w w' := by
  obtain ⟨i0, hi, hz0, hz1, hz2⟩ := info_parts Try.info5
  have hlen := hk.1
  go_enter Try.func51, Try.ntmps51
  go_wp2_with (at_make; refine wpList_make_own _ rfl _ _ 22 rfl w.heap.size 5 i0 (.int .u8 0) 1 Try.underlying22 hi hz0 hz1 _ _ _ (8 * m) rfl rfl ?m1 ?m2 ?m3 ?m4 ?_)
  case m1 => omega
  case m2 => rw [hz2]; omega
  case m3 => unfold maxLen; omega
  case m4 => exact Nat.le_refl _
  intro w1 hown1 hg1
  have hb1 : Below w.heap.size w w1 := (Below.refl _ _).grown hg1 (Nat.le_refl _) (by intro k hk; cases hk)
  clear hg1
  go_wp2
  go_loopw [3, 13] (fun x q wr => ∃ j : Nat, j ≤ m ∧ q = .int .i64 j ∧ wr.ownsRow w.heap.size 5 1 x (8 * j) (BB (Mth.nmI ks j)) ∧ Below w.heap.size w wr) (fun _ q _ => m - (intOf q).toNat)
  case atStart => exact ⟨0, Nat.zero_le _, rfl, hown1, hb1⟩
  case round =>
    obtain ⟨j, hj, rfl, hown, hb⟩ := hrel
    by_cases hlt : j < m
    · obtain ⟨p1, o1, rfl, hp1, hc1⟩ := hk.some (by omega)
      have q1 : wr.cell? ⟨p1, o1 + j, none⟩ = some (.int .u64 (ks.getD j 0)) := (hb.cell (p := ⟨p1, o1 + j, none⟩) hp1).trans (hc1 j hlt)
      have hv : 0 ≤ ks.getD j 0 ∧ ks.getD j 0 < 18446744073709551616 := by
        have e : ks.getD j 0 = ks[j]'(by omega) := by simp [List.getD_eq_getElem?_getD, show j < ks.length by omega]
        rw [e]; exact hk.nums _ (List.getElem_mem _)
      have HV : Hid (Mth.nmI ks (j + 1) = Mth.nmI ks j ++ Mth.be (ks.getD j 0) 8) := rfl
      clear hc1
      simp only [List.getD_eq_getElem?_getD] at q1 hv HV
      generalize ks[j]?.getD 0 = v at *
      have hki : (j : Int) < (m : Int) := by omega
      go_wp2
      go_loopw [3, 17] (fun x q wr => ∃ i : Nat, i ≤ 8 ∧ q = .int .i64 i ∧ wr.ownsRow w.heap.size 5 1 x (8 * j + i) (BB (Mth.nmI ks j ++ Mth.be v i)) ∧ Below w.heap.size w wr) (fun _ q _ => 8 - (intOf q).toNat)
      case atStart => exact ⟨0, Nat.zero_le _, rfl, by simpa [Mth.be] using hown, hb⟩
      case round =>
        obtain ⟨i, hi8, rfl, hown2, hb2⟩ := hrel
        by_cases hlt2 : i < 8
        · have h0 : 0 ≤ 8 * (7 - (i : Int)) := by omega
          have h1 : 8 * (7 - (i : Int)) < 64 := by omega
          go_wp2_with (at_builtin; refine wpList_append_own _ rfl _ _ 22 rfl w.heap.size 5 i0 (.int .u8 0) 1 1 Try.underlying22 hi hz0 hz1 hz2 rfl (by decide) _ (8 * j + i) (BB (Mth.nmI ks j ++ Mth.be v i)) rfl ?c0 ⟨wr.heap.size, 0, none⟩ 1 1 [.int .u8 (v / 2 ^ (8 * (7 - i)) % 256)] rfl rfl ?c1 ?c2 ?c3 ?c4 ?c5 ?_)
          case c1 => exact one8 _ _
          case c0 => exact hown2.alloc _
          case c2 => intro u hu; simp at hu; subst hu; rfl
          case c3 => unfold maxLen; omega
          case c4 => omega
          case c5 => have := hb2.size; simp; omega
          intro v' w2 hown3 hgr3 _
          have hb3 := (bl_alloc hb2).grown hgr3 (by have := hb2.size; simp; omega) (fun q hq => (hown2.lt q hq).1)
          have hown4 := push_byte hown3 (y := Mth.byteOf v i) rfl
          rw [List.append_assoc, ← Mth.be_succ] at hown4
          clear hown2 hown3 hgr3 hb2
          go_wp2
          go_roundw
          case rel => exact ⟨i + 1, by omega, by go_num, hown4, hb3⟩
          case measure => simp [intOf]; omega
        · have e : i = 8 := by omega
          subst e
          rw [← HV.out] at hown2
          go_wp2
          go_roundw
          case rel => exact ⟨j + 1, by omega, by go_num, by rw [show 8 * (j + 1) = 8 * j + 8 by omega]; exact hown2, hb2⟩
          case measure => simp [intOf]; omega
    · have e : j = m := by omega
      subst e
      obtain ⟨ad, cp, rfl, hz⟩ := has_of_owns8 hown (Mth.nmI_bytes _ _)
      have k1 := conv_bytes cp hz
      clear hz hown
      go_wp2
      go_ret
      exact ⟨by rw [Mth.nm, hlen]; rfl, hb⟩
end Go.Proofs.Ytfpefjadlbphiab
