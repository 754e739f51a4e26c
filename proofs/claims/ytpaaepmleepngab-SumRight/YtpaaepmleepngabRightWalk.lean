/- SumRight answers true. -/
import Derived.Test.YtpaaepmleepngabRightMath
namespace Go.Proofs.Ytpaaepmleepngab
open Go.RowKit

theorem right_long (l : Option Addr) (len cap : Nat) (p q r : Int) (w : World) (h : (5000 : Int) < (len : Int) ∨ (len : Int) < 2) :
    Calls Try.prog 3 #[.slice l len cap, .int .i64 p, .int .i64 q, .int .i64 r] w fun e w' => e = .returned (.bool true) ∧ Below w.heap.size w w' := by
  by_cases h1 : (5000 : Int) < (len : Int)
  · go_enter Try.func3, Try.ntmps3
    go_wp2_with fail
    refine (sum_begun _).mono ?_
    rintro e w1 ⟨rfl, hb1⟩
    go_wp2
    go_ret
    exact ⟨rfl, hb1⟩
  · have h2 : (len : Int) < 2 := by omega
    go_enter Try.func3, Try.ntmps3
    go_wp2_with fail
    refine (sum_begun _).mono ?_
    rintro e w1 ⟨rfl, hb1⟩
    go_wp2
    go_ret
    exact ⟨rfl, hb1⟩

theorem even_of (o : Int) (len : Nat) (h : 2 ≤ len ∧ len ≤ 5000) : ∃ K : Nat, 2 * K + 1 < len ∧ wrap64 ((IntKind.u64.wrap o).tmod ((len : Int) / 2)) = (K : Int) := by
  have h0 := wrap_u64_nonneg o
  rw [Int.tmod_eq_emod_of_nonneg h0]
  have h1 := Int.emod_nonneg (IntKind.u64.wrap o) (show (len : Int) / 2 ≠ 0 by omega)
  have h2 := Int.emod_lt_of_pos (IntKind.u64.wrap o) (show 0 < (len : Int) / 2 by omega)
  generalize IntKind.u64.wrap o % ((len : Int) / 2) = q at *
  refine ⟨q.toNat, by omega, ?_⟩
  unfold wrap64
  omega

theorem own_put2 {w : World} {base g len cap : Nat} {zs : List Int} (h : w.ownsRow base 5 1 (.slice (some ⟨g, 0, none⟩) len cap) len (BB zs)) (k : Nat) (x y : Int) :
    ((w.setCell ⟨g, k, none⟩ (.int .u8 x)).setCell ⟨g, k + 1, none⟩ (.int .u8 y)).ownsRow base 5 1 (.slice (some ⟨g, 0, none⟩) len cap) len (BB (Mth.put2 zs k x y)) ∧
      Below base w ((w.setCell ⟨g, k, none⟩ (.int .u8 x)).setCell ⟨g, k + 1, none⟩ (.int .u8 y)) := by
  have h1 := h.stored k (.int .u8 x)
  have h2 := h1.1.stored (k + 1) (.int .u8 y)
  have hg := (h.lt g rfl)
  refine ⟨?_, ((Below.refl base w).setCell hg.1 _).setCell hg.1 _⟩
  have e : BB (Mth.put2 zs k x y) = ((BB zs).set k (.int .u8 x)).set (k + 1) (.int .u8 y) := by simp only [BB, Mth.put2, List.map_set]
  rw [e]
  exact h2.1

theorem own_at {w : World} {base g len cap : Nat} {zs : List Int} (h : w.ownsRow base 5 1 (.slice (some ⟨g, 0, none⟩) len cap) len (BB zs)) (i : Nat) (hi : i < len) : w.cell? ⟨g, i, none⟩ = some (.int .u8 (zs.getD i 0)) := by
  have hl : zs.length = len := by simpa [BB] using h.1
  rw [h.cellAt i (by omega)]
  simp only [BB, List.getElem?_map, List.getD_eq_getElem?_getD]
  rw [List.getElem?_eq_getElem (by omega)]; rfl

set_option maxRecDepth 20000 in
set_option maxHeartbeats 4000000 in
theorem right_short (l : Option Addr) (len cap : Nat) (p q r : Int) (zs : List Int) (w : World) (h1 : (len : Int) ≤ 5000) (h2 : 2 ≤ (len : Int)) (hn : l = none → len = 0 ∧ cap = 0) (hz : Has .u8 w l len zs) :
    Calls Try.prog 3 #[.slice l len cap, .int .i64 p, .int .i64 q, .int .i64 r] w fun e w' => e = .returned (.bool true) ∧ Below w.heap.size w w' := by
  have HN := hid hn
  have HZ := hid hz
  have hby := hz.bytes
  have hlen := hz.1
  clear hn hz
  obtain ⟨K, hK, eK⟩ := even_of p len (by omega)
  obtain ⟨J, hJ, eJ⟩ := even_of q len (by omega)
  go_enter Try.func3, Try.ntmps3
  go_wp2_with fail
  refine (sum_begun _).mono ?_
  rintro e w1 ⟨rfl, hb1⟩
  have HZ1 := hid (HZ.out.step hb1)
  go_wp2_with (at_builtin; refine copy_law rfl _ _ rfl rfl _ _ _ zs rfl HN.out ?c1 ?c2 ?_)
  case c1 => exact HZ1.out
  case c2 => omega
  intro v2 w2 hown2 hb2
  obtain ⟨g, cp, rfl, hcp, hmax⟩ := owns_head hown2 (by omega)
  have O2 := hid hown2
  clear hown2
  have c0 := own_at O2.out (2 * K) (by omega)
  have c1 := own_at O2.out (2 * K + 1) (by omega)
  have f0 := O2.out.frozenAt (2 * K)
  have f1 := O2.out.frozenAt (2 * K + 1)
  have i1 : (2 * (K : Int)).toNat = 2 * K := by omega
  have i2 : (2 * (K : Int) + 1).toNat = 2 * K + 1 := by omega
  generalize zs.getD (2 * K) 0 = x0 at c0
  generalize zs.getD (2 * K + 1) 0 = x1 at c1
  go_wp2_with fail
  have P3 := own_put2 O2.out (2 * K) 0 0
  have hb3 := Mth.put2_bytes zs (2 * K) 0 0 (by omega) hby (by decide) (by decide)
  refine (of_any _ _ _ (Mth.put2 zs (2 * K) 0 0) _ (by omega) (has_of_owns P3.1 hb3)).mono ?_
  rintro e w3 ⟨rfl, e3⟩
  rw [← e3] at P3
  clear e3 c0 c1 f0 f1
  have O3 := hid P3.1
  have B3 := P3.2
  clear P3
  have hR := Mth.total_le zs hby K ((len + 1) / 2) (by omega)
  obtain ⟨R, eR⟩ : ∃ R, R = Mth.total zs ((len + 1) / 2) - Mth.wd zs (2 * K) := ⟨_, rfl⟩
  have hW3 : Mth.whole (Mth.put2 zs (2 * K) 0 0) = Mth.norm R := by
    unfold Mth.whole
    rw [Mth.put2_length, hlen, Mth.wh_norm _ hb3, Mth.total_put2 _ _ _ _ (by omega), if_pos (by omega), eR]
    congr 1
    omega
  have hNR := Mth.norm_range R
  rw [hW3, Mth.less_of _ hNR]
  obtain ⟨S, eS⟩ : ∃ S, S = 65535 - Mth.norm R := ⟨_, rfl⟩
  rw [← eS]
  have hS : 0 ≤ S ∧ S ≤ 65535 := by omega
  have ES := hid eS
  have ER := hid eR
  have HW3 := hid hW3
  clear eS eR hW3
  obtain ⟨z3, ez3⟩ : ∃ z3, z3 = Mth.put2 zs (2 * K) 0 0 := ⟨_, rfl⟩
  rw [← ez3] at O3 HW3 hb3
  have EZ3 := hid ez3
  clear ez3
  have c0 := own_at O3.out (2 * K) (by omega)
  have c1 := own_at O3.out (2 * K + 1) (by omega)
  have f0 := O3.out.frozenAt (2 * K)
  have f1 := O3.out.frozenAt (2 * K + 1)
  generalize z3.getD (2 * K) 0 = x0 at c0
  generalize z3.getD (2 * K + 1) 0 = x1 at c1
  go_wp2_with fail
  have P4 := own_put2 O3.out (2 * K) (S / 256) (S % 256)
  have hl3 : z3.length = len := by rw [EZ3.out, Mth.put2_length, hlen]
  have hb4 := Mth.put2_bytes z3 (2 * K) (S / 256) (S % 256) (by omega) hb3 (by omega) (by omega)
  refine (right_any _ _ _ (Mth.put2 z3 (2 * K) (S / 256) (S % 256)) _ (by omega) (has_of_owns P4.1 hb4)).mono ?_
  rintro e w4 ⟨rfl, e4⟩
  rw [← e4] at P4
  clear e4 c0 c1 f0 f1
  have O4 := hid P4.1
  have B4 := P4.2
  clear P4
  have hT3 : Mth.total z3 ((len + 1) / 2) = R := by
    rw [EZ3.out, Mth.total_put2 _ _ _ _ (by omega), if_pos (by omega), ER.out]
    omega
  have hd3 : Mth.wd z3 (2 * K) = 0 := by rw [EZ3.out, Mth.wd_put2 _ _ _ _ _ (by omega), if_pos rfl]; rfl
  have hT4 : Mth.total (Mth.put2 z3 (2 * K) (S / 256) (S % 256)) ((len + 1) / 2) = R + S := by
    rw [Mth.total_put2 _ _ _ _ (by omega), if_pos (by omega), hT3, hd3]
    omega
  have hW4 : Mth.whole (Mth.put2 z3 (2 * K) (S / 256) (S % 256)) = 65535 := by
    unfold Mth.whole
    rw [Mth.put2_length, hl3, Mth.wh_norm _ hb4, hT4, ES.out, Mth.right_num R (by have := ER.out; omega)]
  rw [hW4]
  have hB4 : Below w.heap.size w w4 := bl_step hb1 (hb2.trans (B3.trans B4))
  have HT3 := hid hT3
  have HD3 := hid hd3
  have HT4 := hid hT4
  clear hT3 hd3 hT4 hW4
  by_cases hJK : J = K
  · subst hJK
    clear HT3 HD3 HT4
    go_wp2
    go_ret
    exact ⟨rfl, hB4⟩
  have hne : ¬ (2 * (J : Int) = 2 * (K : Int)) := by omega
  obtain ⟨z4, ez4⟩ : ∃ z4, z4 = Mth.put2 z3 (2 * K) (S / 256) (S % 256) := ⟨_, rfl⟩
  rw [← ez4] at O4 HT4 hb4
  have EZ4 := hid ez4
  clear ez4
  have c0 := own_at O4.out (2 * J) (by omega)
  have c1 := own_at O4.out (2 * J + 1) (by omega)
  have f0 := O4.out.frozenAt (2 * J)
  have f1 := O4.out.frozenAt (2 * J + 1)
  have j1 : (2 * (J : Int)).toNat = 2 * J := by omega
  have j2 : (2 * (J : Int) + 1).toNat = 2 * J + 1 := by omega
  have y0 := hb4 (2 * J)
  have y1 := hb4 (2 * J + 1)
  have hF : Hid (Mth.wd z4 (2 * J) = 256 * z4.getD (2 * J) 0 + z4.getD (2 * J + 1) 0) := rfl
  generalize z4.getD (2 * J) 0 = x0 at c0 y0 hF
  generalize z4.getD (2 * J + 1) 0 = x1 at c1 y1 hF
  have hor := join8 x0 x1 y0 y1
  obtain ⟨F, eF⟩ : ∃ F, F = 256 * x0 + x1 := ⟨_, rfl⟩
  rw [← eF] at hF hor
  have hFr : 0 ≤ F ∧ F ≤ 65535 := by omega
  clear eF
  go_wp2
  go_big_quiet (fail)
  have hne1 : ¬ (2 * K = 2 * J) := by omega
  have hne2 : ¬ (2 * K = 2 * J + 1) := by omega
  have hne3 : ¬ (2 * K + 1 = 2 * J) := by omega
  have hne4 : ¬ (2 * K + 1 = 2 * J + 1) := by omega
  have hKJ : ¬ K = J := by omega
  have d0 := own_at O4.out (2 * K) (by omega)
  have d1 := own_at O4.out (2 * K + 1) (by omega)
  have g0 := O4.out.frozenAt (2 * K)
  have g1 := O4.out.frozenAt (2 * K + 1)
  generalize z4.getD (2 * K) 0 = u0 at d0
  generalize z4.getD (2 * K + 1) 0 = u1 at d1
  go_wp2
  have O4q : (w4.drewN nq).ownsRow w1.heap.size 5 1 (.slice (some ⟨g, 0, none⟩) len cp) len (BB z4) := O4.out
  have P5 := own_put2 O4q (2 * J) (r / 256 % 256) (r % 256)
  have P6 := own_put2 P5.1 (2 * K) 0 0
  have hl4 : z4.length = len := by rw [EZ4.out, Mth.put2_length, hl3]
  have hb5 := Mth.put2_bytes z4 (2 * J) (r / 256 % 256) (r % 256) (by omega) hb4 (by omega) (by omega)
  have hb6 := Mth.put2_bytes _ (2 * K) 0 0 (by rw [Mth.put2_length, hl4]; omega) hb5 (by decide) (by decide)
  have hF3 : Mth.wd z3 (2 * J) = F := by rw [← hF.out, EZ4.out, Mth.wd_put2 _ _ _ _ _ (by omega), if_neg hJK]
  have hFR : F ≤ R := by rw [← hF3, ← HT3.out]; exact Mth.total_le z3 hb3 J _ (by omega)
  have hS4 : Mth.wd z4 (2 * K) = S := by rw [EZ4.out, Mth.wd_put2 _ _ _ _ _ (by omega), if_pos rfl]; omega
  have hT6 : Mth.total (Mth.put2 (Mth.put2 z4 (2 * J) (r / 256 % 256) (r % 256)) (2 * K) 0 0) ((len + 1) / 2) = R - F + r % 65536 := by
    rw [Mth.total_put2 _ _ _ _ (by rw [Mth.put2_length, hl4]; omega), if_pos (by omega), Mth.wd_put2 _ _ _ _ _ (by omega), if_neg hKJ, Mth.total_put2 _ _ _ _ (by omega), if_pos (by omega), HT4.out, hF.out, hS4]
    omega
  have hl6 : (Mth.put2 (Mth.put2 z4 (2 * J) (r / 256 % 256) (r % 256)) (2 * K) 0 0).length = len := by rw [Mth.put2_length, Mth.put2_length, hl4]
  have hz6 : Mth.wd (Mth.put2 (Mth.put2 z4 (2 * J) (r / 256 % 256) (r % 256)) (2 * K) 0 0) (2 * K) = 0 := by
    rw [Mth.wd_put2 _ _ _ _ _ (by rw [Mth.put2_length, hl4]; omega), if_pos rfl]; rfl
  obtain ⟨w6, e6⟩ : ∃ w6, w6 = ((((w4.drewN nq).setCell ⟨g, 2 * J, none⟩ (.int .u8 (r / 256 % 256))).setCell ⟨g, 2 * J + 1, none⟩ (.int .u8 (r % 256))).setCell ⟨g, 2 * K, none⟩ (.int .u8 0)).setCell ⟨g, 2 * K + 1, none⟩ (.int .u8 0) := ⟨_, rfl⟩
  have hB6 : Below w.heap.size w w6 := by
    rw [e6]
    exact (below_drewN hB4 nq).trans ((P5.2.trans P6.2).mono hb1.size)
  have O6 := P6.1
  rw [← e6] at O6
  rw [← e6]
  clear e6 P5 P6 O4q c0 c1 f0 f1 d0 d1 g0 g1 hF3 hS4
  generalize Mth.put2 (Mth.put2 z4 (2 * J) (r / 256 % 256) (r % 256)) (2 * K) 0 0 = z6 at *
  have HO6 := hid O6
  have HT6 := hid hT6
  have HZ6 := hid hz6
  clear O6 hT6 hz6
  go_loopw [14, 15] (fun v i wr => ∃ k : Nat, k ≤ len ∧ i = .int .i64 k ∧ v = .bool (decide (∀ q, q < k → z6.getD q 0 = 0)) ∧ wr = w6) (fun _ i _ => len - (intOf i).toNat)
  case atStart => exact ⟨0, Nat.zero_le _, rfl, by simp, rfl⟩
  case round =>
    obtain ⟨k, hk, rfl, rfl, rfl⟩ := hrel
    by_cases hlt : k < len
    · have hlt' : (k : Int) < (len : Int) := by omega
      have ck := own_at HO6.out k hlt
      by_cases hall : ∀ q, q < k → z6.getD q 0 = 0
      · rw [decide_eq_true hall]
        by_cases hz0 : z6.getD k 0 = 0
        · rw [hz0] at ck
          go_wp2
          go_roundw
          case measure => simp [intOf]; omega
          case rel =>
            refine ⟨k + 1, by omega, by go_num, ?_, trivial⟩
            rw [decide_eq_true]
            intro q hq
            by_cases e : q = k
            · rw [e]; exact hz0
            · exact hall q (by omega)
        · have hzb : (z6.getD k 0 == 0) = false := by simpa using hz0
          generalize hx : z6.getD k 0 = x at *
          have HX := hid hx
          clear hx
          go_wp2
          go_roundw
          case measure => simp [intOf]; omega
          case rel =>
            refine ⟨k + 1, by omega, by go_num, ?_, trivial⟩
            rw [decide_eq_false]
            intro hq
            exact hz0 (by rw [← HX.out]; exact hq k (by omega))
      · rw [decide_eq_false hall]
        have hno : ¬ ∀ q, q < k + 1 → z6.getD q 0 = 0 := fun hq => hall (fun q hqk => hq q (by omega))
        have HNO := hid hno
        clear hall hno ck
        go_wp2
        go_roundw
        case measure => simp [intOf]; omega
        case rel =>
          refine ⟨k + 1, by omega, by go_num, ?_, trivial⟩
          rw [decide_eq_false HNO.out]
    · have hkl : k = len := by omega
      subst hkl
      have c0 := own_at HO6.out (2 * K) (by omega)
      have c1 := own_at HO6.out (2 * K + 1) (by omega)
      have f0 := HO6.out.frozenAt (2 * K)
      have f1 := HO6.out.frozenAt (2 * K + 1)
      generalize z6.getD (2 * K) 0 = x0 at c0
      generalize z6.getD (2 * K + 1) 0 = x1 at c1
      by_cases hall : ∀ q, q < k → z6.getD q 0 = 0
      · rw [decide_eq_true hall]
        clear hall
        go_wp2_with fail
        refine (turn_any _ _ _ _).mono ?_
        rintro e w' ⟨rfl, rfl⟩
        have ht := Mth.turn_range S F r
        generalize Mth.turn S F r = t at *
        go_wp2
        go_ret
        refine ⟨rfl, ?_⟩
        have hg := HO6.out.lt g rfl
        exact (hB6.setCell (Nat.le_trans hb1.size hg.1) _).setCell (Nat.le_trans hb1.size hg.1) _
      · rw [decide_eq_false hall]
        have hpos : 0 < R - F + r % 65536 := by
          rw [← HT6.out]
          obtain ⟨q, hq⟩ := Classical.not_forall.1 hall
          obtain ⟨hq1, hq2⟩ := Classical.not_imp.1 hq
          exact Mth.total_pos z6 hb6 q _ (by omega) hq2
        clear hall
        have hW6 : Mth.whole z6 = Mth.norm (R - F + r % 65536) := by
          unfold Mth.whole
          rw [hl6, Mth.wh_norm _ hb6, HT6.out]
        have hturn : Mth.turn S F r = 65535 - Mth.norm (R - F + r % 65536) := by
          rw [ES.out, Mth.turn_num R F r (by omega) hpos]
        have hNR6 := Mth.norm_range (R - F + r % 65536)
        go_wp2_with fail
        refine (turn_any _ _ _ _).mono ?_
        rintro e w' ⟨rfl, rfl⟩
        rw [hturn]
        obtain ⟨t, et⟩ : ∃ t, t = 65535 - Mth.norm (R - F + r % 65536) := ⟨_, rfl⟩
        rw [← et]
        have ht : 0 ≤ t ∧ t ≤ 65535 := by omega
        go_wp2_with fail
        refine (of_any _ _ _ z6 _ (by omega) (has_of_owns HO6.out hb6)).mono ?_
        rintro e w' ⟨rfl, rfl⟩
        rw [hW6, Mth.less_of _ hNR6, ← et]
        have P7 := own_put2 HO6.out (2 * K) (t / 256) (t % 256)
        have hb7 := Mth.put2_bytes z6 (2 * K) (t / 256) (t % 256) (by omega) hb6 (by omega) (by omega)
        have hW7 : Mth.whole (Mth.put2 z6 (2 * K) (t / 256) (t % 256)) = 65535 := by
          unfold Mth.whole
          rw [Mth.put2_length, hl6, Mth.wh_norm _ hb7, Mth.total_put2 _ _ _ _ (by omega), if_pos (by omega), HT6.out, HZ6.out, show R - F + r % 65536 - 0 + (256 * (t / 256) + t % 256) = R - F + r % 65536 + t from by omega, et, Mth.right_num _ (by omega)]
        have HP7 := hid P7
        have HW7 := hid hW7
        have HB7 := hid hb7
        clear P7 hW7 hb7 hturn hW6 et hNR6
        go_wp2_with fail
        refine (right_any _ _ _ _ _ (by omega) (has_of_owns HP7.out.1 HB7.out)).mono ?_
        rintro e w7 ⟨rfl, e7⟩
        have hB7 : Below w.heap.size w w7 := by rw [e7]; exact hB6.trans (HP7.out.2.mono hb1.size)
        clear e7
        rw [HW7.out]
        go_wp2
        go_ret
        exact ⟨rfl, hB7⟩
end Go.Proofs.Ytpaaepmleepngab
