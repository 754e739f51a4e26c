/- What the document's Wide and WriteOf do; both are one. -/
import Derived.Test.YtehejhpgehlifabPWrite
namespace Go.Proofs.Ytehejhpgehlifab
open Go.RowKit

theorem wide_any (v n : Int) (w : World) : Calls Try.prog 33 #[.int .u64 v, .int .i64 n] w fun e w' => e = .returned (.bool (decide (maskN n < v))) ∧ w' = w := by
  go_enter Try.func33, Try.ntmps33
  go_wp2_with fail
  refine (ones_any _ _).mono ?_
  rintro e w1 ⟨rfl, rfl⟩
  go_wp2
  go_ret
  exact ⟨rfl, rfl⟩

set_option maxHeartbeats 1000000 in
theorem rwrite_bad (a b : Option Addr) (m c n d : Nat) (C A : Int) (ws : List Int) (w : World) (hC : C ≠ 0) (hw : Has .i64 w a m ws)
    (hs : ∀ a c w, Has .i64 w a m ws → Calls Try.prog 15 #[HD a m c] w fun e w' => e = .returned (.tuple #[.int .i64 0, .agg #[.int .i64 C, .int .i64 A]]) ∧ Below w.heap.size w w') :
    Calls Try.prog 20 #[HD a m c, .slice b n d] w fun e w' => e = .returned (.tuple #[.slice none 0 0, .agg #[.int .i64 C, .int .i64 A]]) ∧ Below w.heap.size w w' := by
  have hc : (C != 0) = true := by simpa using hC
  have HS := hid hs
  clear hs hC
  go_enter Try.func20, Try.ntmps20
  go_wp2_with fail
  refine (HS.out _ _ _ hw.alloc.alloc).mono ?_
  rintro e w1 ⟨rfl, hb1⟩
  obtain ⟨c0, c1, c2, f1, f2, hz⟩ := head_cells (bl2 hb1)
  clear HS
  go_wp2
  go_region
  go_wp2
  exact bodyPost_ret (v := .tuple #[.slice none 0 0, .agg #[.int .i64 C, .int .i64 A]]) (by simp [results, Try.results20, go_sem, c1, c2, hz]) rfl ⟨rfl, (bl_alloc (end_head (bl2 hb1) _ _)).drew⟩

set_option maxHeartbeats 1000000 in
theorem rwrite_many (a b : Option Addr) (m c n d N : Nat) (ws : List Int) (w : World) (hne : n ≠ m) (hw : Has .i64 w a m ws)
    (hs : ∀ a c w, Has .i64 w a m ws → Calls Try.prog 15 #[HD a m c] w fun e w' => e = .returned (.tuple #[.int .i64 N, .agg #[.int .i64 0, .int .i64 0]]) ∧ Below w.heap.size w w') :
    Calls Try.prog 20 #[HD a m c, .slice b n d] w fun e w' => e = .returned (.tuple #[.slice none 0 0, .agg #[.int .i64 2, .int .i64 (-1)]]) ∧ Below w.heap.size w w' := by
  have hq : ((n : Int) != (m : Int)) = true := by rw [bne_iff_ne]; omega
  have HS := hid hs
  clear hs hne
  go_enter Try.func20, Try.ntmps20
  go_wp2_with fail
  refine (HS.out _ _ _ hw.alloc.alloc).mono ?_
  rintro e w1 ⟨rfl, hb1⟩
  obtain ⟨c0, c1, c2, f1, f2, hz⟩ := head_cells (bl2 hb1)
  have hz0 : w.heap.size < w1.heap.size := by omega
  have hB := told_cells F0 (bl2 hb1)
  clear HS
  go_wp2_with fail
  refine (fault_any _ _ _).mono ?_
  rintro e w2 ⟨rfl, hb2⟩
  have hB2 := hB.trans (hb2.mono (by simp; omega))
  clear c0 c1 c2 f1 f2 hz hz0 hB hb2 hb1
  obtain ⟨c0, c1, c2, f1, f2, hz⟩ := head_cells hB2
  go_wp2
  exact bodyPost_ret (v := .tuple #[.slice none 0 0, .agg #[.int .i64 2, .int .i64 (-1)]]) (by simp [results, Try.results20, go_sem, c1, c2]) rfl ⟨rfl, end_head hB2 _ _⟩

set_option maxHeartbeats 2000000 in
theorem rwrite_width (a b : Option Addr) (m c d N i : Nat) (ls ws : List Int) (w : World) (hm : m ≤ 1000) (hv : Has .u64 w b m ls) (hw : Has .i64 w a m ws) (hi : i < m) (hgood : ∀ j, j < i → Fits ls ws j) (hbad : ¬ Fits ls ws i)
    (hs : ∀ a c w, Has .i64 w a m ws → Calls Try.prog 15 #[HD a m c] w fun e w' => e = .returned (.tuple #[.int .i64 N, .agg #[.int .i64 0, .int .i64 0]]) ∧ Below w.heap.size w w') :
    Calls Try.prog 20 #[HD a m c, .slice b m d] w fun e w' => e = .returned (.tuple #[.slice none 0 0, .agg #[.int .i64 6, .int .i64 i]]) ∧ Below w.heap.size w w' := by
  have hq : ((m : Int) != (m : Int)) = false := by simp
  have HS := hid hs
  have HG := hid hgood
  clear hs hgood
  go_enter Try.func20, Try.ntmps20
  go_wp2_with fail
  refine (HS.out _ _ _ hw.alloc.alloc).mono ?_
  rintro e w1 ⟨rfl, hb1⟩
  have hB1 := told_cells F0 (bl2 hb1)
  obtain ⟨c0, c1, c2, f1, f2, hz⟩ := head_cells (bl2 hb1)
  have hz0 : w.heap.size < w1.heap.size := by omega
  clear HS hb1
  go_wp2
  clear c0 c1 c2 f1 f2 hz hz0
  go_loopw [8] (fun q wr => ∃ k : Nat, k ≤ i ∧ q = .int .i64 k ∧ Below (w.heap.size + 2) ((w.alloc (H0 a m c)).alloc F0) wr) (fun q _ => m - (intOf q).toNat)
  case atStart => exact ⟨0, Nat.zero_le _, rfl, hB1⟩
  case round =>
    obtain ⟨k, hk, rfl, hB⟩ := hrel
    clear hB1
    obtain ⟨p, o, rfl, hpl, hcw⟩ := (hw.alloc.alloc.below hB (by simp)).some (by omega)
    obtain ⟨p2, o2, rfl, hpl2, hcv⟩ := (hv.alloc.alloc.below hB (by simp)).some (by omega)
    have hcx := hcw k (by omega)
    have hcy := hcv k (by omega)
    clear hcw hcv hpl hpl2
    have hkm : (k : Int) < (m : Int) := by omega
    obtain ⟨c0, c1, c2, f1, f2, hz⟩ := head_cells hB
    by_cases hki : k = i
    · subst hki
      unfold Fits at hbad
      simp only [List.getD_eq_getElem?_getD] at hbad hcx hcy
      generalize ws[k]?.getD 0 = x at *
      generalize ls[k]?.getD 0 = y at *
      have hb' : maskN x < y := by omega
      clear hbad
      go_wp2
      go_big_quiet ((go_at_call 33; exact Calls.quiet_of_same (wide_any _ _ _)))
      go_wp2_with fail
      refine (fault_any _ _ _).mono ?_
      rintro e w2 ⟨rfl, hb2⟩
      have hB2 := (below_drewN hB _).trans (hb2.mono (by simp; omega))
      clear c0 c1 c2 f1 f2 hz hB hb2
      obtain ⟨c0, c1, c2, f1, f2, hz⟩ := head_cells hB2
      go_wp2
      exact bodyPost_ret (v := .tuple #[.slice none 0 0, .agg #[.int .i64 6, .int .i64 k]]) (by simp [results, Try.results20, go_sem, c1, c2]) rfl ⟨rfl, end_head hB2 _ _⟩
    · have hg := HG.out k (by omega)
      unfold Fits at hg
      simp only [List.getD_eq_getElem?_getD] at hg hcx hcy
      generalize ws[k]?.getD 0 = x at *
      generalize ls[k]?.getD 0 = y at *
      have hg' : ¬ maskN x < y := by omega
      clear hg
      go_wp2
      go_big_quiet ((go_at_call 33; exact Calls.quiet_of_same (wide_any _ _ _)))
      go_wp2
      go_roundw
      case rel => exact ⟨k + 1, by omega, by go_num, below_drewN hB _⟩
      case measure => simp [intOf]; omega

set_option maxHeartbeats 2000000 in
theorem rwrite_good (a b : Option Addr) (m c d N : Nat) (ls ws : List Int) (w : World) (hm : m ≤ 1000) (hv : Has .u64 w b m ls) (hw : Has .i64 w a m ws) (hwide : ∀ j, j < m → Mth.Wide ws j) (hgood : ∀ j, j < m → Fits ls ws j)
    (hs : ∀ a c w, Has .i64 w a m ws → Calls Try.prog 15 #[HD a m c] w fun e w' => e = .returned (.tuple #[.int .i64 N, .agg #[.int .i64 0, .int .i64 0]]) ∧ Below w.heap.size w w') :
    Calls Try.prog 20 #[HD a m c, .slice b m d] w fun e w' => ∃ g cap', e = .returned (.tuple #[.slice g ((Mth.off ws m + 7) / 8) cap', .agg #[.int .i64 0, .int .i64 0]]) ∧ Has .u8 w' g ((Mth.off ws m + 7) / 8) (Mth.jn ls ws ((Mth.off ws m + 7) / 8) m) ∧ Below w.heap.size w w' := by
  have hq : ((m : Int) != (m : Int)) = false := by simp
  have HS := hid hs
  have HG := hid hgood
  have HD := hid hwide
  clear hs hgood hwide
  go_enter Try.func20, Try.ntmps20
  go_wp2_with fail
  refine (HS.out _ _ _ hw.alloc.alloc).mono ?_
  rintro e w1 ⟨rfl, hb1⟩
  have hB1 := told_cells F0 (bl2 hb1)
  obtain ⟨c0, c1, c2, f1, f2, hz⟩ := head_cells (bl2 hb1)
  have hz0 : w.heap.size < w1.heap.size := by omega
  clear HS hb1
  go_wp2
  clear c0 c1 c2 f1 f2 hz hz0
  go_loopw [8] (fun q wr => ∃ k : Nat, k ≤ m ∧ q = .int .i64 k ∧ Below (w.heap.size + 2) ((w.alloc (H0 a m c)).alloc F0) wr) (fun q _ => m - (intOf q).toNat)
  case atStart => exact ⟨0, Nat.zero_le _, rfl, hB1⟩
  case round =>
    obtain ⟨k, hk, rfl, hB⟩ := hrel
    clear hB1
    by_cases hki : k < m
    · obtain ⟨p, o, rfl, hpl, hcw⟩ := (hw.alloc.alloc.below hB (by simp)).some (by omega)
      obtain ⟨p2, o2, rfl, hpl2, hcv⟩ := (hv.alloc.alloc.below hB (by simp)).some (by omega)
      have hcx := hcw k (by omega)
      have hcy := hcv k (by omega)
      clear hcw hcv hpl hpl2
      obtain ⟨c0, c1, c2, f1, f2, hz⟩ := head_cells hB
      have hkm : (k : Int) < (m : Int) := by omega
      have hg := HG.out k (by omega)
      unfold Fits at hg
      simp only [List.getD_eq_getElem?_getD] at hg hcx hcy
      generalize ws[k]?.getD 0 = x at *
      generalize ls[k]?.getD 0 = y at *
      have hg' : ¬ maskN x < y := by omega
      clear hg
      go_wp2
      go_big_quiet ((go_at_call 33; exact Calls.quiet_of_same (wide_any _ _ _)))
      go_wp2
      go_roundw
      case rel => exact ⟨k + 1, by omega, by go_num, below_drewN hB _⟩
      case measure => simp [intOf]; omega
    · have ek : k = m := by omega
      subst ek
      obtain ⟨c0, c1, c2, f1, f2, hz⟩ := head_cells hB
      have hvr := hv.alloc.alloc.below hB (by simp)
      have hwr := hw.alloc.alloc.below hB (by simp)
      have RJ := hid (rjoin_good b a k d c ls ws wr hm hvr hwr HD.out)
      clear hvr hwr
      go_wp2_with fail
      refine RJ.out.mono ?_
      rintro e w2 ⟨g, cp, rfl, hj, hb2⟩
      have hB2 := hB.trans (hb2.mono (by omega))
      clear c0 c1 c2 f1 f2 RJ
      obtain ⟨c0, c1, c2, f1, f2, hz2⟩ := head_cells hB2
      have HJ := hid hj
      clear hj hb2
      generalize hL : (Mth.off ws k + 7) / 8 = L at *
      have HL := hid hL
      clear hL
      go_wp2
      rw [HL.out]
      exact bodyPost_ret (v := .tuple #[.slice g L cp, .agg #[.int .i64 0, .int .i64 0]]) (by simp [results, Try.results20, go_sem, c1, c2]) rfl ⟨_, cp, rfl, HJ.out.put2 (by decide) c1 c2 _ _, end_head hB2 _ _⟩

/-- what both tell of the bytes: they, or a fault -/
theorem write_both (n m : Nat) (ls ws : List Int) :
    (Mth.Head ws m ∧ n = m ∧ (∀ j, j < m → Fits ls ws j) ∧
      (∀ a c b d w, Has .i64 w a m ws → Has .u64 w b n ls → Calls Try.prog 19 #[HD a m c, .slice b n d] w fun e w' => ∃ g cap', e = .returned (.tuple #[.slice g (Mth.off ws m / 8) cap', .agg #[.int .i64 0, .int .i64 0]]) ∧ Has .u8 w' g (Mth.off ws m / 8) (Mth.jn ls ws (Mth.off ws m / 8) m) ∧ Below w.heap.size w w') ∧
      (∀ a c b d w, Has .i64 w a m ws → Has .u64 w b n ls → Calls Try.prog 20 #[HD a m c, .slice b n d] w fun e w' => ∃ g cap', e = .returned (.tuple #[.slice g (Mth.off ws m / 8) cap', .agg #[.int .i64 0, .int .i64 0]]) ∧ Has .u8 w' g (Mth.off ws m / 8) (Mth.jn ls ws (Mth.off ws m / 8) m) ∧ Below w.heap.size w w')) ∨
    (∃ C A : Int, C ≠ 0 ∧
      (∀ a c b d w, Has .i64 w a m ws → Has .u64 w b n ls → Calls Try.prog 19 #[HD a m c, .slice b n d] w fun e w' => e = .returned (.tuple #[.slice none 0 0, .agg #[.int .i64 C, .int .i64 A]]) ∧ Below w.heap.size w w') ∧
      (∀ a c b d w, Has .i64 w a m ws → Has .u64 w b n ls → Calls Try.prog 20 #[HD a m c, .slice b n d] w fun e w' => e = .returned (.tuple #[.slice none 0 0, .agg #[.int .i64 C, .int .i64 A]]) ∧ Below w.heap.size w w')) := by
  by_cases hh : Mth.Head ws m
  · obtain ⟨s1, s2⟩ := size_good hh
    have hN : (Mth.off ws m + 7) / 8 = Mth.off ws m / 8 := by have := hh.2.2.2.1; omega
    have hm : m ≤ 1000 := by have := hh.2.1; omega
    by_cases hn : n = m
    · subst hn
      rcases first_of (Fits ls ws) n with hg | ⟨i, hi, hb, hg⟩
      · left
        have hwd : ∀ j, j < n → Mth.Wide ws j := fun j hj => (hh.2.2.1 j hj).wide
        refine ⟨hh, rfl, hg, fun a c b d w hw hv => ?_, fun a c b d w hw hv => ?_⟩
        · have := pwrite_good a b n c d _ ls ws w hm hv hw hwd hg s1
          rw [hN] at this
          exact this
        · have := rwrite_good a b n c d _ ls ws w hm hv hw hwd hg s2
          rw [hN] at this
          exact this
      · right
        exact ⟨6, i, by decide, fun a c b d w hw hv => pwrite_width a b n c d _ i ls ws w hm hv hw hi hg hb s1, fun a c b d w hw hv => rwrite_width a b n c d _ i ls ws w hm hv hw hi hg hb s2⟩
    · right
      exact ⟨2, -1, by decide, fun a c b d w hw _ => pwrite_many a b m c n d _ ws w hn hw s1, fun a c b d w hw _ => rwrite_many a b m c n d _ ws w hn hw s2⟩
  · obtain ⟨C, A, hC, s1, s2⟩ := size_bad hh
    right
    exact ⟨C, A, hC, fun a c b d w hw _ => pwrite_bad a b m c n d C A ws w hC hw s1, fun a c b d w hw _ => rwrite_bad a b m c n d C A ws w hC hw s2⟩
end Go.Proofs.Ytehejhpgehlifab
