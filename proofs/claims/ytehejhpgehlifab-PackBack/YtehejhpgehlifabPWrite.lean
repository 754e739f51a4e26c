/- What pack.Write does. -/
import Derived.Test.YtehejhpgehlifabPRead2
namespace Go.Proofs.Ytehejhpgehlifab
open Go.RowKit

/-- the number has no more bits than its field -/
def Fits (ls ws : List Int) (j : Nat) : Prop := ls.getD j 0 ≤ maskN (ws.getD j 0)

set_option maxHeartbeats 1000000 in
theorem pwrite_bad (a b : Option Addr) (m c n d : Nat) (C A : Int) (ws : List Int) (w : World) (hC : C ≠ 0) (hw : Has .i64 w a m ws)
    (hs : ∀ a c w, Has .i64 w a m ws → Calls Try.prog 14 #[HD a m c] w fun e w' => e = .returned (.tuple #[.int .i64 0, .agg #[.int .i64 C, .int .i64 A]]) ∧ Below w.heap.size w w') :
    Calls Try.prog 19 #[HD a m c, .slice b n d] w fun e w' => e = .returned (.tuple #[.slice none 0 0, .agg #[.int .i64 C, .int .i64 A]]) ∧ Below w.heap.size w w' := by
  have hc : (C != 0) = true := by simpa using hC
  have HS := hid hs
  clear hs hC
  go_enter Try.func19, Try.ntmps19
  go_wp2_with fail
  refine (HS.out _ _ _ hw.alloc.alloc).mono ?_
  rintro e w1 ⟨rfl, hb1⟩
  obtain ⟨c0, c1, c2, f1, f2, hz⟩ := head_cells (bl2 hb1)
  clear HS
  go_wp2
  go_region
  go_wp2
  exact bodyPost_ret (v := .tuple #[.slice none 0 0, .agg #[.int .i64 C, .int .i64 A]]) (by simp [results, Try.results19, go_sem, c1, c2, hz]) rfl ⟨rfl, (bl_alloc (end_head (bl2 hb1) _ _)).drew⟩

set_option maxHeartbeats 1000000 in
theorem pwrite_many (a b : Option Addr) (m c n d N : Nat) (ws : List Int) (w : World) (hne : n ≠ m) (hw : Has .i64 w a m ws)
    (hs : ∀ a c w, Has .i64 w a m ws → Calls Try.prog 14 #[HD a m c] w fun e w' => e = .returned (.tuple #[.int .i64 N, .agg #[.int .i64 0, .int .i64 0]]) ∧ Below w.heap.size w w') :
    Calls Try.prog 19 #[HD a m c, .slice b n d] w fun e w' => e = .returned (.tuple #[.slice none 0 0, .agg #[.int .i64 2, .int .i64 (-1)]]) ∧ Below w.heap.size w w' := by
  have hq : ((n : Int) != (m : Int)) = true := by rw [bne_iff_ne]; omega
  have HS := hid hs
  clear hs hne
  go_enter Try.func19, Try.ntmps19
  go_wp2_with fail
  refine (HS.out _ _ _ hw.alloc.alloc).mono ?_
  rintro e w1 ⟨rfl, hb1⟩
  obtain ⟨c0, c1, c2, f1, f2, hz⟩ := head_cells (bl2 hb1)
  have hz0 : w.heap.size < w1.heap.size := by omega
  clear HS
  go_wp2
  exact bodyPost_ret (v := .tuple #[.slice none 0 0, .agg #[.int .i64 2, .int .i64 (-1)]]) (by simp [results, Try.results19, go_sem, c1, c2, hz]) rfl ⟨rfl, bl_alloc (end_head (bl2 hb1) _ _)⟩

set_option maxHeartbeats 2000000 in
theorem pwrite_width (a b : Option Addr) (m c d N i : Nat) (ls ws : List Int) (w : World) (hm : m ≤ 1000) (hv : Has .u64 w b m ls) (hw : Has .i64 w a m ws) (hi : i < m) (hgood : ∀ j, j < i → Fits ls ws j) (hbad : ¬ Fits ls ws i)
    (hs : ∀ a c w, Has .i64 w a m ws → Calls Try.prog 14 #[HD a m c] w fun e w' => e = .returned (.tuple #[.int .i64 N, .agg #[.int .i64 0, .int .i64 0]]) ∧ Below w.heap.size w w') :
    Calls Try.prog 19 #[HD a m c, .slice b m d] w fun e w' => e = .returned (.tuple #[.slice none 0 0, .agg #[.int .i64 6, .int .i64 i]]) ∧ Below w.heap.size w w' := by
  have hq : ((m : Int) != (m : Int)) = false := by simp
  have HS := hid hs
  have HG := hid hgood
  clear hs hgood
  go_enter Try.func19, Try.ntmps19
  go_wp2_with fail
  refine (HS.out _ _ _ hw.alloc.alloc).mono ?_
  rintro e w1 ⟨rfl, hb1⟩
  have hB1 := told_cells F0 (bl2 hb1)
  obtain ⟨c0, c1, c2, f1, f2, hz⟩ := head_cells (bl2 hb1)
  have hz0 : w.heap.size < w1.heap.size := by omega
  clear HS hb1
  go_wp2
  clear c0 c1 c2 f1 f2 hz hz0
  go_loopw [29] (fun q wr => ∃ k : Nat, k ≤ i ∧ q = .int .i64 k ∧ Below (w.heap.size + 2) ((w.alloc (H0 a m c)).alloc F0) wr) (fun q _ => m - (intOf q).toNat)
  case atStart => exact ⟨0, Nat.zero_le _, rfl, hB1⟩
  case round =>
    obtain ⟨k, hk, rfl, hB⟩ := hrel
    clear hB1
    obtain ⟨p, o, rfl, hpl, hcw⟩ := (hw.alloc.alloc.below hB (by simp)).some (by omega)
    obtain ⟨p2, o2, rfl, hpl2, hcv⟩ := (hv.alloc.alloc.below hB (by simp)).some (by omega)
    have hcx := hcw k (by omega)
    have hcy := hcv k (by omega)
    clear hcw hcv hpl hpl2
    have hkm : (k : Int) < (m : Int) := by omega
    by_cases hki : k = i
    · subst hki
      unfold Fits at hbad
      simp only [List.getD_eq_getElem?_getD] at hbad hcx hcy
      generalize ws[k]?.getD 0 = x at *
      generalize ls[k]?.getD 0 = y at *
      have hb' : maskN x < y := by omega
      clear hbad
      obtain ⟨c0, c1, c2, f1, f2, hz⟩ := head_cells hB
      go_wp2
      go_big_quiet ((go_at_call 31; exact Calls.quiet_of_same (mask_int _ _)))
      go_wp2
      exact bodyPost_ret (v := .tuple #[.slice none 0 0, .agg #[.int .i64 6, .int .i64 k]]) (by simp [results, Try.results19, go_sem, c1, c2]) rfl ⟨rfl, below_drewN (end_head hB _ _) _⟩
    · have hg := HG.out k (by omega)
      unfold Fits at hg
      simp only [List.getD_eq_getElem?_getD] at hg hcx hcy
      generalize ws[k]?.getD 0 = x at *
      generalize ls[k]?.getD 0 = y at *
      have hg' : ¬ maskN x < y := by omega
      clear hg
      go_wp2
      go_big_quiet ((go_at_call 31; exact Calls.quiet_of_same (mask_int _ _)))
      go_wp2
      go_roundw
      case rel => exact ⟨k + 1, by omega, by go_num, below_drewN hB _⟩
      case measure => simp [intOf]; omega

set_option maxHeartbeats 2000000 in
theorem pwrite_good (a b : Option Addr) (m c d N : Nat) (ls ws : List Int) (w : World) (hm : m ≤ 1000) (hv : Has .u64 w b m ls) (hw : Has .i64 w a m ws) (hwide : ∀ j, j < m → Mth.Wide ws j) (hgood : ∀ j, j < m → Fits ls ws j)
    (hs : ∀ a c w, Has .i64 w a m ws → Calls Try.prog 14 #[HD a m c] w fun e w' => e = .returned (.tuple #[.int .i64 N, .agg #[.int .i64 0, .int .i64 0]]) ∧ Below w.heap.size w w') :
    Calls Try.prog 19 #[HD a m c, .slice b m d] w fun e w' => ∃ g cap', e = .returned (.tuple #[.slice g ((Mth.off ws m + 7) / 8) cap', .agg #[.int .i64 0, .int .i64 0]]) ∧ Has .u8 w' g ((Mth.off ws m + 7) / 8) (Mth.jn ls ws ((Mth.off ws m + 7) / 8) m) ∧ Below w.heap.size w w' := by
  have hq : ((m : Int) != (m : Int)) = false := by simp
  have HS := hid hs
  have HG := hid hgood
  have HD := hid hwide
  clear hs hgood hwide
  go_enter Try.func19, Try.ntmps19
  go_wp2_with fail
  refine (HS.out _ _ _ hw.alloc.alloc).mono ?_
  rintro e w1 ⟨rfl, hb1⟩
  have hB1 := told_cells F0 (bl2 hb1)
  obtain ⟨c0, c1, c2, f1, f2, hz⟩ := head_cells (bl2 hb1)
  have hz0 : w.heap.size < w1.heap.size := by omega
  clear HS hb1
  go_wp2
  clear c0 c1 c2 f1 f2 hz hz0
  go_loopw [29] (fun q wr => ∃ k : Nat, k ≤ m ∧ q = .int .i64 k ∧ Below (w.heap.size + 2) ((w.alloc (H0 a m c)).alloc F0) wr) (fun q _ => m - (intOf q).toNat)
  case atStart => exact ⟨0, Nat.zero_le _, rfl, hB1⟩
  case round =>
    obtain ⟨k, hk, rfl, hB⟩ := hrel
    clear hB1
    by_cases hki : k < m
    · obtain ⟨p, o, rfl, hpl, hcw⟩ := (hw.alloc.alloc.below hB (by simp)).some (by omega)
      obtain ⟨p2, o2, rfl, hpl2, hcv⟩ := (hv.alloc.alloc.below hB (by simp)).some (by omega)
      have hcx := hcw k (by omega)
      have hcy := hcv k (by omega)
      clear hcw hcv hpl hpl2
      have hkm : (k : Int) < (m : Int) := by omega
      have hg := HG.out k (by omega)
      unfold Fits at hg
      simp only [List.getD_eq_getElem?_getD] at hg hcx hcy
      generalize ws[k]?.getD 0 = x at *
      generalize ls[k]?.getD 0 = y at *
      have hg' : ¬ maskN x < y := by omega
      clear hg
      go_wp2
      go_big_quiet ((go_at_call 31; exact Calls.quiet_of_same (mask_int _ _)))
      go_wp2
      go_roundw
      case rel => exact ⟨k + 1, by omega, by go_num, below_drewN hB _⟩
      case measure => simp [intOf]; omega
    · have ek : k = m := by omega
      subst ek
      obtain ⟨c0, c1, c2, f1, f2, hz⟩ := head_cells hB
      have hvr := hv.alloc.alloc.below hB (by simp)
      have hwr := hw.alloc.alloc.below hB (by simp)
      have RJ := hid (join_good b a k d c ls ws wr hm hvr hwr HD.out)
      clear hvr hwr
      go_wp2_with fail
      refine RJ.out.mono ?_
      rintro e w2 ⟨g, cp, rfl, hj, hb2⟩
      have hB2 := hB.trans (hb2.mono (by omega))
      clear c0 c1 c2 f1 f2 RJ
      obtain ⟨c0, c1, c2, f1, f2, hz2⟩ := head_cells hB2
      have HJ := hid hj
      clear hj hb2
      generalize hL : (Mth.off ws k + 7) / 8 = L at *
      have HL := hid hL
      clear hL
      go_wp2
      rw [HL.out]
      exact bodyPost_ret (v := .tuple #[.slice (some ⟨g, 0, none⟩) L cp, .agg #[.int .i64 0, .int .i64 0]]) (by simp [results, Try.results19, go_sem, c1, c2]) rfl ⟨_, cp, rfl, HJ.out.put2 (by decide) c1 c2 _ _, end_head hB2 _ _⟩
end Go.Proofs.Ytehejhpgehlifab
