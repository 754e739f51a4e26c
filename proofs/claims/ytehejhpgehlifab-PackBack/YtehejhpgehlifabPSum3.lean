/- What the document's HeadSum does; both are one. -/
import Derived.Test.YtehejhpgehlifabPSum2
namespace Go.Proofs.Ytehejhpgehlifab
open Go.RowKit

set_option maxHeartbeats 1000000 in
theorem rsum_range (a b : Option Addr) (m c n d : Nat) (s : Int) (w : World) (h : s < -1 ∨ (m : Int) ≤ s) :
    Calls Try.prog 23 #[HD a m c, .slice b n d, .int .i64 s] w fun e w' => e = .returned (.tuple #[.int .i64 0, .agg #[.int .i64 1, .int .i64 (-1)]]) ∧ Below w.heap.size w w' := by
  by_cases h1 : s < -1
  · clear h
    go_enter Try.func23, Try.ntmps23
    go_wp2_with fail
    refine (fault_any _ _ _).mono ?_
    rintro e w1 ⟨rfl, hb⟩
    obtain ⟨c0, c1, c2, f1, f2, hs⟩ := head_cells (bl2 hb)
    go_wp2
    exact bodyPost_ret (v := .tuple #[.int .i64 0, .agg #[.int .i64 1, .int .i64 (-1)]]) (by simp [results, Try.results23, go_sem, c1, c2]) rfl ⟨rfl, end_head (bl2 hb) _ _⟩
  · have h2 : (m : Int) ≤ s := by omega
    clear h
    go_enter Try.func23, Try.ntmps23
    go_wp2_with fail
    refine (fault_any _ _ _).mono ?_
    rintro e w1 ⟨rfl, hb⟩
    obtain ⟨c0, c1, c2, f1, f2, hs⟩ := head_cells (bl2 hb)
    go_wp2
    exact bodyPost_ret (v := .tuple #[.int .i64 0, .agg #[.int .i64 1, .int .i64 (-1)]]) (by simp [results, Try.results23, go_sem, c1, c2]) rfl ⟨rfl, end_head (bl2 hb) _ _⟩

theorem one_new64 (w : World) (y : Value) : ∀ (j : Nat) (u : Value), [y][j]? = some u → (w.alloc (.cells #[y] 50)).cell? ((⟨w.heap.size, 0, none⟩ : Addr).add j) = some u := by
  intro j u hj
  match j, hj with
  | 0, hj => simp at hj; subst hj; simp [Addr.add]

theorem push64 {w : World} {base n : Nat} {v : Value} {ys : List Int} {x y : Int} (h : w.ownsRow base 50 1 v (n + 1) (UU ys ++ [.int .u64 x])) (e : x = y) : w.ownsRow base 50 1 v (n + 1) (UU (ys ++ [y])) := by
  subst e
  simpa [UU] using h

theorem less_whole (ys : List Int) : 65535 - Mth.whole ys = Mth.less (Mth.whole ys) ∧ 0 ≤ Mth.whole ys ∧ Mth.whole ys ≤ 65535 := by
  have h := Mth.wh_range ys ((ys.length + 1) / 2)
  unfold Mth.less Mth.whole
  omega

set_option maxHeartbeats 4000000 in
theorem rsum_write (a b : Option Addr) (m c n d L : Nat) (s C A : Int) (ls ws ys : List Int) (w : World) (h1 : -1 ≤ s) (h2 : s < (m : Int)) (hl : n ≤ 100000) (hL : L ≤ 100000) (hv : Has .u64 w b n ls) (hw : Has .i64 w a m ws)
    (hs : ∀ a c b d w, Has .i64 w a m ws → Has .u64 w b n (Mth.zap ls s n) → Calls Try.prog 20 #[HD a m c, .slice b n d] w fun e w' => ∃ g cap', e = .returned (.tuple #[.slice g L cap', .agg #[.int .i64 C, .int .i64 A]]) ∧ Has .u8 w' g L ys ∧ Below w.heap.size w w') :
    Calls Try.prog 23 #[HD a m c, .slice b n d, .int .i64 s] w fun e w' => e = .returned (if C = 0 then .tuple #[.int .i64 (Mth.less (Mth.whole ys)), .agg #[.int .i64 0, .int .i64 0]] else .tuple #[.int .i64 0, .agg #[.int .i64 C, .int .i64 A]]) ∧ Below w.heap.size w w' := by
  have HS := hid hs
  have HNM := hid hv.nums
  have HL := hid hv.1
  obtain ⟨i0, hi, hz0, hz1, hz2⟩ := info_parts Try.info50
  clear hs
  go_enter Try.func23, Try.ntmps23
  go_wp2
  go_loopw [8, 9] (fun v q wr => ∃ k : Nat, k ≤ n ∧ q = .int .i64 k ∧ wr.ownsRow (w.heap.size + 2) 50 1 v k (UU (Mth.zap ls s k)) ∧ Below (w.heap.size + 2) ((w.alloc (H0 a m c)).alloc F0) wr) (fun _ q _ => n - (intOf q).toNat)
  case atStart => exact ⟨0, Nat.zero_le _, rfl, World.ownsRow_nil _ _ _ _, Below.refl _ _⟩
  case round =>
    obtain ⟨k, hk, rfl, hown, hB⟩ := hrel
    by_cases hlt : k < n
    · have hki : (k : Int) < (n : Int) := by omega
      obtain ⟨p, o, rfl, hpl, hcell⟩ := (hv.alloc.alloc.below hB (by simp)).some (by omega)
      have hcx := hcell k hlt
      clear hcell hpl
      have hzs : Hid (Mth.zap ls s (k + 1) = Mth.zap ls s k ++ [if (k : Int) = s then 0 else ls.getD k 0]) := Mth.zap_succ ls s k
      have hsz : w.heap.size + 2 ≤ wr.heap.size := by have := hB.size; simpa using this
      have hsz1 : w.heap.size + 2 ≤ wr.heap.size + 1 := by omega
      simp only [List.getD_eq_getElem?_getD] at hcx hzs
      generalize ls[k]?.getD 0 = y at *
      generalize Mth.zap ls s k = ps at *
      have HO := hid hown
      by_cases hks : (k : Int) = s
      · have hks' : ((k : Int) == s) = true := by simpa using hks
        have HK := hid hks
        clear hks hown
        go_wp2_with (at_builtin; refine wpList_append_own _ rfl _ _ 32 rfl (w.heap.size + 2) 50 i0 (.int .u64 0) 1 8 Try.underlying32 hi hz0 hz1 hz2 rfl (by decide) _ k (UU ps) rfl ?c0 ⟨wr.heap.size, 0, none⟩ 1 1 [.int .u64 0] rfl rfl ?c1 ?c2 ?c3 ?c4 ?c5 ?_)
        case c0 => exact HO.out.alloc _
        case c1 => exact one_new64 _ _
        case c2 => intro u hu; simp at hu; subst hu; rfl
        case c3 => unfold maxLen; omega
        case c4 => omega
        case c5 => simp; omega
        intro v' w2 hown2 hgr2 hne2
        have hb2 := (hB.alloc hsz (.cells #[.int .u64 0] 50)).grown hgr2 (by simp; omega) (fun q hq => (HO.out.lt q hq).1)
        have hown3 := push64 hown2 (show (0 : Int) = if (k : Int) = s then 0 else y by rw [if_pos HK.out])
        have HO3 := hid hown3
        clear hown2 hgr2 hne2 hown3 HO
        go_wp2
        go_roundw
        case rel => exact ⟨k + 1, by omega, by go_num, by rw [hzs.out]; exact HO3.out, hb2⟩
        case measure => simp [intOf]; omega
      · have hks' : ((k : Int) == s) = false := by simpa using hks
        have HK := hid hks
        clear hks hown
        go_wp2_with (at_builtin; refine wpList_append_own _ rfl _ _ 32 rfl (w.heap.size + 2) 50 i0 (.int .u64 0) 1 8 Try.underlying32 hi hz0 hz1 hz2 rfl (by decide) _ k (UU ps) rfl ?c0 ⟨wr.heap.size, 0, none⟩ 1 1 [.int .u64 y] rfl rfl ?c1 ?c2 ?c3 ?c4 ?c5 ?_)
        case c0 => exact HO.out.alloc _
        case c1 => exact one_new64 _ _
        case c2 => intro u hu; simp at hu; subst hu; rfl
        case c3 => unfold maxLen; omega
        case c4 => omega
        case c5 => simp; omega
        intro v' w2 hown2 hgr2 hne2
        have hb2 := (hB.alloc hsz (.cells #[.int .u64 y] 50)).grown hgr2 (by simp; omega) (fun q hq => (HO.out.lt q hq).1)
        have hown3 := push64 hown2 (show y = if (k : Int) = s then 0 else y by rw [if_neg HK.out])
        have HO3 := hid hown3
        clear hown2 hgr2 hne2 hown3 HO
        go_wp2
        go_roundw
        case rel => exact ⟨k + 1, by omega, by go_num, by rw [hzs.out]; exact HO3.out, hb2⟩
        case measure => simp [intOf]; omega
    · have ek : k = n := by omega
      subst ek
      obtain ⟨g, cp, eg, hg⟩ := has_of_owns64 hown (zap_nums HNM.out (by rw [HL.out]; omega))
      subst eg
      have hwr := hw.alloc.alloc.below hB (by simp)
      have RW := hid (HS.out a c g cp wr hwr hg)
      clear hown hwr hg HS
      obtain ⟨c0, c1, c2, f1, f2, hsz⟩ := head_cells hB
      go_wp2_with fail
      refine RW.out.mono ?_
      rintro e w2 ⟨g2, cp2, rfl, hz, hb2⟩
      have hB2 := hB.trans (hb2.mono hsz)
      clear c0 c1 c2 f1 f2 RW
      obtain ⟨c0, c1, c2, f1, f2, hsz2⟩ := head_cells hB2
      have HZ := hid hz
      clear hz hb2
      obtain ⟨hlw, hw0, hw1⟩ := less_whole ys
      have HLW := hid hlw
      clear hlw
      by_cases hC : C = 0
      · subst hC
        go_wp2_with fail
        refine (rwhole_any _ _ _ ys _ hL HZ.out.alloc).mono ?_
        rintro e w3 ⟨rfl, rfl⟩
        go_wp2
        exact bodyPost_ret (v := .tuple #[.int .i64 (Mth.less (Mth.whole ys)), .agg #[.int .i64 0, .int .i64 0]]) (by simp [results, Try.results23, go_sem, c1, c2, hsz2, ← HLW.out]) rfl ⟨rfl, bl_alloc (end_head hB2 _ _)⟩
      · have hc : (C != 0) = true := by simpa using hC
        go_wp2
        go_region
        go_wp2
        exact bodyPost_ret (v := .tuple #[.int .i64 0, .agg #[.int .i64 C, .int .i64 A]]) (by simp [results, Try.results23, go_sem, c1, c2, hsz2]) rfl ⟨rfl, (bl_alloc (end_head hB2 _ _)).drew⟩
end Go.Proofs.Ytehejhpgehlifab
