/- What the document's SizeOf does; both are one. -/
import Derived.Test.YtcmdgbfppbkfmaaVSize
namespace Go.Proofs.Ytcmdgbfppbkfmaa
open Go.RowKit

theorem bl2 {w w' : World} {a : Option Addr} {m c : Nat} (h : Below ((w.alloc (H0 a m c)).alloc F0).heap.size ((w.alloc (H0 a m c)).alloc F0) w') : Below (w.heap.size + 2) ((w.alloc (H0 a m c)).alloc F0) w' := by
  simpa using h

set_option maxHeartbeats 1000000 in
set_option maxRecDepth 20000 in
theorem rsize_many (a : Option Addr) (m c : Nat) (w : World) (h : (m : Int) < 1 ∨ 8 < (m : Int)) :
    Calls Try.prog 31 #[HD a m c] w fun e w' => e = .returned (.tuple #[.int .i64 0, .agg #[.int .i64 2, .int .i64 (-1)]]) ∧ Below w.heap.size w w' := by
  by_cases h1 : (m : Int) < 1
  · go_enter Try.func31, Try.ntmps31
    go_wp2_with fail
    refine (fault_any _ _ _).mono ?_
    rintro e w1 ⟨rfl, hb⟩
    obtain ⟨c0, c1, c2, f1, f2, hs⟩ := head_cells (bl2 hb)
    go_wp2
    exact bodyPost_ret (v := .tuple #[.int .i64 0, .agg #[.int .i64 2, .int .i64 (-1)]]) (by simp [results, Try.results31, go_sem, c1, c2]) rfl ⟨rfl, end_head (bl2 hb) _ _⟩
  · have h2 : 8 < (m : Int) := by omega
    go_enter Try.func31, Try.ntmps31
    go_wp2_with fail
    refine (fault_any _ _ _).mono ?_
    rintro e w1 ⟨rfl, hb⟩
    obtain ⟨c0, c1, c2, f1, f2, hs⟩ := head_cells (bl2 hb)
    go_wp2
    exact bodyPost_ret (v := .tuple #[.int .i64 0, .agg #[.int .i64 2, .int .i64 (-1)]]) (by simp [results, Try.results31, go_sem, c1, c2]) rfl ⟨rfl, end_head (bl2 hb) _ _⟩

set_option maxHeartbeats 2000000 in
set_option maxRecDepth 20000 in
theorem rsize_width (a : Option Addr) (m c i : Nat) (ws : List Int) (w : World) (h1 : 1 ≤ m) (h8 : m ≤ 8) (hw : Has .i64 w a m ws) (hi : i < m) (hgood : ∀ j, j < i → Mth.Fit ws j) (hbad : ¬ Mth.Fit ws i) :
    Calls Try.prog 31 #[HD a m c] w fun e w' => e = .returned (.tuple #[.int .i64 0, .agg #[.int .i64 6, .int .i64 i]]) ∧ Below w.heap.size w w' := by
  have HG := hid hgood
  clear hgood
  obtain ⟨p, o, rfl, hlt, hcell⟩ := (hw.alloc (o := H0 a m c)).alloc (o := F0) |>.some (by omega)
  have HC := hid hcell
  clear hcell hw hlt
  go_enter Try.func31, Try.ntmps31
  go_wp2
  go_loop [4, 5] (fun t q => ∃ k : Nat, k ≤ i ∧ q = .int .i64 k ∧ t = .int .i64 (Mth.off ws k)) (fun _ q => m - (intOf q).toNat)
  case atStart => exact ⟨0, Nat.zero_le _, rfl, rfl⟩
  case round =>
    obtain ⟨k, hk, rfl, rfl⟩ := hrel
    have hcx := HC.out k (by omega)
    have ho := Mth.fit_off ws k (fun j hj => HG.out j (by omega))
    by_cases hki : k = i
    · subst hki
      unfold Mth.Fit at hbad
      simp only [List.getD_eq_getElem?_getD] at hbad hcx
      generalize ws[k]?.getD 0 = x at *
      by_cases hx : x < 1
      · go_wp2_with fail
        refine (fault_any _ _ _).mono ?_
        rintro e w1 ⟨rfl, hb⟩
        obtain ⟨c0, c1, c2, f1, f2, hs⟩ := head_cells (bl2 hb)
        go_wp2
        exact bodyPost_ret (v := .tuple #[.int .i64 0, .agg #[.int .i64 6, .int .i64 k]]) (by simp [results, Try.results31, go_sem, c1, c2]) rfl ⟨rfl, end_head (bl2 hb) _ _⟩
      · have hx2 : 48 < x := by omega
        clear hbad
        go_wp2_with fail
        refine (fault_any _ _ _).mono ?_
        rintro e w1 ⟨rfl, hb⟩
        obtain ⟨c0, c1, c2, f1, f2, hs⟩ := head_cells (bl2 hb)
        go_wp2
        exact bodyPost_ret (v := .tuple #[.int .i64 0, .agg #[.int .i64 6, .int .i64 k]]) (by simp [results, Try.results31, go_sem, c1, c2]) rfl ⟨rfl, end_head (bl2 hb) _ _⟩
    · have hg := HG.out k (by omega)
      unfold Mth.Fit at hg
      have hoff : Hid (Mth.off ws (k + 1) = Mth.off ws k + (ws.getD k 0).toNat) := rfl
      simp only [List.getD_eq_getElem?_getD] at hg hcx hoff
      generalize ws[k]?.getD 0 = x at *
      go_wp2
      go_round
      case rel => exact ⟨k + 1, by omega, by go_num, vint (by rw [hoff.out]; omega)⟩
      case measure => simp [intOf]; omega

set_option maxHeartbeats 2000000 in
set_option maxRecDepth 20000 in
theorem rsize_end (a : Option Addr) (m c : Nat) (ws : List Int) (w : World) (h1 : 1 ≤ m) (h8 : m ≤ 8) (hw : Has .i64 w a m ws) (hgood : ∀ j, j < m → Mth.Fit ws j) :
    Calls Try.prog 31 #[HD a m c] w fun e w' => ∃ x, e = .returned x ∧ sizeTold (Mth.off ws m) x ∧ Below w.heap.size w w' := by
  have HG := hid hgood
  clear hgood
  obtain ⟨p, o, rfl, hlt, hcell⟩ := (hw.alloc (o := H0 a m c)).alloc (o := F0) |>.some (by omega)
  have HC := hid hcell
  clear hcell hw hlt
  go_enter Try.func31, Try.ntmps31
  go_wp2
  go_loop [4, 5] (fun t q => ∃ k : Nat, k ≤ m ∧ q = .int .i64 k ∧ t = .int .i64 (Mth.off ws k)) (fun _ q => m - (intOf q).toNat)
  case atStart => exact ⟨0, Nat.zero_le _, rfl, rfl⟩
  case round =>
    obtain ⟨k, hk, rfl, rfl⟩ := hrel
    have ho := Mth.fit_off ws k (fun j hj => HG.out j (by omega))
    by_cases hki : k < m
    · have hg := HG.out k (by omega)
      have hcx := HC.out k (by omega)
      unfold Mth.Fit at hg
      have hoff : Hid (Mth.off ws (k + 1) = Mth.off ws k + (ws.getD k 0).toNat) := rfl
      simp only [List.getD_eq_getElem?_getD] at hg hcx hoff
      generalize ws[k]?.getD 0 = x at *
      go_wp2
      go_round
      case rel => exact ⟨k + 1, by omega, by go_num, vint (by rw [hoff.out]; omega)⟩
      case measure => simp [intOf]; omega
    · have ek : k = m := by omega
      subst ek
      generalize hN0 : Mth.off ws k = N at *
      have HE := hid hN0
      clear hN0
      have ht : (N : Int).tmod 8 = ((N % 8 : Nat) : Int) := rfl
      by_cases hr : N % 8 = 0
      · have hr' : ((N : Int).tmod 8 != 0) = false := by rw [ht, hr]; rfl
        by_cases hN : (256 : Int) < (N : Int)
        · clear ht
          go_wp2_with fail
          refine (fault_any _ _ _).mono ?_
          rintro e w1 ⟨rfl, hb⟩
          obtain ⟨c0, c1, c2, f1, f2, hs⟩ := head_cells (bl2 hb)
          go_wp2
          exact bodyPost_ret (v := .tuple #[.int .i64 0, .agg #[.int .i64 6, .int .i64 (-1)]]) (by simp [results, Try.results31, go_sem, c1, c2]) rfl ⟨_, rfl, by rw [HE.out]; exact told_bad N (by omega), end_head (bl2 hb) _ _⟩
        · clear ht
          go_wp2
          exact bodyPost_ret (v := .tuple #[.int .i64 ((N / 8 : Nat) : Int), .agg #[.int .i64 0, .int .i64 0]]) (by simp [results, Try.results31, go_sem]) rfl ⟨_, rfl, by rw [HE.out]; exact told_good N hr (by omega), bl_alloc (bl_alloc (Below.refl _ _))⟩
      · have hr' : ((N : Int).tmod 8 != 0) = true := by rw [ht, bne_iff_ne]; omega
        clear ht
        go_wp2_with fail
        refine (fault_any _ _ _).mono ?_
        rintro e w1 ⟨rfl, hb⟩
        obtain ⟨c0, c1, c2, f1, f2, hs⟩ := head_cells (bl2 hb)
        go_wp2
        exact bodyPost_ret (v := .tuple #[.int .i64 0, .agg #[.int .i64 6, .int .i64 (-1)]]) (by simp [results, Try.results31, go_sem, c1, c2]) rfl ⟨_, rfl, by rw [HE.out]; exact told_bad N (by omega), end_head (bl2 hb) _ _⟩

/-- what both tell of a header: its bytes, or a fault -/
theorem size_both (m : Nat) (ws : List Int) : (Mth.Head ws m ∧ 
    (∀ a c w, Has .i64 w a m ws → Calls Try.prog 35 #[HD a m c] w fun e w' => e = .returned (.tuple #[.int .i64 ((Mth.off ws m / 8 : Nat) : Int), .agg #[.int .i64 0, .int .i64 0]]) ∧ Below w.heap.size w w') ∧
    (∀ a c w, Has .i64 w a m ws → Calls Try.prog 31 #[HD a m c] w fun e w' => e = .returned (.tuple #[.int .i64 ((Mth.off ws m / 8 : Nat) : Int), .agg #[.int .i64 0, .int .i64 0]]) ∧ Below w.heap.size w w')) ∨
    (¬ Mth.Head ws m ∧ ∃ C A : Int, C ≠ 0 ∧
    (∀ a c w, Has .i64 w a m ws → Calls Try.prog 35 #[HD a m c] w fun e w' => e = .returned (.tuple #[.int .i64 0, .agg #[.int .i64 C, .int .i64 A]]) ∧ Below w.heap.size w w') ∧
    (∀ a c w, Has .i64 w a m ws → Calls Try.prog 31 #[HD a m c] w fun e w' => e = .returned (.tuple #[.int .i64 0, .agg #[.int .i64 C, .int .i64 A]]) ∧ Below w.heap.size w w')) := by
  by_cases hm : 1 ≤ m ∧ m ≤ 8
  · rcases first_of (Mth.Fit ws) m with hg | ⟨i, hi, hb, hg⟩
    · by_cases hN : Mth.off ws m % 8 = 0 ∧ Mth.off ws m ≤ 256
      · left
        refine ⟨⟨hm.1, hm.2, hg, hN.1, hN.2⟩, fun a c w hw => ?_, fun a c w hw => ?_⟩
        · exact (size_end a m c ws w hm.1 hm.2 hw hg).mono fun e w' ⟨x, he, ht, h2⟩ => ⟨by rw [he, ht.1 hN], h2⟩
        · exact (rsize_end a m c ws w hm.1 hm.2 hw hg).mono fun e w' ⟨x, he, ht, h2⟩ => ⟨by rw [he, ht.1 hN], h2⟩
      · right
        refine ⟨fun h => hN ⟨h.2.2.2.1, h.2.2.2.2⟩, 6, -1, by decide, fun a c w hw => ?_, fun a c w hw => ?_⟩
        · exact (size_end a m c ws w hm.1 hm.2 hw hg).mono fun e w' ⟨x, he, ht, h2⟩ => ⟨by rw [he, ht.2 hN], h2⟩
        · exact (rsize_end a m c ws w hm.1 hm.2 hw hg).mono fun e w' ⟨x, he, ht, h2⟩ => ⟨by rw [he, ht.2 hN], h2⟩
    · right
      exact ⟨fun h => hb (h.2.2.1 i hi), 6, i, by decide, fun a c w hw => size_width a m c i ws w hm.1 hm.2 hw hi hg hb, fun a c w hw => rsize_width a m c i ws w hm.1 hm.2 hw hi hg hb⟩
  · right
    exact ⟨fun h => hm ⟨h.1, h.2.1⟩, 2, -1, by decide, fun a c w _ => size_many a m c w (by omega), fun a c w _ => rsize_many a m c w (by omega)⟩
end Go.Proofs.Ytcmdgbfppbkfmaa
