/- What pack.Size and the document's SizeOf do. -/
import Derived.Test.YtajelgjbgehahaaGreatJ1
namespace Go.Proofs.YtajelgjbgehahaaGreat
open Go.RowKit

/-- a header as it is handed over -/
abbrev HD (a : Option Addr) (m c : Nat) : Value := .agg #[.slice a m c]
abbrev H0 (a : Option Addr) (m c : Nat) : Obj := .cells #[.slice a m c] 63

theorem head_cells {w wr : World} {a : Option Addr} {m c : Nat} (hb : Below (w.heap.size + 2) ((w.alloc (H0 a m c)).alloc F0) wr) :
    wr.cell? ⟨w.heap.size, 0, none⟩ = some (.slice a m c) ∧ wr.cell? ⟨w.heap.size + 1, 0, none⟩ = some (.int .i64 0) ∧ wr.cell? ⟨w.heap.size + 1, 1, none⟩ = some (.int .i64 0) ∧ wr.frozen? ⟨w.heap.size + 1, 0, none⟩ = false ∧ wr.frozen? ⟨w.heap.size + 1, 1, none⟩ = false ∧ w.heap.size + 1 < wr.heap.size :=
  ⟨(hb.cell (p := ⟨w.heap.size, 0, none⟩) (by simp)).trans (by simp), (hb.cell (p := ⟨w.heap.size + 1, 0, none⟩) (by simp)).trans (by simp), (hb.cell (p := ⟨w.heap.size + 1, 1, none⟩) (by simp)).trans (by simp),
   (hb.frozen (p := ⟨w.heap.size + 1, 0, none⟩) (by simp)).trans (by simp), (hb.frozen (p := ⟨w.heap.size + 1, 1, none⟩) (by simp)).trans (by simp), by have := hb.size; simp at this; omega⟩

theorem end_head {w wr : World} {a : Option Addr} {m c : Nat} (hb : Below (w.heap.size + 2) ((w.alloc (H0 a m c)).alloc F0) wr) (x y : Value) : Below w.heap.size w ((wr.setCell ⟨w.heap.size + 1, 0, none⟩ x).setCell ⟨w.heap.size + 1, 1, none⟩ y) :=
  (((bl_alloc (bl_alloc (Below.refl w.heap.size w))).trans (hb.mono (by omega))).setCell (by simp) _).setCell (by simp) _

set_option maxHeartbeats 1000000 in
set_option maxRecDepth 20000 in
theorem size_many (a : Option Addr) (m c : Nat) (w : World) (h : (m : Int) < 1 ∨ 8 < (m : Int)) :
    Calls Tryz.prog 70 #[HD a m c] w fun e w' => e = .returned (.tuple #[.int .i64 0, .agg #[.int .i64 2, .int .i64 (-1)]]) ∧ Below w.heap.size w w' := by
  by_cases h1 : (m : Int) < 1
  · go_enter Tryz.func70, Tryz.ntmps70
    go_wp2
    exact bodyPost_ret (v := .tuple #[.int .i64 0, .agg #[.int .i64 2, .int .i64 (-1)]]) (by simp [results, Tryz.results70, go_sem]) rfl ⟨rfl, bl_alloc (bl_alloc (Below.refl _ _))⟩
  · have h2 : 8 < (m : Int) := by omega
    go_enter Tryz.func70, Tryz.ntmps70
    go_wp2
    exact bodyPost_ret (v := .tuple #[.int .i64 0, .agg #[.int .i64 2, .int .i64 (-1)]]) (by simp [results, Tryz.results70, go_sem]) rfl ⟨rfl, bl_alloc (bl_alloc (Below.refl _ _))⟩

set_option maxHeartbeats 2000000 in
set_option maxRecDepth 20000 in
theorem size_width (a : Option Addr) (m c i : Nat) (ws : List Int) (w : World) (h1 : 1 ≤ m) (h8 : m ≤ 8) (hw : Has .i64 w a m ws) (hi : i < m) (hgood : ∀ j, j < i → Mth.Fit ws j) (hbad : ¬ Mth.Fit ws i) :
    Calls Tryz.prog 70 #[HD a m c] w fun e w' => e = .returned (.tuple #[.int .i64 0, .agg #[.int .i64 6, .int .i64 i]]) ∧ Below w.heap.size w w' := by
  have HG := hid hgood
  clear hgood
  obtain ⟨p, o, rfl, hlt, hcell⟩ := (hw.alloc (o := H0 a m c)).alloc (o := F0) |>.some (by omega)
  have HC := hid hcell
  clear hcell hw hlt
  go_enter Tryz.func70, Tryz.ntmps70
  go_wp2
  go_loop [4, 21] (fun t q => ∃ k : Nat, k ≤ i ∧ q = .int .i64 k ∧ t = .int .i64 (Mth.off ws k)) (fun _ q => m - (intOf q).toNat)
  case atStart => exact ⟨0, Nat.zero_le _, rfl, rfl⟩
  case round =>
    obtain ⟨k, hk, rfl, rfl⟩ := hrel
    have hcx := HC.out k (by omega)
    have ho := Mth.fit_off ws k (fun j hj => HG.out j (by omega))
    by_cases hki : k = i
    · subst hki
      unfold Mth.Fit at hbad
      simp only [List.getD_eq_getElem?_getD] at hbad hcx
      generalize ws[k]?.getD 0 = x at *
      by_cases hx : x < 1
      · go_wp2
        exact bodyPost_ret (v := .tuple #[.int .i64 0, .agg #[.int .i64 6, .int .i64 k]]) (by simp [results, Tryz.results70, go_sem]) rfl ⟨rfl, bl_alloc (bl_alloc (Below.refl _ _))⟩
      · have hx2 : 48 < x := by omega
        clear hbad
        go_wp2
        exact bodyPost_ret (v := .tuple #[.int .i64 0, .agg #[.int .i64 6, .int .i64 k]]) (by simp [results, Tryz.results70, go_sem]) rfl ⟨rfl, bl_alloc (bl_alloc (Below.refl _ _))⟩
    · have hg := HG.out k (by omega)
      unfold Mth.Fit at hg
      have hoff : Hid (Mth.off ws (k + 1) = Mth.off ws k + (ws.getD k 0).toNat) := rfl
      simp only [List.getD_eq_getElem?_getD] at hg hcx hoff
      generalize ws[k]?.getD 0 = x at *
      go_wp2
      go_round
      case rel => exact ⟨k + 1, by omega, by go_num, vint (by rw [hoff.out]; omega)⟩
      case measure => simp [intOf]; omega

/-- what is told where each width is right -/
def sizeTold (N : Nat) (x : Value) : Prop := ((N % 8 = 0 ∧ N ≤ 256) → x = .tuple #[.int .i64 ((N / 8 : Nat) : Int), .agg #[.int .i64 0, .int .i64 0]]) ∧ (¬ (N % 8 = 0 ∧ N ≤ 256) → x = .tuple #[.int .i64 0, .agg #[.int .i64 6, .int .i64 (-1)]])

theorem told_good (N : Nat) (h : N % 8 = 0) (h2 : N ≤ 256) : sizeTold N (.tuple #[.int .i64 ((N / 8 : Nat) : Int), .agg #[.int .i64 0, .int .i64 0]]) := ⟨fun _ => rfl, fun h' => absurd ⟨h, h2⟩ h'⟩

theorem told_bad (N : Nat) (h : ¬ (N % 8 = 0 ∧ N ≤ 256)) : sizeTold N (.tuple #[.int .i64 0, .agg #[.int .i64 6, .int .i64 (-1)]]) := ⟨fun h' => absurd h' h, fun _ => rfl⟩

set_option maxHeartbeats 2000000 in
set_option maxRecDepth 20000 in
theorem size_end (a : Option Addr) (m c : Nat) (ws : List Int) (w : World) (h1 : 1 ≤ m) (h8 : m ≤ 8) (hw : Has .i64 w a m ws) (hgood : ∀ j, j < m → Mth.Fit ws j) :
    Calls Tryz.prog 70 #[HD a m c] w fun e w' => ∃ x, e = .returned x ∧ sizeTold (Mth.off ws m) x ∧ Below w.heap.size w w' := by
  have HG := hid hgood
  clear hgood
  obtain ⟨p, o, rfl, hlt, hcell⟩ := (hw.alloc (o := H0 a m c)).alloc (o := F0) |>.some (by omega)
  have HC := hid hcell
  clear hcell hw hlt
  go_enter Tryz.func70, Tryz.ntmps70
  go_wp2
  go_loop [4, 21] (fun t q => ∃ k : Nat, k ≤ m ∧ q = .int .i64 k ∧ t = .int .i64 (Mth.off ws k)) (fun _ q => m - (intOf q).toNat)
  case atStart => exact ⟨0, Nat.zero_le _, rfl, rfl⟩
  case round =>
    obtain ⟨k, hk, rfl, rfl⟩ := hrel
    have ho := Mth.fit_off ws k (fun j hj => HG.out j (by omega))
    by_cases hki : k < m
    · have hg := HG.out k (by omega)
      have hcx := HC.out k (by omega)
      unfold Mth.Fit at hg
      have hoff : Hid (Mth.off ws (k + 1) = Mth.off ws k + (ws.getD k 0).toNat) := rfl
      simp only [List.getD_eq_getElem?_getD] at hg hcx hoff
      generalize ws[k]?.getD 0 = x at *
      go_wp2
      go_round
      case rel => exact ⟨k + 1, by omega, by go_num, vint (by rw [hoff.out]; omega)⟩
      case measure => simp [intOf]; omega
    · have ek : k = m := by omega
      subst ek
      generalize hN0 : Mth.off ws k = N at *
      have HE := hid hN0
      clear hN0
      have ht : (N : Int).tmod 8 = ((N % 8 : Nat) : Int) := rfl
      by_cases hr : N % 8 = 0
      · have hr' : ((N : Int).tmod 8 != 0) = false := by rw [ht, hr]; rfl
        by_cases hN : (256 : Int) < (N : Int)
        · clear ht
          go_wp2
          exact bodyPost_ret (v := .tuple #[.int .i64 0, .agg #[.int .i64 6, .int .i64 (-1)]]) (by simp [results, Tryz.results70, go_sem]) rfl ⟨_, rfl, by rw [HE.out]; exact told_bad N (by omega), bl_alloc (bl_alloc (Below.refl _ _))⟩
        · clear ht
          go_wp2
          exact bodyPost_ret (v := .tuple #[.int .i64 ((N / 8 : Nat) : Int), .agg #[.int .i64 0, .int .i64 0]]) (by simp [results, Tryz.results70, go_sem]) rfl ⟨_, rfl, by rw [HE.out]; exact told_good N hr (by omega), bl_alloc (bl_alloc (Below.refl _ _))⟩
      · have hr' : ((N : Int).tmod 8 != 0) = true := by rw [ht, bne_iff_ne]; omega
        clear ht
        go_wp2
        exact bodyPost_ret (v := .tuple #[.int .i64 0, .agg #[.int .i64 6, .int .i64 (-1)]]) (by simp [results, Tryz.results70, go_sem]) rfl ⟨_, rfl, by rw [HE.out]; exact told_bad N (by omega), bl_alloc (bl_alloc (Below.refl _ _))⟩
end Go.Proofs.YtajelgjbgehahaaGreat
