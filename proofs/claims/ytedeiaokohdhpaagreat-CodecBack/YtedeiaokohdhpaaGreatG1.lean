/- Texts of one chain, joined: Size, Same, PRead. -/
import Derived.Test.YtedeiaokohdhpaaGreatG0
import Derived.Laws.IdiomStrings
import Derived.Deep.RegionLaw
import Derived.Laws.AppendOwnNone
namespace Go.Proofs.YtedeiaokohdhpaaGreat
open Go.RowKit
abbrev HD (a : Option Addr) (m c : Nat) : Value := .agg #[.slice a m c]
abbrev H0 (a : Option Addr) (m c : Nat) : Obj := .cells #[.slice a m c] 53
set_option maxHeartbeats 1000000 in
set_option maxRecDepth 20000 in
theorem size_many (a : Option Addr) (m c : Nat) (w : World) (h : (m : Int) < 1 ∨ 8 < (m : Int)) :
    Calls Tryz.prog 85 #[HD a m c] w fun e w' => e = .returned (.tuple #[.int .i64 0, .agg #[.int .i64 2, .int .i64 (-1)]]) ∧ Below w.heap.size w w' := by
  by_cases h1 : (m : Int) < 1
  · go_enter Tryz.func85, Tryz.ntmps85
    go_wp2
    exact bodyPost_ret (v := .tuple #[.int .i64 0, .agg #[.int .i64 2, .int .i64 (-1)]]) (by simp [results, Tryz.results85, go_sem]) rfl ⟨rfl, bl_alloc (bl_alloc (Below.refl _ _))⟩
  · have h2 : 8 < (m : Int) := by omega
    go_enter Tryz.func85, Tryz.ntmps85
    go_wp2
    exact bodyPost_ret (v := .tuple #[.int .i64 0, .agg #[.int .i64 2, .int .i64 (-1)]]) (by simp [results, Tryz.results85, go_sem]) rfl ⟨rfl, bl_alloc (bl_alloc (Below.refl _ _))⟩
set_option maxHeartbeats 2000000 in
set_option maxRecDepth 20000 in
theorem size_width (a : Option Addr) (m c i : Nat) (ws : List Int) (w : World) (h1 : 1 ≤ m) (h8 : m ≤ 8) (hw : Has .i64 w a m ws) (hi : i < m) (hgood : ∀ j, j < i → Mth.Fit ws j) (hbad : ¬ Mth.Fit ws i) :
    Calls Tryz.prog 85 #[HD a m c] w fun e w' => e = .returned (.tuple #[.int .i64 0, .agg #[.int .i64 6, .int .i64 i]]) ∧ Below w.heap.size w w' := by
  have HG := hid hgood
  clear hgood
  obtain ⟨p, o, rfl, hlt, hcell⟩ := (hw.alloc (o := H0 a m c)).alloc (o := F0) |>.some (by omega)
  have HC := hid hcell
  clear hcell hw hlt
  go_enter Tryz.func85, Tryz.ntmps85
  go_wp2
  go_loop [4, 21] (fun t q => ∃ k : Nat, k ≤ i ∧ q = .int .i64 k ∧ t = .int .i64 (Mth.off ws k)) (fun _ q => m - (intOf q).toNat)
  case atStart => exact ⟨0, Nat.zero_le _, rfl, rfl⟩
  case round =>
    obtain ⟨k, hk, rfl, rfl⟩ := hrel
    have hcx := HC.out k (by omega)
    have ho := Mth.fit_off ws k (fun j hj => HG.out j (by omega))
    by_cases hki : k = i
    · subst hki
      unfold Mth.Fit at hbad
      simp only [List.getD_eq_getElem?_getD] at hbad hcx
      generalize ws[k]?.getD 0 = x at *
      by_cases hx : x < 1
      · go_wp2
        exact bodyPost_ret (v := .tuple #[.int .i64 0, .agg #[.int .i64 6, .int .i64 k]]) (by simp [results, Tryz.results85, go_sem]) rfl ⟨rfl, bl_alloc (bl_alloc (Below.refl _ _))⟩
      · have hx2 : 48 < x := by omega
        clear hbad
        go_wp2
        exact bodyPost_ret (v := .tuple #[.int .i64 0, .agg #[.int .i64 6, .int .i64 k]]) (by simp [results, Tryz.results85, go_sem]) rfl ⟨rfl, bl_alloc (bl_alloc (Below.refl _ _))⟩
    · have hg := HG.out k (by omega)
      unfold Mth.Fit at hg
      have hoff : Hid (Mth.off ws (k + 1) = Mth.off ws k + (ws.getD k 0).toNat) := rfl
      simp only [List.getD_eq_getElem?_getD] at hg hcx hoff
      generalize ws[k]?.getD 0 = x at *
      go_wp2
      go_round
      case rel => exact ⟨k + 1, by omega, by go_num, vint (by rw [hoff.out]; omega)⟩
      case measure => simp [intOf]; omega
def sizeTold (N : Nat) (x : Value) : Prop := ((N % 8 = 0 ∧ N ≤ 256) → x = .tuple #[.int .i64 ((N / 8 : Nat) : Int), .agg #[.int .i64 0, .int .i64 0]]) ∧ (¬ (N % 8 = 0 ∧ N ≤ 256) → x = .tuple #[.int .i64 0, .agg #[.int .i64 6, .int .i64 (-1)]])
theorem told_good (N : Nat) (h : N % 8 = 0) (h2 : N ≤ 256) : sizeTold N (.tuple #[.int .i64 ((N / 8 : Nat) : Int), .agg #[.int .i64 0, .int .i64 0]]) := ⟨fun _ => rfl, fun h' => absurd ⟨h, h2⟩ h'⟩
theorem told_bad (N : Nat) (h : ¬ (N % 8 = 0 ∧ N ≤ 256)) : sizeTold N (.tuple #[.int .i64 0, .agg #[.int .i64 6, .int .i64 (-1)]]) := ⟨fun h' => absurd h' h, fun _ => rfl⟩
set_option maxHeartbeats 2000000 in
set_option maxRecDepth 20000 in
theorem size_end (a : Option Addr) (m c : Nat) (ws : List Int) (w : World) (h1 : 1 ≤ m) (h8 : m ≤ 8) (hw : Has .i64 w a m ws) (hgood : ∀ j, j < m → Mth.Fit ws j) :
    Calls Tryz.prog 85 #[HD a m c] w fun e w' => ∃ x, e = .returned x ∧ sizeTold (Mth.off ws m) x ∧ Below w.heap.size w w' := by
  have HG := hid hgood
  clear hgood
  obtain ⟨p, o, rfl, hlt, hcell⟩ := (hw.alloc (o := H0 a m c)).alloc (o := F0) |>.some (by omega)
  have HC := hid hcell
  clear hcell hw hlt
  go_enter Tryz.func85, Tryz.ntmps85
  go_wp2
  go_loop [4, 21] (fun t q => ∃ k : Nat, k ≤ m ∧ q = .int .i64 k ∧ t = .int .i64 (Mth.off ws k)) (fun _ q => m - (intOf q).toNat)
  case atStart => exact ⟨0, Nat.zero_le _, rfl, rfl⟩
  case round =>
    obtain ⟨k, hk, rfl, rfl⟩ := hrel
    have ho := Mth.fit_off ws k (fun j hj => HG.out j (by omega))
    by_cases hki : k < m
    · have hg := HG.out k (by omega)
      have hcx := HC.out k (by omega)
      unfold Mth.Fit at hg
      have hoff : Hid (Mth.off ws (k + 1) = Mth.off ws k + (ws.getD k 0).toNat) := rfl
      simp only [List.getD_eq_getElem?_getD] at hg hcx hoff
      generalize ws[k]?.getD 0 = x at *
      go_wp2
      go_round
      case rel => exact ⟨k + 1, by omega, by go_num, vint (by rw [hoff.out]; omega)⟩
      case measure => simp [intOf]; omega
    · have ek : k = m := by omega
      subst ek
      generalize hN0 : Mth.off ws k = N at *
      have HE := hid hN0
      clear hN0
      have ht : (N : Int).tmod 8 = ((N % 8 : Nat) : Int) := rfl
      by_cases hr : N % 8 = 0
      · have hr' : ((N : Int).tmod 8 != 0) = false := by rw [ht, hr]; rfl
        by_cases hN : (256 : Int) < (N : Int)
        · clear ht
          go_wp2
          exact bodyPost_ret (v := .tuple #[.int .i64 0, .agg #[.int .i64 6, .int .i64 (-1)]]) (by simp [results, Tryz.results85, go_sem]) rfl ⟨_, rfl, by rw [HE.out]; exact told_bad N (by omega), bl_alloc (bl_alloc (Below.refl _ _))⟩
        · clear ht
          go_wp2
          exact bodyPost_ret (v := .tuple #[.int .i64 ((N / 8 : Nat) : Int), .agg #[.int .i64 0, .int .i64 0]]) (by simp [results, Tryz.results85, go_sem]) rfl ⟨_, rfl, by rw [HE.out]; exact told_good N hr (by omega), bl_alloc (bl_alloc (Below.refl _ _))⟩
      · have hr' : ((N : Int).tmod 8 != 0) = true := by rw [ht, bne_iff_ne]; omega
        clear ht
        go_wp2
        exact bodyPost_ret (v := .tuple #[.int .i64 0, .agg #[.int .i64 6, .int .i64 (-1)]]) (by simp [results, Tryz.results85, go_sem]) rfl ⟨_, rfl, by rw [HE.out]; exact told_bad N (by omega), bl_alloc (bl_alloc (Below.refl _ _))⟩
end Go.Proofs.YtedeiaokohdhpaaGreat

namespace Go.Proofs.YtedeiaokohdhpaaGreat
open Go.RowKit
def str (zs : List Int) : ByteArray := ⟨(zs.map fun n => UInt8.ofNat n.toNat).toArray⟩
theorem conv_bytes {w : World} {a : Option Addr} {len : Nat} {zs : List Int} (cap : Nat) (h : Has .u8 w a len zs) : (convert 30 9 (.slice a len cap)).run Tryz.prog w = .ok (.string (str zs)) w := by
  have hb := h.bytes
  rcases h.2.2 with h0 | ⟨b, off, rfl, hlt, hc⟩
  · subst h0
    have hl : len = 0 := by have := h.1; simpa using this.symm
    subst hl
    rw [run_convert_bytes_string w 30 9 5 a 0 cap Tryz.underlying30 Tryz.underlying5 Tryz.underlying9]
    cases a
    · rfl
    · rfl
  · have hl := h.1
    have e : len = (zs.map fun n => UInt8.ofNat n.toNat).length := by simp [hl]
    conv => lhs; rw [e]
    rw [run_convert_bytes_back w 30 9 5 ⟨b, off, none⟩ cap (zs.map fun n => UInt8.ofNat n.toNat) Tryz.underlying30 Tryz.underlying5 Tryz.underlying9]
    · rfl
    · intro j hj
      simp only [List.length_map] at hj
      rw [Addr.add_lit, hc j (by omega)]
      have := hb j
      simp only [List.getD_eq_getElem?_getD, List.getElem?_eq_getElem hj, Option.getD_some] at this ⊢
      simp only [List.getElem_map]
      congr 2
      simp only [UInt8.toNat_ofNat']
      omega
set_option maxHeartbeats 400000 in
set_option maxRecDepth 20000 in
theorem same_bytes {w : World} {a b : Option Addr} {len : Nat} {zs : List Int} (c d : Nat) (ha : Has .u8 w a len zs) (hb : Has .u8 w b len zs) :
    Calls Tryz.prog 13 #[.slice a len c, .slice b len d] w fun e w' => e = .returned (.bool true) ∧ w' = w := by
  have k1 := conv_bytes c ha
  have k2 := conv_bytes d hb
  clear ha hb
  go_enter Tryz.func13, Tryz.ntmps13
  go_wp2
  go_ret
  exact ⟨rfl, rfl⟩
end Go.Proofs.YtedeiaokohdhpaaGreat

namespace Go.Proofs.YtedeiaokohdhpaaGreat
open Go.RowKit
theorem Has.put {k : IntKind} {w : World} {a : Option Addr} {len : Nat} {zs : List Int} (h : Has k w a len zs) (hk : k ≠ .i64) {p : Addr} {x : Int} (hp : w.cell? p = .some (.int .i64 x)) (v : Value) : Has k (w.setCell p v) a len zs := by
  refine ⟨h.1, h.2.1, ?_⟩
  rcases h.2.2 with h | ⟨b, off, rfl, hlt, hc⟩
  · exact .inl h
  · refine .inr ⟨b, off, rfl, by simpa [World.setCell] using hlt, fun i hi => ?_⟩
    rw [World.cell?_setCell_other]
    · exact hc i hi
    · intro e
      have := hc i hi
      rw [← e, hp] at this
      simp only [Option.some.injEq, Value.int.injEq] at this
      exact hk this.1.symm
end Go.Proofs.YtedeiaokohdhpaaGreat
