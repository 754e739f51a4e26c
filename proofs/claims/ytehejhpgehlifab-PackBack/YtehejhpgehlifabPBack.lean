/- PackBack answers true. -/
import Derived.Test.YtehejhpgehlifabPDoes
namespace Go.Proofs.Ytehejhpgehlifab
open Go.RowKit

set_option maxHeartbeats 400000 in
theorem pback_long (a b v : Option Addr) (m c len d n e : Nat) (t : Int) (w : World) (h : (100 : Int) < (m : Int) ∨ (1000 : Int) < (len : Int) ∨ (100 : Int) < (n : Int)) :
    Calls Try.prog 6 #[.slice a m c, .slice b len d, .int .i64 t, .slice v n e] w fun e w' => e = .returned (.bool true) ∧ Below w.heap.size w w' := by
  by_cases h1 : (100 : Int) < (m : Int)
  · go_enter Try.func6, Try.ntmps6
    go_wp2_with fail
    refine (pack_begun _).mono ?_
    rintro e w1 ⟨rfl, hb1⟩
    go_wp2
    go_ret
    exact ⟨rfl, hb1⟩
  · by_cases h2 : (1000 : Int) < (len : Int)
    · go_enter Try.func6, Try.ntmps6
      go_wp2_with fail
      refine (pack_begun _).mono ?_
      rintro e w1 ⟨rfl, hb1⟩
      go_wp2
      go_ret
      exact ⟨rfl, hb1⟩
    · have h3 : (100 : Int) < (n : Int) := by omega
      go_enter Try.func6, Try.ntmps6
      go_wp2_with fail
      refine (pack_begun _).mono ?_
      rintro e w1 ⟨rfl, hb1⟩
      go_wp2
      go_ret
      exact ⟨rfl, hb1⟩
theorem fits_lt {ls ws : List Int} {j : Nat} (hf : Mth.Fit ws j) (h : Fits ls ws j) : ls.getD j 0 < ((2 ^ (ws.getD j 0).toNat : Nat) : Int) := by
  unfold Mth.Fit at hf
  unfold Fits maskN at h
  rw [if_pos (by omega)] at h
  have : 1 ≤ 2 ^ (ws.getD j 0).toNat := Nat.one_le_two_pow
  omega

theorem parts_fits (zs ws : List Int) (T : Int) (m j : Nat) (hj : j < m) (hf : Mth.Fit ws j) : Fits (Mth.parts zs T ws m) ws j := by
  unfold Mth.Fit at hf
  unfold Fits maskN
  rw [if_pos (by omega), Mth.parts_at _ _ _ _ _ hj]
  have := Mth.rd_lt zs (T + (Mth.off ws j : Int)).toNat (ws.getD j 0).toNat
  omega

/-- what was written is read -/
theorem there {m NN : Nat} {ls ws : List Int} (hh : Mth.Head ws m) (hN : Mth.off ws m = 8 * NN) (hlen : ls.length = m) (hnum : ∀ n ∈ ls, 0 ≤ n ∧ n < 18446744073709551616) (hf : ∀ j, j < m → Fits ls ws j)
    (hs : ∀ a c w, Has .i64 w a m ws → Calls Try.prog 14 #[HD a m c] w fun e w' => e = .returned (.tuple #[.int .i64 NN, .agg #[.int .i64 0, .int .i64 0]]) ∧ Below w.heap.size w w') :
    ∀ a c b d w, Has .i64 w a m ws → Has .u8 w b NN (Mth.jn ls ws NN m) → Calls Try.prog 16 #[HD a m c, .slice b NN d, .int .i64 0] w fun e w' => ∃ g cap', e = .returned (.tuple #[.slice g m cap', .agg #[.int .i64 0, .int .i64 0]]) ∧ Has .u64 w' g m ls ∧ Below w.heap.size w w' := by
  intro a c b d w hw hz
  have h32 : NN ≤ 32 := by have := hh.2.2.2.2; omega
  have h := pread_good a b m c NN d NN 0 (Mth.jn ls ws NN m) ws w (by omega) hh hN hz hw (by omega) (by omega) hs
  rw [Int.zero_mul, Mth.back_nums ls ws NN m hlen (by omega) (fun j hj => ⟨?_, fits_lt (hh.2.2.1 j hj) (hf j hj)⟩)] at h
  · exact h
  · have e : ls.getD j 0 = ls[j]'(by omega) := by simp [List.getD_eq_getElem?_getD, show j < ls.length by omega]
    rw [e]
    exact (hnum _ (List.getElem_mem _)).1

/-- what was read is written to the same bytes -/
theorem again {m NN u len : Nat} {zs ws : List Int} (hh : Mth.Head ws m) (hN : Mth.off ws m = 8 * NN) (hb : Mth.Bytes zs) (hlen : zs.length = len) (hu : u + NN ≤ len)
    (hs : ∀ a c w, Has .i64 w a m ws → Calls Try.prog 14 #[HD a m c] w fun e w' => e = .returned (.tuple #[.int .i64 NN, .agg #[.int .i64 0, .int .i64 0]]) ∧ Below w.heap.size w w') :
    ∀ a c b d w, Has .i64 w a m ws → Has .u64 w b m (Mth.parts zs (8 * (u : Int)) ws m) → Calls Try.prog 19 #[HD a m c, .slice b m d] w fun e w' => ∃ g cap', e = .returned (.tuple #[.slice g NN cap', .agg #[.int .i64 0, .int .i64 0]]) ∧ Has .u8 w' g NN ((zs.drop u).take NN) ∧ Below w.heap.size w w' := by
  intro a c b d w hw hv
  have hm : m ≤ 1000 := by have := hh.2.1; omega
  have h := pwrite_good a b m c d NN (Mth.parts zs (8 * (u : Int)) ws m) ws w hm hv hw (fun j hj => (hh.2.2.1 j hj).wide) (fun j hj => parts_fits _ _ _ _ _ hj (hh.2.2.1 j hj)) hs
  have e1 : (Mth.off ws m + 7) / 8 = NN := by omega
  have e2 := Mth.back_bytes zs ws u NN m hb hN (by omega)
  rw [show ((8 * u : Nat) : Int) = 8 * (u : Int) from by omega] at e2
  rw [e1, e2] at h
  exact h

theorem head_pos {m NN : Nat} {ws : List Int} (hh : Mth.Head ws m) (hN : Mth.off ws m = 8 * NN) : 1 ≤ NN ∧ NN ≤ 32 := by
  have h1 := Mth.off_mono ws 1 m hh.1
  have h2 := hh.2.2.1 0 (by have := hh.1; omega)
  have h3 := hh.2.2.2.2
  unfold Mth.Fit at h2
  simp only [Mth.off] at h1
  omega

theorem st_two {W w5 w6 : World} {C A : Int} (C' A' : Int) (b5 : Below W.heap.size W w5) (b6 : Below (w5.alloc (.cells #[.int .i64 C, .int .i64 A] 36)).heap.size (w5.alloc (.cells #[.int .i64 C, .int .i64 A] 36)) w6) :
    St W w5.heap.size w6.heap.size C A C' A' (w6.alloc (.cells #[.int .i64 C', .int .i64 A'] 36)) := by
  have hs : w5.heap.size + 1 ≤ w6.heap.size := by have := b6.size; simpa using this
  have h5 := b5.size
  have b7 := bl_alloc (o := .cells #[.int .i64 C', .int .i64 A'] 36) b6
  exact ⟨bl_alloc (bl_step (bl_alloc b5) b6), h5, by omega, by omega, by simp; omega, by simp,
    (b7.cell (p := ⟨w5.heap.size, 0, none⟩) (by simp)).trans (by simp), (b7.cell (p := ⟨w5.heap.size, 1, none⟩) (by simp)).trans (by simp), by simp, by simp,
    (b7.frozen (p := ⟨w5.heap.size, 0, none⟩) (by simp)).trans (by simp), (b7.frozen (p := ⟨w5.heap.size, 1, none⟩) (by simp)).trans (by simp), by simp, by simp⟩

set_option maxRecDepth 20000 in
set_option maxHeartbeats 4000000 in
theorem pback_wr (a b v : Option Addr) (m c len d n e : Nat) (NN u : Nat) (zs ls ws : List Int) (w : World) (h1 : (m : Int) ≤ 100) (h2 : (len : Int) ≤ 1000) (h3 : (n : Int) ≤ 100) (hd : len ≤ d)
    (hw : Has .i64 w a m ws) (hz : Has .u8 w b len zs) (hv : Has .u64 w v n ls) (hs : ∀ a c w, Has .i64 w a m ws → Calls Try.prog 14 #[HD a m c] w fun e w' => e = .returned (.tuple #[.int .i64 NN, .agg #[.int .i64 0, .int .i64 0]]) ∧ Below w.heap.size w w')
    (hwr : ∀ a c b d w, Has .i64 w a m ws → Has .u64 w b n ls → Calls Try.prog 19 #[HD a m c, .slice b n d] w fun e w' => ∃ g cap', e = .returned (.tuple #[.slice g NN cap', .agg #[.int .i64 0, .int .i64 0]]) ∧ Has .u8 w' g NN (Mth.jn ls ws NN m) ∧ Below w.heap.size w w')
    (hrd : ∀ a c b d w, Has .i64 w a m ws → Has .u8 w b NN (Mth.jn ls ws NN m) → Calls Try.prog 16 #[HD a m c, .slice b NN d, .int .i64 0] w fun e w' => ∃ g cap', e = .returned (.tuple #[.slice g n cap', .agg #[.int .i64 0, .int .i64 0]]) ∧ Has .u64 w' g n ls ∧ Below w.heap.size w w')
    (hu : u + NN ≤ len) (h1N : 1 ≤ NN) (hrd2 : ∀ a c b d w, len ≤ d → Has .i64 w a m ws → Has .u8 w b len zs → Calls Try.prog 16 #[HD a m c, .slice b len d, .int .i64 u] w fun e w' => ∃ g cap', e = .returned (.tuple #[.slice g m cap', .agg #[.int .i64 0, .int .i64 0]]) ∧ Has .u64 w' g m (Mth.parts zs (8 * (u : Int)) ws m) ∧ Below w.heap.size w w')
    (hwr2 : ∀ a c b d w, Has .i64 w a m ws → Has .u64 w b m (Mth.parts zs (8 * (u : Int)) ws m) → Calls Try.prog 19 #[HD a m c, .slice b m d] w fun e w' => ∃ g cap', e = .returned (.tuple #[.slice g NN cap', .agg #[.int .i64 0, .int .i64 0]]) ∧ Has .u8 w' g NN ((zs.drop u).take NN) ∧ Below w.heap.size w w') :
    Calls Try.prog 6 #[.slice a m c, .slice b len d, .int .i64 u, .slice v n e] w fun e w' => e = .returned (.bool true) ∧ Below w.heap.size w w' := by
  have G1 := hid hs
  have G2 := hid hwr
  have G3 := hid hrd
  have G4 := hid hrd2
  have G5 := hid hwr2
  have HW := hid hw
  have HV := hid hv
  have HZ := hid hz
  have HD' := hid hd
  obtain ⟨p, o, rfl, hpl, _⟩ := hz.some (by omega)
  clear hs hwr hrd2 hw hv hrd hwr2 hz
  go_enter Try.func6, Try.ntmps6
  go_wp2_with fail
  refine (pack_begun _).mono ?_
  rintro e w1 ⟨rfl, hb1⟩
  have B1 := bl_alloc (o := H0 a m c) hb1
  have hH1 : (w1.alloc (H0 a m c)).cell? ⟨w1.heap.size, 0, none⟩ = some (.slice a m c) := by simp
  have W1 := hid (HW.out.step B1)
  have V1 := hid (HV.out.step B1)
  have Z1 := hid (HZ.out.step B1)
  have K1 := hid hH1
  clear hb1 hH1
  go_wp2_with fail
  refine (G1.out _ _ _ W1.out).mono ?_
  rintro e w2 ⟨rfl, b2⟩
  have hH1 := K1.out
  have hs2 : w1.heap.size + 1 ≤ w2.heap.size := by have := b2.size; simpa using this
  have hs2' : w1.heap.size < w2.heap.size := by omega
  have hH2 := (b2.cell (p := ⟨w1.heap.size, 0, none⟩) (by simp)).trans hH1
  clear hH1
  go_wp2_with fail
  refine (G2.out _ _ _ _ _ (W1.out.step b2).alloc (V1.out.step b2).alloc).mono ?_
  rintro e w3 ⟨g3, cp3, rfl, P3, b3⟩
  have S3 := st_two 0 0 b2 b3
  have hs3 : w2.heap.size + 1 ≤ w3.heap.size := by have := b3.size; simpa using this
  have hs3' : w1.heap.size < w3.heap.size := by omega
  have n1 : ¬ w1.heap.size = w3.heap.size := by omega
  have n2 : ¬ w3.heap.size = w1.heap.size := by omega
  have hH3 : w3.cell? ⟨w1.heap.size, 0, none⟩ = some (.slice a m c) := (b3.cell (p := ⟨w1.heap.size, 0, none⟩) (by simp; omega)).trans (((bl_alloc (Below.refl w2.heap.size w2)).cell (p := ⟨w1.heap.size, 0, none⟩) hs2').trans hH2)
  have hH1 := K1.out
  clear hH2 b2 b3 G1 G2 hs2 hs2' hs3
  go_wp2_with fail
  refine (G3.out _ _ _ _ _ (W1.out.step S3.bel) P3.alloc).mono ?_
  rintro e w4 ⟨g4, cp4, rfl, P4, b4⟩
  have S4 := S3.step b4
  have d0 := S4.d0
  have d1 := S4.d1
  have q0 := S4.q0
  have q1 := S4.q1
  have hH := (S4.bel.cell (p := ⟨w1.heap.size, 0, none⟩) (by simp)).trans hH1
  have hs4 : w3.heap.size < w4.heap.size := S4.lg
  have hs4' : w1.heap.size < w4.heap.size := by omega
  have hNN : ((NN : Int) != (NN : Int)) = false := by simp
  have X4 := hid (P4.alloc (o := F0))
  have BX := bl_alloc (o := F0) S4.bel
  have hq := bl_alloc (o := F0) (Below.refl w4.heap.size w4)
  have Y4 := hid (V1.out.step BX)
  have m2 : n ≤ 1000 := by omega
  have S4' := S4.step hq
  clear G3 P3 P4 b4 S3 hH3 hs3'
  go_wp2_with fail
  refine (same_nums _ _ m2 X4.out Y4.out).mono ?_
  rintro e w5 ⟨rfl, s5, rfl⟩
  have S5 := S4'.drewN s5
  clear X4 Y4 BX hq
  go_wp2_with fail
  refine (G4.out _ _ _ _ _ HD'.out (W1.out.step S5.bel) (Z1.out.step S5.bel)).mono ?_
  rintro e w6 ⟨g6, cp6, rfl, P6, b6⟩
  have S6 := S5.step b6
  clear d0 d1 q0 q1 hH S4 S4' S5 hs4 hs4' b6 G4
  have d0 := S6.d0
  have d1 := S6.d1
  have q0 := S6.q0
  have q1 := S6.q1
  have hH := (S6.bel.cell (p := ⟨w1.heap.size, 0, none⟩) (by simp)).trans hH1
  have S6' := S6.putG 0 0
  have P6' := hid (P6.put2 (by decide) d0 d1 (.int .i64 0) (.int .i64 0))
  clear P6
  go_wp2_with fail
  refine (G5.out _ _ _ _ _ (W1.out.step S6'.bel) P6'.out).mono ?_
  rintro e w7 ⟨g7, cp7, rfl, P7, b7⟩
  have BZ := bl_alloc (o := F0) (bl_step S6'.bel b7)
  have X7 := hid (P7.alloc (o := F0))
  have Z7 := hid (has_cut2 (Z1.out.step BZ) u NN hu (by omega))
  have BB' := bl_step B1 BZ
  obtain ⟨x, hx⟩ : ∃ x, x = u + NN := ⟨_, rfl⟩
  have hwx : (u : Int) + (NN : Int) = (x : Int) := by omega
  have e1 : u ≤ x := by omega
  have e2 : x ≤ d := by omega
  have e3 : x - u = NN := by omega
  have e4 : (x : Int) < 9223372036854775808 := by omega
  have n4 : ¬ d = u := by omega
  clear d0 d1 q0 q1 hH S6 S6' P6' P7 b7 BZ hx G5
  go_wp2_with fail
  refine (same_bytes _ _ X7.out Z7.out).mono ?_
  rintro e w8 ⟨rfl, rfl⟩
  go_wp2
  go_ret
  exact ⟨rfl, BB'⟩

set_option maxRecDepth 20000 in
set_option maxHeartbeats 4000000 in
theorem pback_ws (a b v : Option Addr) (m c len d n e : Nat) (NN : Nat) (t Cr Ar : Int) (ls ws : List Int) (w : World) (h1 : (m : Int) ≤ 100) (h2 : (len : Int) ≤ 1000) (h3 : (n : Int) ≤ 100)
    (hw : Has .i64 w a m ws) (hv : Has .u64 w v n ls) (hs : ∀ a c w, Has .i64 w a m ws → Calls Try.prog 14 #[HD a m c] w fun e w' => e = .returned (.tuple #[.int .i64 NN, .agg #[.int .i64 0, .int .i64 0]]) ∧ Below w.heap.size w w')
    (hwr : ∀ a c b d w, Has .i64 w a m ws → Has .u64 w b n ls → Calls Try.prog 19 #[HD a m c, .slice b n d] w fun e w' => ∃ g cap', e = .returned (.tuple #[.slice g NN cap', .agg #[.int .i64 0, .int .i64 0]]) ∧ Has .u8 w' g NN (Mth.jn ls ws NN m) ∧ Below w.heap.size w w')
    (hrd : ∀ a c b d w, Has .i64 w a m ws → Has .u8 w b NN (Mth.jn ls ws NN m) → Calls Try.prog 16 #[HD a m c, .slice b NN d, .int .i64 0] w fun e w' => ∃ g cap', e = .returned (.tuple #[.slice g n cap', .agg #[.int .i64 0, .int .i64 0]]) ∧ Has .u64 w' g n ls ∧ Below w.heap.size w w')
    (hCr : Cr ≠ 0) (hrd2 : ∀ a c b d w, Has .i64 w a m ws → Calls Try.prog 16 #[HD a m c, .slice b len d, .int .i64 t] w fun e w' => e = .returned (.tuple #[.slice none 0 0, .agg #[.int .i64 Cr, .int .i64 Ar]]) ∧ Below w.heap.size w w') :
    Calls Try.prog 6 #[.slice a m c, .slice b len d, .int .i64 t, .slice v n e] w fun e w' => e = .returned (.bool true) ∧ Below w.heap.size w w' := by
  have G1 := hid hs
  have G2 := hid hwr
  have G3 := hid hrd
  have G4 := hid hrd2
  have HW := hid hw
  have HV := hid hv
  have hcr : (Cr != 0) = true := by simpa using hCr
  clear hs hwr hrd2 hw hv hrd hCr
  go_enter Try.func6, Try.ntmps6
  go_wp2_with fail
  refine (pack_begun _).mono ?_
  rintro e w1 ⟨rfl, hb1⟩
  have B1 := bl_alloc (o := H0 a m c) hb1
  have hH1 : (w1.alloc (H0 a m c)).cell? ⟨w1.heap.size, 0, none⟩ = some (.slice a m c) := by simp
  have W1 := hid (HW.out.step B1)
  have V1 := hid (HV.out.step B1)
  have K1 := hid hH1
  clear hb1 hH1
  go_wp2_with fail
  refine (G1.out _ _ _ W1.out).mono ?_
  rintro e w2 ⟨rfl, b2⟩
  have hH1 := K1.out
  have hs2 : w1.heap.size + 1 ≤ w2.heap.size := by have := b2.size; simpa using this
  have hs2' : w1.heap.size < w2.heap.size := by omega
  have hH2 := (b2.cell (p := ⟨w1.heap.size, 0, none⟩) (by simp)).trans hH1
  clear hH1
  go_wp2_with fail
  refine (G2.out _ _ _ _ _ (W1.out.step b2).alloc (V1.out.step b2).alloc).mono ?_
  rintro e w3 ⟨g3, cp3, rfl, P3, b3⟩
  have S3 := st_two 0 0 b2 b3
  have hs3 : w2.heap.size + 1 ≤ w3.heap.size := by have := b3.size; simpa using this
  have hs3' : w1.heap.size < w3.heap.size := by omega
  have n1 : ¬ w1.heap.size = w3.heap.size := by omega
  have n2 : ¬ w3.heap.size = w1.heap.size := by omega
  have hH3 : w3.cell? ⟨w1.heap.size, 0, none⟩ = some (.slice a m c) := (b3.cell (p := ⟨w1.heap.size, 0, none⟩) (by simp; omega)).trans (((bl_alloc (Below.refl w2.heap.size w2)).cell (p := ⟨w1.heap.size, 0, none⟩) hs2').trans hH2)
  have hH1 := K1.out
  clear hH2 b2 b3 G1 G2 hs2 hs2' hs3
  go_wp2_with fail
  refine (G3.out _ _ _ _ _ (W1.out.step S3.bel) P3.alloc).mono ?_
  rintro e w4 ⟨g4, cp4, rfl, P4, b4⟩
  have S4 := S3.step b4
  have d0 := S4.d0
  have d1 := S4.d1
  have q0 := S4.q0
  have q1 := S4.q1
  have hH := (S4.bel.cell (p := ⟨w1.heap.size, 0, none⟩) (by simp)).trans hH1
  have hs4 : w3.heap.size < w4.heap.size := S4.lg
  have hs4' : w1.heap.size < w4.heap.size := by omega
  have hNN : ((NN : Int) != (NN : Int)) = false := by simp
  have X4 := hid (P4.alloc (o := F0))
  have BX := bl_alloc (o := F0) S4.bel
  have hq := bl_alloc (o := F0) (Below.refl w4.heap.size w4)
  have Y4 := hid (V1.out.step BX)
  have m2 : n ≤ 1000 := by omega
  have S4' := S4.step hq
  clear G3 P3 P4 b4 S3 hH3 hs3'
  go_wp2_with fail
  refine (same_nums _ _ m2 X4.out Y4.out).mono ?_
  rintro e w5 ⟨rfl, s5, rfl⟩
  have S5 := S4'.drewN s5
  clear X4 Y4 BX hq
  go_wp2_with fail
  refine (G4.out _ _ _ _ _ (W1.out.step S5.bel)).mono ?_
  rintro e w6 ⟨rfl, b6⟩
  have S6 := S5.step b6
  clear d0 d1 q0 q1 hH S4 S4' S5 hs4 hs4' b6 G4
  have d0 := S6.d0
  have d1 := S6.d1
  have q0 := S6.q0
  have q1 := S6.q1
  have hH := (S6.bel.cell (p := ⟨w1.heap.size, 0, none⟩) (by simp)).trans hH1
  have S6' := S6.putG Cr Ar
  have BB' := bl_step B1 S6'.bel
  clear S6'
  go_wp2
  go_ret
  exact ⟨rfl, BB'⟩

set_option maxRecDepth 20000 in
set_option maxHeartbeats 4000000 in
theorem pback_xr (a b v : Option Addr) (m c len d n e : Nat) (NN u : Nat) (Cw Aw : Int) (zs ls ws : List Int) (w : World) (h1 : (m : Int) ≤ 100) (h2 : (len : Int) ≤ 1000) (h3 : (n : Int) ≤ 100) (hd : len ≤ d)
    (hw : Has .i64 w a m ws) (hz : Has .u8 w b len zs) (hv : Has .u64 w v n ls) (hs : ∀ a c w, Has .i64 w a m ws → Calls Try.prog 14 #[HD a m c] w fun e w' => e = .returned (.tuple #[.int .i64 NN, .agg #[.int .i64 0, .int .i64 0]]) ∧ Below w.heap.size w w')
    (hCw : Cw ≠ 0) (hwr : ∀ a c b d w, Has .i64 w a m ws → Has .u64 w b n ls → Calls Try.prog 19 #[HD a m c, .slice b n d] w fun e w' => e = .returned (.tuple #[.slice none 0 0, .agg #[.int .i64 Cw, .int .i64 Aw]]) ∧ Below w.heap.size w w')
    (hu : u + NN ≤ len) (h1N : 1 ≤ NN) (hrd2 : ∀ a c b d w, len ≤ d → Has .i64 w a m ws → Has .u8 w b len zs → Calls Try.prog 16 #[HD a m c, .slice b len d, .int .i64 u] w fun e w' => ∃ g cap', e = .returned (.tuple #[.slice g m cap', .agg #[.int .i64 0, .int .i64 0]]) ∧ Has .u64 w' g m (Mth.parts zs (8 * (u : Int)) ws m) ∧ Below w.heap.size w w')
    (hwr2 : ∀ a c b d w, Has .i64 w a m ws → Has .u64 w b m (Mth.parts zs (8 * (u : Int)) ws m) → Calls Try.prog 19 #[HD a m c, .slice b m d] w fun e w' => ∃ g cap', e = .returned (.tuple #[.slice g NN cap', .agg #[.int .i64 0, .int .i64 0]]) ∧ Has .u8 w' g NN ((zs.drop u).take NN) ∧ Below w.heap.size w w') :
    Calls Try.prog 6 #[.slice a m c, .slice b len d, .int .i64 u, .slice v n e] w fun e w' => e = .returned (.bool true) ∧ Below w.heap.size w w' := by
  have G1 := hid hs
  have G2 := hid hwr
  have G4 := hid hrd2
  have G5 := hid hwr2
  have HW := hid hw
  have HV := hid hv
  have HZ := hid hz
  have HD' := hid hd
  obtain ⟨p, o, rfl, hpl, _⟩ := hz.some (by omega)
  have hcw : (Cw == 0) = false := by simpa using hCw
  clear hs hwr hrd2 hw hv hCw hwr2 hz
  go_enter Try.func6, Try.ntmps6
  go_wp2_with fail
  refine (pack_begun _).mono ?_
  rintro e w1 ⟨rfl, hb1⟩
  have B1 := bl_alloc (o := H0 a m c) hb1
  have hH1 : (w1.alloc (H0 a m c)).cell? ⟨w1.heap.size, 0, none⟩ = some (.slice a m c) := by simp
  have W1 := hid (HW.out.step B1)
  have V1 := hid (HV.out.step B1)
  have Z1 := hid (HZ.out.step B1)
  have K1 := hid hH1
  clear hb1 hH1
  go_wp2_with fail
  refine (G1.out _ _ _ W1.out).mono ?_
  rintro e w2 ⟨rfl, b2⟩
  have hH1 := K1.out
  have hs2 : w1.heap.size + 1 ≤ w2.heap.size := by have := b2.size; simpa using this
  have hs2' : w1.heap.size < w2.heap.size := by omega
  have hH2 := (b2.cell (p := ⟨w1.heap.size, 0, none⟩) (by simp)).trans hH1
  clear hH1
  go_wp2_with fail
  refine (G2.out _ _ _ _ _ (W1.out.step b2).alloc (V1.out.step b2).alloc).mono ?_
  rintro e w3 ⟨rfl, b3⟩
  have S3 := st_two Cw Aw b2 b3
  have hs3 : w2.heap.size + 1 ≤ w3.heap.size := by have := b3.size; simpa using this
  have hs3' : w1.heap.size < w3.heap.size := by omega
  have n1 : ¬ w1.heap.size = w3.heap.size := by omega
  have n2 : ¬ w3.heap.size = w1.heap.size := by omega
  have hH3 : w3.cell? ⟨w1.heap.size, 0, none⟩ = some (.slice a m c) := (b3.cell (p := ⟨w1.heap.size, 0, none⟩) (by simp; omega)).trans (((bl_alloc (Below.refl w2.heap.size w2)).cell (p := ⟨w1.heap.size, 0, none⟩) hs2').trans hH2)
  have hH1 := K1.out
  clear hH2 b2 b3 G1 G2 hs2 hs2' hs3
  go_wp2_with fail
  refine (G4.out _ _ _ _ _ HD'.out (W1.out.step S3.bel) (Z1.out.step S3.bel)).mono ?_
  rintro e w6 ⟨g6, cp6, rfl, P6, b6⟩
  have S6 := S3.step b6
  clear S3 b6 G4 hH3 hs3'
  have d0 := S6.d0
  have d1 := S6.d1
  have q0 := S6.q0
  have q1 := S6.q1
  have hH := (S6.bel.cell (p := ⟨w1.heap.size, 0, none⟩) (by simp)).trans hH1
  have S6' := S6.putG 0 0
  have P6' := hid (P6.put2 (by decide) d0 d1 (.int .i64 0) (.int .i64 0))
  clear P6
  go_wp2_with fail
  refine (G5.out _ _ _ _ _ (W1.out.step S6'.bel) P6'.out).mono ?_
  rintro e w7 ⟨g7, cp7, rfl, P7, b7⟩
  have BZ := bl_alloc (o := F0) (bl_step S6'.bel b7)
  have X7 := hid (P7.alloc (o := F0))
  have Z7 := hid (has_cut2 (Z1.out.step BZ) u NN hu (by omega))
  have BB' := bl_step B1 BZ
  obtain ⟨x, hx⟩ : ∃ x, x = u + NN := ⟨_, rfl⟩
  have hwx : (u : Int) + (NN : Int) = (x : Int) := by omega
  have e1 : u ≤ x := by omega
  have e2 : x ≤ d := by omega
  have e3 : x - u = NN := by omega
  have e4 : (x : Int) < 9223372036854775808 := by omega
  have n4 : ¬ d = u := by omega
  clear d0 d1 q0 q1 hH S6 S6' P6' P7 b7 BZ hx G5
  go_wp2_with fail
  refine (same_bytes _ _ X7.out Z7.out).mono ?_
  rintro e w8 ⟨rfl, rfl⟩
  go_wp2
  go_ret
  exact ⟨rfl, BB'⟩

set_option maxRecDepth 20000 in
set_option maxHeartbeats 4000000 in
theorem pback_xs (a b v : Option Addr) (m c len d n e : Nat) (N C0 A0 Cw Aw t Cr Ar : Int) (ls ws : List Int) (w : World) (h1 : (m : Int) ≤ 100) (h2 : (len : Int) ≤ 1000) (h3 : (n : Int) ≤ 100)
    (hw : Has .i64 w a m ws) (hv : Has .u64 w v n ls) (hs : ∀ a c w, Has .i64 w a m ws → Calls Try.prog 14 #[HD a m c] w fun e w' => e = .returned (.tuple #[.int .i64 N, .agg #[.int .i64 C0, .int .i64 A0]]) ∧ Below w.heap.size w w')
    (hCw : Cw ≠ 0) (hwr : ∀ a c b d w, Has .i64 w a m ws → Has .u64 w b n ls → Calls Try.prog 19 #[HD a m c, .slice b n d] w fun e w' => e = .returned (.tuple #[.slice none 0 0, .agg #[.int .i64 Cw, .int .i64 Aw]]) ∧ Below w.heap.size w w')
    (hCr : Cr ≠ 0) (hrd2 : ∀ a c b d w, Has .i64 w a m ws → Calls Try.prog 16 #[HD a m c, .slice b len d, .int .i64 t] w fun e w' => e = .returned (.tuple #[.slice none 0 0, .agg #[.int .i64 Cr, .int .i64 Ar]]) ∧ Below w.heap.size w w') :
    Calls Try.prog 6 #[.slice a m c, .slice b len d, .int .i64 t, .slice v n e] w fun e w' => e = .returned (.bool true) ∧ Below w.heap.size w w' := by
  have G1 := hid hs
  have G2 := hid hwr
  have G4 := hid hrd2
  have HW := hid hw
  have HV := hid hv
  have hcw : (Cw == 0) = false := by simpa using hCw
  have hcr : (Cr != 0) = true := by simpa using hCr
  clear hs hwr hrd2 hw hv hCw hCr
  go_enter Try.func6, Try.ntmps6
  go_wp2_with fail
  refine (pack_begun _).mono ?_
  rintro e w1 ⟨rfl, hb1⟩
  have B1 := bl_alloc (o := H0 a m c) hb1
  have hH1 : (w1.alloc (H0 a m c)).cell? ⟨w1.heap.size, 0, none⟩ = some (.slice a m c) := by simp
  have W1 := hid (HW.out.step B1)
  have V1 := hid (HV.out.step B1)
  have K1 := hid hH1
  clear hb1 hH1
  go_wp2_with fail
  refine (G1.out _ _ _ W1.out).mono ?_
  rintro e w2 ⟨rfl, b2⟩
  have hH1 := K1.out
  have hs2 : w1.heap.size + 1 ≤ w2.heap.size := by have := b2.size; simpa using this
  have hs2' : w1.heap.size < w2.heap.size := by omega
  have hH2 := (b2.cell (p := ⟨w1.heap.size, 0, none⟩) (by simp)).trans hH1
  clear hH1
  go_wp2_with fail
  refine (G2.out _ _ _ _ _ (W1.out.step b2).alloc (V1.out.step b2).alloc).mono ?_
  rintro e w3 ⟨rfl, b3⟩
  have S3 := st_two Cw Aw b2 b3
  have hs3 : w2.heap.size + 1 ≤ w3.heap.size := by have := b3.size; simpa using this
  have hs3' : w1.heap.size < w3.heap.size := by omega
  have n1 : ¬ w1.heap.size = w3.heap.size := by omega
  have n2 : ¬ w3.heap.size = w1.heap.size := by omega
  have hH3 : w3.cell? ⟨w1.heap.size, 0, none⟩ = some (.slice a m c) := (b3.cell (p := ⟨w1.heap.size, 0, none⟩) (by simp; omega)).trans (((bl_alloc (Below.refl w2.heap.size w2)).cell (p := ⟨w1.heap.size, 0, none⟩) hs2').trans hH2)
  have hH1 := K1.out
  clear hH2 b2 b3 G1 G2 hs2 hs2' hs3
  go_wp2_with fail
  refine (G4.out _ _ _ _ _ (W1.out.step S3.bel)).mono ?_
  rintro e w6 ⟨rfl, b6⟩
  have S6 := S3.step b6
  clear S3 b6 G4 hH3 hs3'
  have d0 := S6.d0
  have d1 := S6.d1
  have q0 := S6.q0
  have q1 := S6.q1
  have hH := (S6.bel.cell (p := ⟨w1.heap.size, 0, none⟩) (by simp)).trans hH1
  have S6' := S6.putG Cr Ar
  have BB' := bl_step B1 S6'.bel
  clear S6'
  go_wp2
  go_ret
  exact ⟨rfl, BB'⟩

theorem pback_short (a b v : Option Addr) (m c len d n e : Nat) (t : Int) (zs ls ws : List Int) (w : World) (h1 : (m : Int) ≤ 100) (h2 : (len : Int) ≤ 1000) (h3 : (n : Int) ≤ 100) (hd : len ≤ d)
    (hw : Has .i64 w a m ws) (hz : Has .u8 w b len zs) (hv : Has .u64 w v n ls) :
    Calls Try.prog 6 #[.slice a m c, .slice b len d, .int .i64 t, .slice v n e] w fun e w' => e = .returned (.bool true) ∧ Below w.heap.size w w' := by
  rcases write_both n m ls ws with ⟨hh, rfl, hf, hwr, _⟩ | ⟨Cw, Aw, hCw, hwr, _⟩
  · obtain ⟨s1, _⟩ := size_good hh
    have hN : Mth.off ws n = 8 * (Mth.off ws n / 8) := by have := hh.2.2.2.1; omega
    have hrd := there hh hN hv.1 hv.nums hf s1
    rcases read_both len n t zs ws (by omega) with ⟨_, ⟨u, rfl, hu⟩, hrd2, _⟩ | ⟨Cr, Ar, hCr, hrd2, _⟩
    · exact pback_wr a b v n c len d n e _ u zs ls ws w h1 h2 h3 hd hw hz hv s1 hwr hrd hu (head_pos hh hN).1 hrd2 (again hh hN hz.bytes hz.1 hu s1)
    · exact pback_ws a b v n c len d n e _ t Cr Ar ls ws w h1 h2 h3 hw hv s1 hwr hrd hCr hrd2
  · rcases read_both len m t zs ws (by omega) with ⟨hh, ⟨u, rfl, hu⟩, hrd2, _⟩ | ⟨Cr, Ar, hCr, hrd2, _⟩
    · obtain ⟨s1, _⟩ := size_good hh
      have hN : Mth.off ws m = 8 * (Mth.off ws m / 8) := by have := hh.2.2.2.1; omega
      exact pback_xr a b v m c len d n e _ u Cw Aw zs ls ws w h1 h2 h3 hd hw hz hv s1 hCw hwr hu (head_pos hh hN).1 hrd2 (again hh hN hz.bytes hz.1 hu s1)
    · obtain ⟨N, C0, A0, s1, _⟩ := size_one m ws
      exact pback_xs a b v m c len d n e N C0 A0 Cw Aw t Cr Ar ls ws w h1 h2 h3 hw hv s1 hCw hwr hCr hrd2
end Go.Proofs.Ytehejhpgehlifab
