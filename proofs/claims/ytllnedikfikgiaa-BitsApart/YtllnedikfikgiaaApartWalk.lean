/- BitsApart answers true. -/
import Derived.Test.YtllnedikfikgiaaSame
namespace Go.Proofs.Ytllnedikfikgiaa
open Go.RowKit

namespace Mth
/-- put twice in one place, the later one counts -/
theorem wr_twice (zs : List Int) (t n u v : Nat) (h : Bytes zs) (hk : t + n ≤ 8 * zs.length) : wr (wr zs t n u n) t n v n = wr zs t n v n := by
  apply ext _ _ (wr_bytes _ _ _ _ _ (wr_bytes _ _ _ _ _ h)) (wr_bytes _ _ _ _ _ h) (by simp only [wr_length])
  intro j _
  rw [wr_bit _ _ _ _ _ _ (wr_bytes _ _ _ _ _ h) (by rw [wr_length]; exact hk), wr_bit _ _ _ _ _ _ h hk, wr_bit _ _ _ _ _ _ h hk]
  split <;> rfl

/-- put into bits that have none in common, in any order -/
theorem wr_comm (zs : List Int) (t n s k u v : Nat) (h : Bytes zs) (hn : t + n ≤ 8 * zs.length) (hk : s + k ≤ 8 * zs.length) (hd : s + k ≤ t ∨ t + n ≤ s) :
    wr (wr zs t n u n) s k v k = wr (wr zs s k v k) t n u n := by
  apply ext _ _ (wr_bytes _ _ _ _ _ (wr_bytes _ _ _ _ _ h)) (wr_bytes _ _ _ _ _ (wr_bytes _ _ _ _ _ h)) (by simp only [wr_length])
  intro j _
  rw [wr_bit _ _ _ _ _ _ (wr_bytes _ _ _ _ _ h) (by rw [wr_length]; exact hk), wr_bit _ _ _ _ _ _ h hn, wr_bit _ _ _ _ _ _ (wr_bytes _ _ _ _ _ h) (by rw [wr_length]; exact hn), wr_bit _ _ _ _ _ _ h hk]
  by_cases a : s ≤ j ∧ j < s + k
  · rw [if_pos a, if_neg (by omega), if_pos a]
  · rw [if_neg a, if_neg a]
end Mth

set_option maxHeartbeats 400000 in
theorem apart_long (a : Option Addr) (len cap : Nat) (t n s k u v : Int) (w : World) (hl : (500 : Int) < (len : Int)) :
    Calls Try.prog 6 #[.slice a len cap, .int .i64 t, .int .i64 n, .int .i64 s, .int .i64 k, .int .u64 u, .int .u64 v] w fun e w' => e = .returned (.bool true) ∧ Below w.heap.size w w' := by
  go_enter Try.func6, Try.ntmps6
  go_wp2_with fail
  refine (begun _).mono ?_
  rintro e w1 ⟨rfl, hb1⟩
  go_wp2
  go_ret
  exact ⟨rfl, hb1⟩

set_option maxHeartbeats 1000000 in
theorem apart_no1 (a : Option Addr) (len cap : Nat) (t n s k u v : Int) (zs : List Int) (w : World) (hl : (len : Int) ≤ 500) (hv : 0 ≤ v ∧ v < 18446744073709551616) (hz : Has .u8 w a len zs) (hcode : codeOf len t n ≠ 0) :
    Calls Try.prog 6 #[.slice a len cap, .int .i64 t, .int .i64 n, .int .i64 s, .int .i64 k, .int .u64 u, .int .u64 v] w fun e w' => e = .returned (.bool true) ∧ Below w.heap.size w w' := by
  have hc : (codeOf len t n != 0) = true := by simpa using hcode
  go_enter Try.func6, Try.ntmps6
  go_wp2_with fail
  refine (begun _).mono ?_
  rintro e w1 ⟨rfl, hb1⟩
  go_wp2_with fail
  refine (put_no _ _ _ _ _ _ _ (by omega) hcode).mono ?_
  rintro e w2 ⟨rfl, hb2⟩
  have hb2' := bl_step hb1 hb2
  by_cases h2 : codeOf len s k = 0
  · have H2 : Hid (codeOf len s k = 0) := h2
    clear h2
    go_wp2_with fail
    refine (put_int _ _ _ _ _ _ zs _ (by omega) hv (hz.step (bl_alloc hb2')) H2.out).mono ?_
    rintro e w3 ⟨g, cp, rfl, hz3, hb3⟩
    have hb3' := bl_step (bl_alloc hb2') hb3
    have q0 : w3.cell? ⟨w2.heap.size, 0, none⟩ = some (.int .i64 (codeOf len t n)) := (hb3.cell (p := ⟨w2.heap.size, 0, none⟩) (by simp)).trans (by simp)
    have s3 : w2.heap.size < w3.heap.size := by have := hb3.size; simp at this; omega
    go_wp2
    go_ret
    exact ⟨rfl, bl_alloc hb3'⟩
  · go_wp2_with fail
    refine (put_no _ _ _ _ _ _ _ (by omega) h2).mono ?_
    rintro e w3 ⟨rfl, hb3⟩
    have hb3' := bl_step (bl_alloc hb2') hb3
    have q0 : w3.cell? ⟨w2.heap.size, 0, none⟩ = some (.int .i64 (codeOf len t n)) := (hb3.cell (p := ⟨w2.heap.size, 0, none⟩) (by simp)).trans (by simp)
    have s3 : w2.heap.size < w3.heap.size := by have := hb3.size; simp at this; omega
    go_wp2
    go_ret
    exact ⟨rfl, bl_alloc hb3'⟩

abbrev F0 : Obj := .cells #[.int .i64 0, .int .i64 0] 28

theorem fault0 {w w' : World} {x y : Value} (hb : Below (w.alloc (.cells #[x, y] 28)).heap.size (w.alloc (.cells #[x, y] 28)) w') : w'.cell? ⟨w.heap.size, 0, none⟩ = some x ∧ w.heap.size < w'.heap.size := by
  refine ⟨(hb.cell (p := ⟨w.heap.size, 0, none⟩) (by simp)).trans (by simp), ?_⟩
  have := hb.size
  simp at this
  omega

theorem kept2 {w w' : World} {o : Obj} {p : Addr} {v : Value} (h : w.cell? p = some v) (hb : Below (w.alloc o).heap.size (w.alloc o) w') : w'.cell? p = some v := by
  have hlt := World.block_lt_of_cell? w _ h
  have h1 : (w.alloc o).cell? p = w.cell? p := (bl_alloc (Below.refl w.heap.size w)).cell hlt
  rw [hb.cell (by simp; omega), h1, h]

theorem sz2 {w w' : World} {o : Obj} (hb : Below (w.alloc o).heap.size (w.alloc o) w') : w.heap.size < w'.heap.size := by
  have := hb.size
  simp at this
  omega

set_option maxHeartbeats 1000000 in
theorem apart_no2 (a : Option Addr) (len cap : Nat) (t n s k u v : Int) (zs : List Int) (w : World) (hl : (len : Int) ≤ 500) (hu : 0 ≤ u ∧ u < 18446744073709551616) (hz : Has .u8 w a len zs) (hcode : codeOf len t n = 0) (hcode2 : codeOf len s k ≠ 0) :
    Calls Try.prog 6 #[.slice a len cap, .int .i64 t, .int .i64 n, .int .i64 s, .int .i64 k, .int .u64 u, .int .u64 v] w fun e w' => e = .returned (.bool true) ∧ Below w.heap.size w w' := by
  have hc : (codeOf len s k != 0) = true := by simpa using hcode2
  have H1 : Hid (codeOf len t n = 0) := hcode
  clear hcode
  go_enter Try.func6, Try.ntmps6
  go_wp2_with fail
  refine (begun _).mono ?_
  rintro e w1 ⟨rfl, hb1⟩
  go_wp2_with fail
  refine (put_int _ _ _ _ _ _ zs _ (by omega) hu (hz.step hb1) H1.out).mono ?_
  rintro e w2 ⟨g, cp, rfl, hz2, hb2⟩
  have hb2' := bl_step hb1 hb2
  go_wp2_with fail
  refine (put_no _ _ _ _ _ _ _ (by omega) hcode2).mono ?_
  rintro e w3 ⟨rfl, hb3⟩
  have hb3' := bl_step (bl_alloc hb2') hb3
  obtain ⟨q0, s3⟩ := fault0 hb3
  go_wp2
  go_ret
  exact ⟨rfl, bl_alloc hb3'⟩

set_option maxHeartbeats 2000000 in
theorem apart_yes (a : Option Addr) (len cap : Nat) (t n s k u v : Int) (zs : List Int) (w : World) (hl : (len : Int) ≤ 500) (hu : 0 ≤ u ∧ u < 18446744073709551616) (hv : 0 ≤ v ∧ v < 18446744073709551616)
    (hz : Has .u8 w a len zs) (hcode : codeOf len t n = 0) (hcode2 : codeOf len s k = 0) :
    Calls Try.prog 6 #[.slice a len cap, .int .i64 t, .int .i64 n, .int .i64 s, .int .i64 k, .int .u64 u, .int .u64 v] w fun e w' => e = .returned (.bool true) ∧ Below w.heap.size w w' := by
  have hk1 := code_ok hcode
  have hk2 := code_ok hcode2
  have hbytes := hz.bytes
  have hlen : Hid (zs.length = len) := hz.1
  have H1 : Hid (codeOf len t n = 0) := hcode
  have H2 : Hid (codeOf len s k = 0) := hcode2
  clear hcode hcode2
  go_enter Try.func6, Try.ntmps6
  go_wp2_with fail
  refine (begun _).mono ?_
  rintro e w1 ⟨rfl, hb1⟩
  go_wp2_with fail
  refine (put_int _ _ _ _ _ _ zs _ (by omega) hu (hz.step hb1) H1.out).mono ?_
  rintro e w2 ⟨g2, cp2, rfl, hz2, hb2⟩
  have hb2' := bl_step hb1 hb2
  go_wp2_with fail
  refine (put_int _ _ _ _ _ _ zs _ (by omega) hv (hz.step (bl_alloc hb2')) H2.out).mono ?_
  rintro e w3 ⟨g3, cp3, rfl, hz3, hb3⟩
  have hb3' := bl_step (bl_alloc hb2') hb3
  obtain ⟨q0, s3⟩ := fault0 hb3
  go_wp2_with fail
  refine (put_int _ _ _ _ _ _ _ _ (by omega) hv (hz2.alloc.step hb3).alloc H2.out).mono ?_
  rintro e w4 ⟨g4, cp4, rfl, hz4, hb4⟩
  have hb4' := bl_step (bl_alloc hb3') hb4
  clear q0 s3
  go_wp2_with fail
  refine (put_int _ _ _ _ _ _ _ _ (by omega) hu (hz3.alloc.step hb4).alloc H1.out).mono ?_
  rintro e w5 ⟨g5, cp5, rfl, hz5, hb5⟩
  have hb5' := bl_step (bl_alloc hb4') hb5
  go_wp2_with fail
  refine (put_int _ _ _ _ _ _ _ _ (by omega) hv (((hz2.alloc.step hb3).alloc.step hb4).alloc.step hb5).alloc H1.out).mono ?_
  rintro e w6 ⟨g6, cp6, rfl, hz6, hb6⟩
  have hb6' := bl_step (bl_alloc hb5') hb6
  go_wp2_with fail
  refine (put_int _ _ _ _ _ _ zs _ (by omega) hv (hz.step (bl_alloc hb6')) H1.out).mono ?_
  rintro e w7 ⟨g7, cp7, rfl, hz7, hb7⟩
  have hb7' := bl_step (bl_alloc hb6') hb7
  obtain ⟨q4, s4⟩ := fault0 hb5
  replace q4 := kept2 (kept2 q4 hb6) hb7
  replace s4 := Nat.lt_trans (Nat.lt_trans s4 (sz2 hb6)) (sz2 hb7)
  obtain ⟨q5, s5⟩ := fault0 hb6
  replace q5 := kept2 q5 hb7
  replace s5 := Nat.lt_trans s5 (sz2 hb7)
  obtain ⟨q6, s6⟩ := fault0 hb7
  rw [Mth.wr_twice _ _ _ _ _ hbytes (by rw [hlen.out]; omega)] at hz6
  have y6 := (hz6.alloc.step hb7).alloc (o := F0)
  have y7 := hz7.alloc (o := F0)
  have y4 := (((hz4.alloc.step hb5).alloc.step hb6).alloc.step hb7).alloc (o := F0)
  have y5 := ((hz5.alloc.step hb6).alloc.step hb7).alloc (o := F0)
  clear hz2 hz3 hz4 hz5 hz6 hz7 hb2 hb3 hb4 hb5 hb6 hb7 hb2' hb3' hb4' hb5' hb6'
  go_wp2_with fail
  refine (same_bytes _ _ y6 y7).mono ?_
  rintro e w8 ⟨rfl, rfl⟩
  by_cases c1 : t < s + k
  · by_cases c2 : s < t + n
    · go_wp2
      go_ret
      exact ⟨rfl, bl_alloc hb7'⟩
    · rw [Mth.wr_comm _ _ _ _ _ _ _ hbytes (by rw [hlen.out]; omega) (by rw [hlen.out]; omega) (by omega)] at y4
      go_wp2_with fail
      refine (same_bytes _ _ y4 y5).mono ?_
      rintro e w9 ⟨rfl, rfl⟩
      go_wp2
      go_ret
      exact ⟨rfl, bl_alloc hb7'⟩
  · rw [Mth.wr_comm _ _ _ _ _ _ _ hbytes (by rw [hlen.out]; omega) (by rw [hlen.out]; omega) (by omega)] at y4
    go_wp2_with fail
    refine (same_bytes _ _ y4 y5).mono ?_
    rintro e w9 ⟨rfl, rfl⟩
    go_wp2
    go_ret
    exact ⟨rfl, bl_alloc hb7'⟩
end Go.Proofs.Ytllnedikfikgiaa
