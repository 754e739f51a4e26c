/- What slices.Clone, bits.wrong, bits.Get and bits.Put do. -/
import Derived.Test.YtehejhpgehlifabWrite
import Derived.Lib.SliceRun
import Derived.OpenShut
namespace Go.Proofs.Ytehejhpgehlifab
open Go.RowKit

def codeOf (len : Nat) (t n : Int) : Int := if n < 1 ∨ 64 < n then 6 else if t < 0 ∨ (len : Int) * 8 - n < t then 1 else 0

theorem wrong_any (a : Option Addr) (len cap : Nat) (t n : Int) (w : World) (hl : len ≤ 100000) :
    Calls Try.prog 46 #[.slice a len cap, .int .i64 t, .int .i64 n] w fun e w' => e = .returned (.int .i64 (codeOf len t n)) ∧ w' = w := by
  unfold codeOf
  split
  · exact wrong_width a len cap t n w ‹_›
  · split
    · exact wrong_range a len cap t n w hl (by omega) (by omega) ‹_›
    · exact wrong_none a len cap t n w hl (by omega) (by omega) (by omega) (by omega)

theorem code_ok {len : Nat} {t n : Int} (h : codeOf len t n = 0) : 1 ≤ n ∧ n ≤ 64 ∧ 0 ≤ t ∧ t + n ≤ 8 * (len : Int) := by
  unfold codeOf at h
  split at h
  · simp at h
  · split at h
    · simp at h
    · omega

set_option maxHeartbeats 1000000 in
theorem get_no (a : Option Addr) (len cap : Nat) (t n : Int) (w : World) (hl : len ≤ 100000) (hcode : codeOf len t n ≠ 0) :
    Calls Try.prog 37 #[.slice a len cap, .int .i64 t, .int .i64 n] w fun e w' => e = .returned (.tuple #[.int .u64 0, .agg #[.int .i64 (codeOf len t n), .int .i64 (-1)]]) ∧ Below w.heap.size w w' := by
  have hc : (codeOf len t n != 0) = true := by simpa using hcode
  clear hcode
  go_enter Try.func37, Try.ntmps37
  go_wp2_with fail
  refine (wrong_any _ _ _ _ _ _ hl).mono ?_
  rintro e w' ⟨rfl, rfl⟩
  go_wp2
  exact bodyPost_ret (v := .tuple #[.int .u64 0, .agg #[.int .i64 (codeOf len t n), .int .i64 (-1)]]) (by simp [results, Try.results37, go_sem]) rfl ⟨rfl, (Below.refl _ _).alloc (Nat.le_refl _) _⟩

set_option maxHeartbeats 1000000 in
theorem get_yes (a : Option Addr) (len cap t n : Nat) (zs : List Int) (w : World) (hl : len ≤ 100000) (hz : Has .u8 w a len zs) (hcode : codeOf len t n = 0) :
    Calls Try.prog 37 #[.slice a len cap, .int .i64 t, .int .i64 n] w fun e w' => e = .returned (.tuple #[.int .u64 (Mth.rd zs t n), .agg #[.int .i64 0, .int .i64 0]]) ∧ Below w.heap.size w w' := by
  have hk := code_ok hcode
  have hc : (codeOf len t n != 0) = false := by simpa using hcode
  obtain ⟨b, off, rfl, hlt, hcell⟩ := hz.some (by omega)
  have hbytes := hz.bytes
  have hlen := hz.1
  have hcell' : ∀ i, i < len → (w.alloc (.cells #[.int .i64 0, .int .i64 0] 36)).cell? ⟨b, off + i, none⟩ = some (.int .u8 (zs.getD i 0)) := fun i hi =>
    (((Below.refl w.heap.size w).alloc (Nat.le_refl _) _).cell (p := ⟨b, off + i, none⟩) hlt).trans (hcell i hi)
  clear hcode hcell hz
  have hread := read_any b off len cap t n zs _ hlen hbytes hl (by omega) (by omega) hcell'
  have HC : Hid (∀ i, i < len → (w.alloc (.cells #[.int .i64 0, .int .i64 0] 36)).cell? ⟨b, off + i, none⟩ = some (.int .u8 (zs.getD i 0))) := hcell'
  have HL : Hid (zs.length = len) := hlen
  clear hcell' hread hlen
  go_enter Try.func37, Try.ntmps37
  go_wp2_with fail
  refine (wrong_any _ _ _ _ _ _ hl).mono ?_
  rintro e w' ⟨rfl, rfl⟩
  go_wp2_with fail
  refine (read_any b off len cap t n zs _ HL.out hbytes hl (by omega) (by omega) HC.out).mono ?_
  rintro e w' ⟨rfl, q, rfl⟩
  go_wp2
  exact bodyPost_ret (v := .tuple #[.int .u64 (Mth.rd zs t n), .agg #[.int .i64 0, .int .i64 0]]) (by simp [results, Try.results37, go_sem]) rfl ⟨rfl, ((below_drewN ((Below.refl _ _).alloc (Nat.le_refl _) _) q).setCell (Nat.le_refl _) _).setCell (Nat.le_refl _) _⟩

end Go.Proofs.Ytehejhpgehlifab
