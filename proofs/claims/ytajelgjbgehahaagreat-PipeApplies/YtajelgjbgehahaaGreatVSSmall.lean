/- What the small functions of the store do. -/
import Derived.Test.YtajelgjbgehahaaGreatJ1
import Derived.Lib.BitFns
namespace Go.Proofs.YtajelgjbgehahaaGreat
open Go.RowKit Mth

/-- how many bits a number needs -/
def blen (x : Int) : Int := (Lib.bitLen x.toNat : Int)

theorem blen8 {x : Int} (h : 256 ≤ x) (h1 : x < 18446744073709551616) : blen x = 8 + blen (x / 256) := by
  unfold blen
  rw [Lib.bitLen_shift8 x.toNat (by omega) (by omega), show (x / 256).toNat = x.toNat / 256 by omega]
  omega

theorem blen16 {x : Int} (h : 65536 ≤ x) (h1 : x < 18446744073709551616) : blen x = 16 + blen (x / 65536) := by
  unfold blen
  rw [Lib.bitLen_shift16 x.toNat (by omega) (by omega), show (x / 65536).toNat = x.toNat / 65536 by omega]
  omega

theorem blen32 {x : Int} (h : 4294967296 ≤ x) (h1 : x < 18446744073709551616) : blen x = 32 + blen (x / 4294967296) := by
  unfold blen
  rw [Lib.bitLen_shift32 x.toNat (by omega) (by omega), show (x / 4294967296).toNat = x.toNat / 4294967296 by omega]
  omega

theorem blen_byte {y : Int} (h0 : 0 ≤ y) (h1 : y ≤ 255) : Lib.len8 y = blen y ∧ 0 ≤ blen y ∧ blen y ≤ 8 :=
  ⟨Lib.len8_of y h0 h1, by unfold blen; omega, by have := Lib.bitLen_le8' y h0 h1; unfold blen; omega⟩

set_option maxHeartbeats 2000000 in
set_option maxRecDepth 20000 in
theorem len64_any (x : Int) (w : World) (h0 : 0 ≤ x) (h1 : x < 18446744073709551616) : Calls Tryz.prog 111 #[.int .u64 x] w fun e w' => e = .returned (.int .i64 (blen x)) ∧ w' = w := by
  generalize hz : blen x = z
  have HZ := hid hz
  clear hz
  by_cases a : 4294967296 ≤ x
  · by_cases b : 65536 ≤ x / 4294967296
    · by_cases c : 256 ≤ x / 4294967296 / 65536
      · have y0 : 0 ≤ x / 4294967296 / 65536 / 256 := by omega
        have y1 : x / 4294967296 / 65536 / 256 ≤ 255 := by omega
        have HY := hid (blen_byte y0 y1)
        go_enter Tryz.func111, Tryz.ntmps111
        go_wp2
        go_ret
        refine ⟨congrArg Ending.returned (congrArg (Value.int IntKind.i64) ?_), rfl⟩
        have hz := HZ.out
        have hy := HY.out
        rw [blen32 a (by omega), blen16 b (by omega), blen8 c (by omega)] at hz
        rw [hy.1]
        unfold wrap64
        omega
      · have y0 : 0 ≤ x / 4294967296 / 65536 := by omega
        have y1 : x / 4294967296 / 65536 ≤ 255 := by omega
        have HY := hid (blen_byte y0 y1)
        go_enter Tryz.func111, Tryz.ntmps111
        go_wp2
        go_ret
        refine ⟨congrArg Ending.returned (congrArg (Value.int IntKind.i64) ?_), rfl⟩
        have hz := HZ.out
        have hy := HY.out
        rw [blen32 a (by omega), blen16 b (by omega)] at hz
        rw [hy.1]
        unfold wrap64
        omega
    · by_cases c : 256 ≤ x / 4294967296
      · have y0 : 0 ≤ x / 4294967296 / 256 := by omega
        have y1 : x / 4294967296 / 256 ≤ 255 := by omega
        have HY := hid (blen_byte y0 y1)
        go_enter Tryz.func111, Tryz.ntmps111
        go_wp2
        go_ret
        refine ⟨congrArg Ending.returned (congrArg (Value.int IntKind.i64) ?_), rfl⟩
        have hz := HZ.out
        have hy := HY.out
        rw [blen32 a (by omega), blen8 c (by omega)] at hz
        rw [hy.1]
        unfold wrap64
        omega
      · have y0 : 0 ≤ x / 4294967296 := by omega
        have y1 : x / 4294967296 ≤ 255 := by omega
        have HY := hid (blen_byte y0 y1)
        go_enter Tryz.func111, Tryz.ntmps111
        go_wp2
        go_ret
        refine ⟨congrArg Ending.returned (congrArg (Value.int IntKind.i64) ?_), rfl⟩
        have hz := HZ.out
        have hy := HY.out
        rw [blen32 a (by omega)] at hz
        rw [hy.1]
        unfold wrap64
        omega
  · by_cases b : 65536 ≤ x
    · by_cases c : 256 ≤ x / 65536
      · have y0 : 0 ≤ x / 65536 / 256 := by omega
        have y1 : x / 65536 / 256 ≤ 255 := by omega
        have HY := hid (blen_byte y0 y1)
        go_enter Tryz.func111, Tryz.ntmps111
        go_wp2
        go_ret
        refine ⟨congrArg Ending.returned (congrArg (Value.int IntKind.i64) ?_), rfl⟩
        have hz := HZ.out
        have hy := HY.out
        rw [blen16 b (by omega), blen8 c (by omega)] at hz
        rw [hy.1]
        unfold wrap64
        omega
      · have y0 : 0 ≤ x / 65536 := by omega
        have y1 : x / 65536 ≤ 255 := by omega
        have HY := hid (blen_byte y0 y1)
        go_enter Tryz.func111, Tryz.ntmps111
        go_wp2
        go_ret
        refine ⟨congrArg Ending.returned (congrArg (Value.int IntKind.i64) ?_), rfl⟩
        have hz := HZ.out
        have hy := HY.out
        rw [blen16 b (by omega)] at hz
        rw [hy.1]
        unfold wrap64
        omega
    · by_cases c : 256 ≤ x
      · have y0 : 0 ≤ x / 256 := by omega
        have y1 : x / 256 ≤ 255 := by omega
        have HY := hid (blen_byte y0 y1)
        go_enter Tryz.func111, Tryz.ntmps111
        go_wp2
        go_ret
        refine ⟨congrArg Ending.returned (congrArg (Value.int IntKind.i64) ?_), rfl⟩
        have hz := HZ.out
        have hy := HY.out
        rw [blen8 c (by omega)] at hz
        rw [hy.1]
        unfold wrap64
        omega
      · have y0 : 0 ≤ x := by omega
        have y1 : x ≤ 255 := by omega
        have HY := hid (blen_byte y0 y1)
        go_enter Tryz.func111, Tryz.ntmps111
        go_wp2
        go_ret
        refine ⟨congrArg Ending.returned (congrArg (Value.int IntKind.i64) ?_), rfl⟩
        have hz := HZ.out
        have hy := HY.out
        rw [hy.1]
        unfold wrap64
        omega
end Go.Proofs.YtajelgjbgehahaaGreat
