/- SumDoes answers true. -/
import Derived.Test.YtpaaepmleepngaaSumRef
import Derived.Test.YtpaaepmleepngaaSame
namespace Go.Proofs.Ytpaaepmleepngaa
open Go.RowKit

set_option maxHeartbeats 400000 in
theorem sdoes_long (a b c : Int) (l : Option Addr) (len cap : Nat) (w : World) (h : (5000 : Int) < (len : Int)) :
    Calls Try.prog 7 #[.int .i64 a, .int .i64 b, .int .i64 c, .slice l len cap] w fun e w' => e = .returned (.bool true) ∧ Below w.heap.size w w' := by
  go_enter Try.func7, Try.ntmps7
  go_wp2_with fail
  refine (sum_begun _).mono ?_
  rintro e w1 ⟨rfl, hb1⟩
  go_wp2
  go_ret
  exact ⟨rfl, hb1⟩

set_option maxHeartbeats 1000000 in
theorem sdoes_short (a b c : Int) (l : Option Addr) (len cap : Nat) (zs : List Int) (w : World) (h : (len : Int) ≤ 5000) (hn : l = none → len = 0 ∧ cap = 0) (hz : Has .u8 w l len zs) :
    Calls Try.prog 7 #[.int .i64 a, .int .i64 b, .int .i64 c, .slice l len cap] w fun e w' => e = .returned (.bool true) ∧ Below w.heap.size w w' := by
  have HN := hid hn
  have HZ := hid hz
  clear hn hz
  have hr := Mth.whole_range zs
  have e1 : Mth.less (Mth.whole zs) = 65535 - Mth.whole zs := by unfold Mth.less; omega
  go_enter Try.func7, Try.ntmps7
  go_wp2_with fail
  refine (sum_begun _).mono ?_
  rintro e w1 ⟨rfl, hb1⟩
  have HZ1 := hid (HZ.out.step hb1)
  go_wp2_with (at_builtin; refine copy_law rfl _ _ rfl rfl _ _ _ zs rfl HN.out ?c1 ?c2 ?_)
  case c1 => exact HZ1.out
  case c2 => omega
  intro v2 w2 hown2 hb2
  obtain ⟨a2, cp2, rfl, hz2⟩ := has_of_owns8 hown2 HZ.out.bytes
  have HZ2 := hid hz2
  have HZ3 := hid (HZ1.out.step hb2)
  clear hown2 hz2
  go_wp2_with fail
  refine (rwhole_any _ _ _ zs _ (by omega) HZ3.out).mono ?_
  rintro e w' ⟨rfl, rfl⟩
  go_wp2_with fail
  refine (add_any _ _ _).mono ?_
  rintro e w' ⟨rfl, rfl⟩
  go_wp2_with fail
  refine (addWords_any _ _ _).mono ?_
  rintro e w' ⟨rfl, rfl⟩
  go_wp2_with fail
  refine (whole_any _ _ _ zs _ (by omega) HZ2.out).mono ?_
  rintro e w' ⟨rfl, rfl⟩
  go_wp2_with fail
  refine (of_any _ _ _ zs _ (by omega) HZ2.out).mono ?_
  rintro e w' ⟨rfl, rfl⟩
  go_wp2_with fail
  refine (right_any _ _ _ zs _ (by omega) HZ2.out).mono ?_
  rintro e w' ⟨rfl, rfl⟩
  go_wp2_with fail
  refine (turn_any _ _ _ _).mono ?_
  rintro e w' ⟨rfl, rfl⟩
  go_wp2_with fail
  refine (rturn_any _ _ _ _).mono ?_
  rintro e w' ⟨rfl, rfl⟩
  go_wp2_with fail
  refine (same_bytes _ _ HZ2.out HZ3.out).mono ?_
  rintro e w' ⟨rfl, rfl⟩
  go_wp2
  go_ret
  exact ⟨rfl, bl_step hb1 hb2⟩
end Go.Proofs.Ytpaaepmleepngaa
