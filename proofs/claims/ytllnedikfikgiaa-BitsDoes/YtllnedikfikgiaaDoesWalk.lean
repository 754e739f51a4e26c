/- BitsDoes answers true. -/
import Derived.Test.YtllnedikfikgiaaBoth
namespace Go.Proofs.Ytllnedikfikgiaa
open Go.RowKit

set_option maxHeartbeats 400000 in
theorem does_long (a l p : Option Addr) (len cap n c m d : Nat) (t k v : Int) (w : World) (h : (500 : Int) < (len : Int) ∨ (100 : Int) < (n : Int) ∨ (100 : Int) < (m : Int)) :
    Calls Try.prog 3 #[.slice a len cap, .int .i64 t, .int .i64 k, .int .u64 v, .slice l n c, .slice p m d] w fun e w' => e = .returned (.bool true) ∧ Below w.heap.size w w' := by
  by_cases h1 : (500 : Int) < (len : Int)
  · go_enter Try.func3, Try.ntmps3
    go_wp2_with fail
    refine (begun _).mono ?_
    rintro e w1 ⟨rfl, hb1⟩
    go_wp2
    go_ret
    exact ⟨rfl, hb1⟩
  · by_cases h2 : (100 : Int) < (n : Int)
    · go_enter Try.func3, Try.ntmps3
      go_wp2_with fail
      refine (begun _).mono ?_
      rintro e w1 ⟨rfl, hb1⟩
      go_wp2
      go_ret
      exact ⟨rfl, hb1⟩
    · have h3 : (100 : Int) < (m : Int) := by omega
      go_enter Try.func3, Try.ntmps3
      go_wp2_with fail
      refine (begun _).mono ?_
      rintro e w1 ⟨rfl, hb1⟩
      go_wp2
      go_ret
      exact ⟨rfl, hb1⟩

theorem hid {p : Prop} (h : p) : Hid p := h

set_option maxHeartbeats 4000000 in
theorem does_short (a l p : Option Addr) (len cap n c m d : Nat) (t k v : Int) (zs ls ws : List Int) (w : World) (h1 : (len : Int) ≤ 500) (h2 : (n : Int) ≤ 100) (h3 : (m : Int) ≤ 100) (hv : 0 ≤ v ∧ v < 18446744073709551616)
    (hn : a = none → len = 0 ∧ cap = 0) (hz : Has .u8 w a len zs) (hl : Has .u64 w l n ls) (hw : Has .i64 w p m ws) :
    Calls Try.prog 3 #[.slice a len cap, .int .i64 t, .int .i64 k, .int .u64 v, .slice l n c, .slice p m d] w fun e w' => e = .returned (.bool true) ∧ Below w.heap.size w w' := by
  obtain ⟨x0, C0, A0, get8, get9⟩ := get_both len zs t k (by omega)
  obtain ⟨L1, y1, C1, A1, put10, put11⟩ := put_both len zs t k v (by omega) hv
  obtain ⟨L2, y2, C2, A2, join12, join13⟩ := join_both n m ls ws (by omega)
  obtain ⟨L3, y3, C3, A3, hL3, part14, part15⟩ := part_both len m t zs ws (by omega) (by omega)
  have G8 := hid get8
  have G9 := hid get9
  have G10 := hid put10
  have G11 := hid put11
  have G12 := hid join12
  have G13 := hid join13
  have G14 := hid part14
  have G15 := hid part15
  clear get8 get9 put10 put11 join12 join13 part14 part15
  have HN : Hid (a = none → len = 0 ∧ cap = 0) := hn
  clear hn
  go_enter Try.func3, Try.ntmps3
  go_wp2_with fail
  refine (begun _).mono ?_
  rintro e w1 ⟨rfl, hb1⟩
  go_wp2_with (at_builtin; refine copy_law rfl _ _ rfl rfl _ _ _ zs rfl HN.out ?c1 ?c2 ?_)
  case c1 => exact hz.step hb1
  case c2 => omega
  intro v2 w2 hown2 hb2
  obtain ⟨a2, cp2, rfl, hz2⟩ := has_of_owns8 hown2 hz.bytes
  have B2 := bl_step hb1 hb2
  clear hown2
  go_wp2_with fail
  refine (G8.out _ _ _ hz2).mono ?_
  rintro e w3 ⟨rfl, hb3⟩
  have B3 := bl_step B2 hb3
  have Z3 := hz2.step hb3
  go_wp2_with fail
  refine (G9.out _ _ _ (hz.step (bl_alloc B3))).mono ?_
  rintro e w4 ⟨rfl, hb4⟩
  have B4 := bl_step (bl_alloc B3) hb4
  have Z4 := Z3.alloc.step hb4
  go_wp2_with fail
  refine (G10.out _ _ _ Z4.alloc).mono ?_
  rintro e w5 ⟨g5, cp5, rfl, P5, hb5⟩
  have B5 := bl_step (bl_alloc B4) hb5
  have Z5 := Z4.alloc.step hb5
  go_wp2_with fail
  refine (G11.out _ _ _ (hz.step (bl_alloc B5))).mono ?_
  rintro e w6 ⟨g6, cp6, rfl, Q6, hb6⟩
  have B6 := bl_step (bl_alloc B5) hb6
  have Z6 := Z5.alloc.step hb6
  have P6 := P5.alloc.step hb6
  go_wp2_with fail
  refine (G12.out _ _ _ _ _ (hl.step (bl_alloc B6)) (hw.step (bl_alloc B6))).mono ?_
  rintro e w7 ⟨g7, cp7, rfl, J7, hb7⟩
  have B7 := bl_step (bl_alloc B6) hb7
  go_wp2_with fail
  refine (G13.out _ _ _ _ _ (hl.step (bl_alloc B7)) (hw.step (bl_alloc B7))).mono ?_
  rintro e w8 ⟨g8, cp8, rfl, K8, hb8⟩
  have B8 := bl_step (bl_alloc B7) hb8
  have Z8 := (Z6.alloc.step hb7).alloc.step hb8
  go_wp2_with fail
  refine (G14.out _ _ _ _ _ Z8.alloc (hw.step (bl_alloc B8))).mono ?_
  rintro e w9 ⟨g9, cp9, rfl, M9, hb9⟩
  have B9 := bl_step (bl_alloc B8) hb9
  go_wp2_with fail
  refine (G15.out _ _ _ _ _ (hz.step (bl_alloc B9)) (hw.step (bl_alloc B9))).mono ?_
  rintro e w10 ⟨g10, cp10, rfl, N10, hb10⟩
  have B10 := bl_step (bl_alloc B9) hb10
  have F3 := later2 (later2 (later2 (later2 (later2 (later2 (fault2 hb4) hb5) hb6) hb7) hb8) hb9) hb10
  have F4 := later2 (later2 (later2 (later2 (later2 (fault2 hb5) hb6) hb7) hb8) hb9) hb10
  have F5 := later2 (later2 (later2 (later2 (fault2 hb6) hb7) hb8) hb9) hb10
  have F6 := later2 (later2 (later2 (fault2 hb7) hb8) hb9) hb10
  have F7 := later2 (later2 (fault2 hb8) hb9) hb10
  have F8 := later2 (fault2 hb9) hb10
  have F9 := fault2 hb10
  have PP := ((((P6.alloc.step hb7).alloc.step hb8).alloc.step hb9).alloc.step hb10).alloc (o := .cells #[.int .i64 C3, .int .i64 A3] 28)
  have QQ := ((((Q6.alloc.step hb7).alloc.step hb8).alloc.step hb9).alloc.step hb10).alloc (o := .cells #[.int .i64 C3, .int .i64 A3] 28)
  have JJ := (((J7.alloc.step hb8).alloc.step hb9).alloc.step hb10).alloc (o := .cells #[.int .i64 C3, .int .i64 A3] 28)
  have KK := ((K8.alloc.step hb9).alloc.step hb10).alloc (o := .cells #[.int .i64 C3, .int .i64 A3] 28)
  have MM := (M9.alloc.step hb10).alloc (o := .cells #[.int .i64 C3, .int .i64 A3] 28)
  have NN := N10.alloc (o := .cells #[.int .i64 C3, .int .i64 A3] 28)
  have ZZ := ((Z8.alloc.step hb9).alloc.step hb10).alloc (o := .cells #[.int .i64 C3, .int .i64 A3] 28)
  have BB' := bl_alloc (o := .cells #[.int .i64 C3, .int .i64 A3] 28) B10
  have YY := hz.step BB'
  clear G8 G9 G10 G11 G12 G13 G14 G15 Z3 Z4 Z5 Z6 Z8 P5 P6 Q6 J7 K8 M9 N10 hz2 B2 B3 B4 B5 B6 B7 B8 B9 B10 hb1 hb2 hb3 hb4 hb5 hb6 hb7 hb8 hb9 hb10 HN hz hl hw
  obtain ⟨f30, f31, s3⟩ := F3
  obtain ⟨f40, f41, s4⟩ := F4
  obtain ⟨f50, f51, s5⟩ := F5
  obtain ⟨f60, f61, s6⟩ := F6
  obtain ⟨f70, f71, s7⟩ := F7
  obtain ⟨f80, f81, s8⟩ := F8
  obtain ⟨f90, f91, s9⟩ := F9
  have hmm : (maskN k != maskN k) = false := by simp
  go_wp2_with fail
  refine (mask_int _ _).mono ?_
  rintro e w11 ⟨rfl, rfl⟩
  go_wp2_with fail
  refine (ones_any _ _).mono ?_
  rintro e w11 ⟨rfl, rfl⟩
  go_wp2_with fail
  refine (same_bytes _ _ PP QQ).mono ?_
  rintro e w11 ⟨rfl, rfl⟩
  go_wp2_with fail
  refine (same_bytes _ _ JJ KK).mono ?_
  rintro e w11 ⟨rfl, rfl⟩
  go_wp2_with fail
  refine (same_nums _ _ hL3 MM NN).mono ?_
  rintro e w11 ⟨rfl, s, rfl⟩
  have ZZ' : Has .u8 ((w10.alloc (.cells #[.int .i64 C3, .int .i64 A3] 28)).drewN s) a2 len zs := ZZ
  have YY' : Has .u8 ((w10.alloc (.cells #[.int .i64 C3, .int .i64 A3] 28)).drewN s) a len zs := YY
  go_wp2_with fail
  refine (same_bytes _ _ ZZ' YY').mono ?_
  rintro e w11 ⟨rfl, rfl⟩
  go_wp2
  go_ret
  exact ⟨rfl, below_drewN BB' s⟩
end Go.Proofs.Ytllnedikfikgiaa
