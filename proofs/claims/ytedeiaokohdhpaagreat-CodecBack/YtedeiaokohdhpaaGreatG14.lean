/- Texts of one chain, joined: ZCrc, ZSum. -/
import Derived.Test.YtedeiaokohdhpaaGreatG0
import Derived.Laws.BitsAllLaws
namespace Go.Proofs.YtedeiaokohdhpaaGreat.Mth
def cst (r : Nat) : Nat := (r / 2) ^^^ (r % 2 * 3988292384)
theorem cst_lt {r : Nat} (h : r < 4294967296) : cst r < 4294967296 := by
  unfold cst
  exact Nat.xor_lt_two_pow (n := 32) (by omega) (by have : r % 2 < 2 := Nat.mod_lt _ (by decide); rcases (show r % 2 = 0 ∨ r % 2 = 1 by omega) with e | e <;> rw [e] <;> decide)
def cstN : Nat → Nat → Nat
  | 0, r => r
  | n + 1, r => cst (cstN n r)
theorem cstN_lt (n : Nat) {r : Nat} (h : r < 4294967296) : cstN n r < 4294967296 := by
  induction n with
  | zero => exact h
  | succ n ih => exact cst_lt ih
def crcB (r : Nat) (x : Nat) : Nat := cstN 8 (r ^^^ x)
theorem xor_lt32 {r x : Nat} (hr : r < 4294967296) (hx : x < 256) : r ^^^ x < 4294967296 := Nat.xor_lt_two_pow (n := 32) (by omega) (by omega)
theorem crcB_lt {r x : Nat} (hr : r < 4294967296) (hx : x < 256) : crcB r x < 4294967296 := cstN_lt 8 (xor_lt32 hr hx)
def crcF (r : Nat) (l : List Int) : Nat := l.foldl (fun r x => crcB r x.toNat) r
def Byt (l : List Int) : Prop := ∀ x ∈ l, 0 ≤ x ∧ x < 256
theorem crcF_lt {l : List Int} (hl : Byt l) {r : Nat} (hr : r < 4294967296) : crcF r l < 4294967296 := by
  induction l generalizing r with
  | nil => exact hr
  | cons x l ih => exact ih (fun y hy => hl y (List.mem_cons_of_mem _ hy)) (crcB_lt hr (by have := hl x List.mem_cons_self; omega))
def crc (l : List Int) : Nat := 4294967295 - crcF 4294967295 l
theorem crc_lt (l : List Int) : crc l < 4294967296 := by unfold crc; omega
def four (s : Nat) : List Int := [((s % 256 : Nat) : Int), ((s / 256 % 256 : Nat) : Int), ((s / 65536 % 256 : Nat) : Int), ((s / 16777216 % 256 : Nat) : Int)]
end Go.Proofs.YtedeiaokohdhpaaGreat.Mth

namespace Go.Proofs.YtedeiaokohdhpaaGreat
open Go.RowKit
theorem byt_of {w : World} {a : Option Addr} {n : Nat} {zs : List Int} (h : Has .u8 w a n zs) : Mth.Byt zs := fun x hx => by
  have := bounds_u8 (h.2.1 x hx)
  omega
theorem xor32 (s : Nat) (x : Int) (hs : s < 4294967296) (h0 : 0 ≤ x) (h1 : x < 256) : bits .xor .u32 (s : Int) x = ((s ^^^ x.toNat : Nat) : Int) := by
  have := u32_xor (s : Int) x (by omega) (by omega) h0 (by omega)
  simpa using this
theorem ones_xor (s : Nat) (hs : s < 4294967296) : 4294967295 ^^^ s = 4294967295 - s := by
  have e : 4294967295 - s = 2 ^ 32 - (s + 1) := by omega
  rw [e, show (4294967295 : Nat) = 2 ^ 32 - 1 from rfl]
  apply Nat.eq_of_testBit_eq
  intro i
  rw [Nat.testBit_xor, Nat.testBit_two_pow_sub_one, Nat.testBit_two_pow_sub_succ (by omega)]
  by_cases h : i < 32
  · simp [h]
  · have : s.testBit i = false := Nat.testBit_lt_two_pow (Nat.lt_of_lt_of_le hs (show 2 ^ 32 ≤ 2 ^ i from Nat.pow_le_pow_right (by decide) (by omega)))
    simp [h, this]
theorem not32 (s : Nat) (hs : s < 4294967296) : bits .xor .u32 IntKind.u32.max (s : Int) = ((4294967295 - s : Nat) : Int) := by
  have := u32_xor IntKind.u32.max (s : Int) (by decide) (by decide) (by omega) (by omega)
  rw [this, show IntKind.u32.max.toNat = 4294967295 from rfl, Int.toNat_natCast, ones_xor s hs]
theorem odd32 (r : Nat) (hr : r < 4294967296) : bits .and .u32 (r : Int) 1 = ((r % 2 : Nat) : Int) := by
  have := u32_and (r : Int) 1 (by omega) (by omega) (by decide) (by decide)
  rw [this, Int.toNat_natCast]
  show ((r &&& 1 : Nat) : Int) = _
  rw [Nat.and_one_is_mod]
theorem step32 (r : Nat) (hr : r < 4294967296) : bits .xor .u32 ((r : Int) / 2) ((r : Int) % 2 * 3988292384) = ((Mth.cst r : Nat) : Int) := by
  rw [show (r : Int) / 2 = ((r / 2 : Nat) : Int) by omega, show (r : Int) % 2 * 3988292384 = ((r % 2 * 3988292384 : Nat) : Int) by omega]
  have h2 : r % 2 * 3988292384 < 4294967296 := by
    have : r % 2 < 2 := Nat.mod_lt _ (by decide)
    omega
  have := u32_xor ((r / 2 : Nat) : Int) ((r % 2 * 3988292384 : Nat) : Int) (by omega) (by omega) (by omega) (by omega)
  rw [this, Int.toNat_natCast, Int.toNat_natCast]
  rfl
set_option maxHeartbeats 2000000 in
set_option maxRecDepth 20000 in
theorem sum_any (a : Option Addr) (n c : Nat) (zs : List Int) (w : World) (hn : n ≤ 10000000) (hz : Has .u8 w a n zs) :
    Calls Tryz.prog 14 #[.slice a n c] w fun e w' => e = .returned (.int .u32 (Mth.crc zs)) ∧ w' = w := by
  have HZ := hid hz
  have HBY := hid (byt_of hz)
  have HLN := hid hz.1
  clear hz
  go_enter Tryz.func14, Tryz.ntmps14
  go_wp2
  go_loop [9, 3, 5, 6, 17] (fun q s _ _ _ => ∃ k : Nat, k ≤ n ∧ q = .int .i64 k ∧ s = .int .u32 (Mth.crcF 4294967295 (zs.take k))) (fun q _ _ _ _ => n - (intOf q).toNat)
  case atStart => exact ⟨0, Nat.zero_le _, rfl, rfl⟩
  case round =>
    obtain ⟨k, hk, rfl, rfl⟩ := hrel
    have hS : Mth.crcF 4294967295 (zs.take k) < 4294967296 := Mth.crcF_lt (fun x hx => HBY.out x (List.mem_of_mem_take hx)) (by decide)
    by_cases hlt : k < n
    · have hki : (k : Int) < (n : Int) := by omega
      obtain ⟨b, off, rfl, _, hc⟩ := HZ.out.some (by omega)
      have hx := hc k hlt
      have hb := HBY.out (zs.getD k 0) (by rw [List.getD_eq_getElem?_getD, List.getElem?_eq_getElem (by rw [HLN.out]; exact hlt)]; exact List.getElem_mem _)
      have HNX : Hid (Mth.crcF 4294967295 (zs.take (k + 1)) = Mth.cstN 8 (Mth.crcF 4294967295 (zs.take k) ^^^ (zs.getD k 0).toNat)) := by
        show _ = _
        rw [List.take_add_one, List.getElem?_eq_getElem (show k < zs.length by rw [HLN.out]; exact hlt)]
        simp only [Mth.crcF, List.foldl_append, Option.toList_some, List.foldl_cons, List.foldl_nil, Mth.crcB]
        rw [List.getD_eq_getElem?_getD, List.getElem?_eq_getElem (show k < zs.length by rw [HLN.out]; exact hlt), Option.getD_some]
      generalize Mth.crcF 4294967295 (zs.take k) = S at *
      simp only [List.getD_eq_getElem?_getD] at hx hb HNX
      generalize zs[k]?.getD 0 = x at *
      have hxor := xor32 S x hS hb.1 hb.2
      have hT : S ^^^ x.toNat < 4294967296 := Mth.xor_lt32 hS (by omega)
      generalize S ^^^ x.toNat = T at *
      clear hc
      go_wp2
      go_loop [17, 3, 6] (fun q s _ => ∃ j : Nat, j ≤ 8 ∧ q = .int .i64 j ∧ s = .int .u32 (Mth.cstN j T)) (fun q _ _ => 8 - (intOf q).toNat)
      case atStart => exact ⟨0, Nat.zero_le _, rfl, rfl⟩
      case round =>
        obtain ⟨j, hj, rfl, rfl⟩ := hrel
        by_cases hlj : j < 8
        · have hji : (j : Int) < 8 := by omega
          have hR := Mth.cstN_lt j hT
          have HNJ : Hid (Mth.cstN (j + 1) T = Mth.cst (Mth.cstN j T)) := rfl
          generalize Mth.cstN j T = r at *
          have ho := odd32 r hR
          have hs := step32 r hR
          generalize Mth.cst r = r2 at *
          go_wp2
          go_round
          case rel => exact ⟨j + 1, by omega, by go_num, by rw [HNJ.out]⟩
          case measure => simp [intOf]; omega
        · have ej : j = 8 := by omega
          subst ej
          go_wp2
          go_round
          case rel => exact ⟨k + 1, by omega, by go_num, by rw [HNX.out]⟩
          case measure => simp [intOf]; omega
    · have ek : k = n := by omega
      subst ek
      have HE : Hid (Mth.crcF 4294967295 (zs.take k) = Mth.crcF 4294967295 zs) := by show _ = _; rw [List.take_of_length_le (by rw [HLN.out]; exact Nat.le_refl _)]
      have hno := not32 _ hS
      generalize Mth.crcF 4294967295 (zs.take k) = S at *
      go_wp2
      go_ret
      exact ⟨ret_int (by rw [HE.out]; rfl), rfl⟩
end Go.Proofs.YtedeiaokohdhpaaGreat
