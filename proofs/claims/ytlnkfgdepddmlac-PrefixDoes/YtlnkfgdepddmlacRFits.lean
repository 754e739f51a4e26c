/- What fits of the document's own table by beginnings does. -/
import Derived.Test.YtlnkfgdepddmlacROne
import Derived.Shelf.SlSortCmp.QuietGrown
namespace Go.Proofs.Ytlnkfgdepddmlac
open Go.RowKit Mth

theorem high_num (W n : Nat) (hn : n ≤ W) (hW : W ≤ 64) : IntKind.u64.wrap (((2 ^ W - 1 : Nat) : Int) - ((2 ^ (W - n) - 1 : Nat) : Int)) = ((2 ^ (W - n) * (2 ^ n - 1) : Nat) : Int) := by
  have h1 : 2 ^ W ≤ 2 ^ 64 := Nat.pow_le_pow_right (by decide) hW
  have h2 : 2 ^ (W - n) * 2 ^ n = 2 ^ W := by rw [← Nat.pow_add, show W - n + n = W from by omega]
  have h3 : 1 ≤ 2 ^ n := Nat.one_le_two_pow
  have h4 : 1 ≤ 2 ^ (W - n) := Nat.one_le_two_pow
  have h5 : 2 ^ (W - n) ≤ 2 ^ W := Nat.pow_le_pow_right (by decide) (by omega)
  rw [Nat.mul_sub, h2, IntKind.wrap_u64]
  generalize 2 ^ W = a at *
  generalize 2 ^ (W - n) = b at *
  omega

theorem and_high (W n k : Nat) (hn : n ≤ W) (hW : W ≤ 64) (hk : k < 2 ^ W) : bits BinOp.and IntKind.u64 (k : Int) ((2 ^ (W - n) * (2 ^ n - 1) : Nat) : Int) = ((k / 2 ^ (W - n) * 2 ^ (W - n) : Nat) : Int) := by
  have h1 : 2 ^ W ≤ 2 ^ 64 := Nat.pow_le_pow_right (by decide) hW
  have h2 : 2 ^ (W - n) * 2 ^ n = 2 ^ W := by rw [← Nat.pow_add, show W - n + n = W from by omega]
  have h3 : 1 ≤ 2 ^ n := Nat.one_le_two_pow
  have h6 : 2 ^ (W - n) * (2 ^ n - 1) ≤ 2 ^ W := by rw [← h2]; exact Nat.mul_le_mul_left _ (by omega)
  have h7 : 2 ^ (W - n) * (2 ^ n - 1) < 2 ^ W := by
    rw [Nat.mul_sub, h2]
    have : 1 ≤ 2 ^ (W - n) := Nat.one_le_two_pow
    have : 1 ≤ 2 ^ W := Nat.one_le_two_pow
    omega
  rw [u64_and_nat _ _ (by omega) (by omega)]
  congr 1
  have hd : (k &&& 2 ^ (W - n) * (2 ^ n - 1)) / 2 ^ (W - n) = k / 2 ^ (W - n) := by
    rw [Nat.and_div_two_pow, Nat.mul_div_cancel_left _ (Nat.two_pow_pos _), Nat.and_two_pow_sub_one_eq_mod]
    apply Nat.mod_eq_of_lt
    rw [Nat.div_lt_iff_lt_mul (Nat.two_pow_pos _), Nat.mul_comm, h2]
    exact hk
  have hm : (k &&& 2 ^ (W - n) * (2 ^ n - 1)) % 2 ^ (W - n) = 0 := by
    rw [Nat.and_mod_two_pow, Nat.mul_mod_right, Nat.and_zero]
  have := Nat.div_add_mod (k &&& 2 ^ (W - n) * (2 ^ n - 1)) (2 ^ (W - n))
  rw [hd, hm, Nat.add_zero, Nat.mul_comm] at this
  exact this.symm

/-- the numbers of fits -/
theorem fit_nums (W n v k : Nat) (h1 : 1 ≤ W) (hn : n ≤ W) (hW : W ≤ 64) (hk : k < 2 ^ W) : ∃ o1 o2 hi q kv : Nat, maskN (W : Int) = (o1 : Int) ∧ maskN ((W : Int) - (n : Int)) = (o2 : Int) ∧ IntKind.u64.wrap ((o1 : Int) - (o2 : Int)) = (hi : Int) ∧ bits BinOp.and IntKind.u64 (k : Int) (hi : Int) = (q : Int) ∧ kv = v * 2 ^ (W - n) ∧ ((q : Int) == (kv : Int)) = decide (Had W k (n, v)) := by
  refine ⟨2 ^ W - 1, 2 ^ (W - n) - 1, 2 ^ (W - n) * (2 ^ n - 1), k / 2 ^ (W - n) * 2 ^ (W - n), v * 2 ^ (W - n), mask_all W h1 hW, mask_at W n hn hW, high_num W n hn hW, and_high W n k hn hW hk, rfl, ?_⟩
  by_cases h : Had W k (n, v)
  · rw [had_yes h, decide_eq_true h]
  · rw [had_no h, decide_eq_false h]

/-- a call that only reads, but lays blocks of its own -/
def GrowIs (w w' : World) (b : Bool) (e : Ending) : Prop := e = .returned (.bool b) ∧ ∃ q os, w' = Sort.grow (w.drewN q) os

theorem grow_one (w : World) (o : Obj) (s : Nat) : (w.alloc o).drewN s = Sort.grow (w.drewN s) #[o] := by
  rw [Sort.alloc_eq_grow]; rfl

set_option maxHeartbeats 1000000 in
set_option maxRecDepth 20000 in
theorem fits_any {w : World} {r : Nat} {most : Int} {W n v k : Nat} {ka aa : Option Addr} {kc an ac : Nat} {x : Int} {kb ko kn kcap : Nat} (hd : RHead w r W most) (h1 : 1 ≤ W) (hn : n ≤ W) (hW : W ≤ 64) (hk : k < 2 ^ W) (ha : Has .u64 w ka 1 [((v * 2 ^ (W - n) : Nat) : Int)]) (hkc : w.cell? ⟨kb, ko, none⟩ = some (.int .u64 (k : Int))) (hkn : 1 ≤ kn) :
    Calls Try.prog 46 #[.pointer (some ⟨r, 0, none⟩), EV ka 1 kc none 0 0 (n : Int) 0 x aa an ac, .slice (some ⟨kb, ko, none⟩) kn kcap] w fun e w' => GrowIs w w' (decide (Had W k (n, v))) e := by
  have hb0 := bl_alloc (o := EC ka 1 kc none 0 0 (n : Int) 0 x aa an ac) (Below.refl w.heap.size w)
  have hd0 := hd.step hb0
  have c0 := hd0.c0
  have c2 := hd0.c2
  have hkl : kb < w.heap.size := World.block_lt_of_cell? w _ hkc
  have kk := (hb0.cell (p := ⟨kb, ko, none⟩) hkl).trans hkc
  obtain ⟨g, o, rfl, _, hc⟩ := (ha.step hb0).some (by omega)
  have q1 : (w.alloc (EC (some ⟨g, o, none⟩) 1 kc none 0 0 (n : Int) 0 x aa an ac)).cell? ⟨g, o, none⟩ = some (.int .u64 ((v * 2 ^ (W - n) : Nat) : Int)) := hc 0 (by omega)
  obtain ⟨o1, o2, hi, q, kv, n1, n2, n3, n4, n5, n6⟩ := fit_nums W n v k h1 hn hW hk
  rw [← n5] at q1
  obtain ⟨x0, x1, x2, x3, x4, x5, -, -, -, -, -, -⟩ := six_new w (.slice (some ⟨g, o, none⟩) 1 kc) (.slice none 0 0) (.int .i64 (n : Int)) (.int .i64 0) (.int .i64 x) (.slice aa an ac) 33
  have HB0 : Hid (∀ s, ∃ q os, (w.alloc (EC (some ⟨g, o, none⟩) 1 kc none 0 0 (n : Int) 0 x aa an ac)).drewN s = Sort.grow (w.drewN q) os) := fun s => ⟨s, _, grow_one w _ s⟩
  have hkni : (0 : Int) < (kn : Int) := by omega
  clear hd hd0 ha hb0 hkc hc n5 hk x1 x3 x4 x5
  go_enter Try.func46, Try.ntmps46
  go_upto_region 5 with fail
  generalize w.alloc (EC (some ⟨g, o, none⟩) 1 kc none 0 0 (n : Int) 0 x aa an ac) = w0 at *
  have HO := hid (fun (y : Int) s => ones_any y (w0.drewN s))
  have HN1 := hid n1
  have HN2 := hid n2
  clear n1 n2
  go_quiet ((first | (go_at_call 25; exact Calls.quiet_of_same (HO.out _ _))))
  rw [HN1.out, HN2.out]
  go_wp2
  have d0 : (w0.drewN nq).cell? ⟨kb, ko, none⟩ = some (.int .u64 (k : Int)) := kk
  have d1 : (w0.drewN nq).cell? ⟨g, o, none⟩ = some (.int .u64 (kv : Int)) := q1
  have d2 : (w0.drewN nq).cell? ⟨w.heap.size, 0, none⟩ = some (.slice (some ⟨g, o, none⟩) 1 kc) := x0
  have HE : Hid (∀ s, GrowIs w ((w0.drewN nq).drewN s) (decide (Had W k (n, v))) (.returned (.bool ((q : Int) == (kv : Int))))) := fun s => ⟨by rw [n6], by rw [World.drewN_drewN]; exact HB0.out _⟩
  clear kk q1 x0 x2 c0 c2 HO HN1 HN2 HB0 n6
  generalize w0.drewN nq = w1 at *
  go_quiet (fail)
  go_wp2
  go_ret
  exact HE.out _
end Go.Proofs.Ytlnkfgdepddmlac
