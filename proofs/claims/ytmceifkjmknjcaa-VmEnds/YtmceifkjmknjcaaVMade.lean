/- (*machine).made and leads. -/
import Derived.Test.YtmceifkjmknjcaaVSmall
import Derived.Deep.RegionHeld3
import Derived.Deep.DeepCutAuto
import Derived.Deep.RegionLaw
import Derived.Deep.AppendLies
namespace Go.Proofs.Ytmceifkjmknjcaa
open Go.RowKit

/-- the number that an instruction makes -/
def vmadeN (k : MK) (m : MD) (x : InsD) : Nat :=
  if x.op = 1 then x.n.toNat else if x.op = 2 then m.rn x.s.toNat else if x.op = 3 then op2N x.k (m.rn x.r.toNat) (m.rn x.s.toNat) else if x.op = 4 then 18446744073709551615 - m.rn x.r.toNat else if x.op = 5 then (Mth.add (m.rn x.r.toNat : Int) (m.rn x.s.toNat : Int)).toNat else if x.op = 7 then m.sn x.n.toNat else k.port

/-- whether it goes on over To instructions -/
def leadsB (k : MK) (m : MD) (x : InsD) : Bool :=
  if x.op = 9 then !roomB k.pk.n (m.rn x.r.toNat) x.n.toNat else if x.op = 10 then decide (m.rn x.r.toNat < m.rn x.s.toNat) else if x.op = 11 then decide (m.rn x.r.toNat = m.rn x.s.toNat) else decide (x.op = 12)

theorem vop2_lt (op : Int) (a b : Nat) (ha : a < 18446744073709551616) (hb : b < 18446744073709551616) : op2N op a b < 18446744073709551616 := by
  have e64 : (18446744073709551616 : Nat) = 2 ^ 64 := by decide
  unfold op2N
  repeat' split
  all_goals first
    | exact Nat.mod_lt _ (by decide)
    | exact Nat.lt_of_le_of_lt Nat.and_le_left ha
    | (rw [e64] at ha hb ⊢; exact Nat.or_lt_two_pow ha hb)
    | (rw [e64] at ha hb ⊢; exact Nat.xor_lt_two_pow ha hb)
    | decide
    | exact Nat.lt_of_le_of_lt (Nat.div_le_self _ _) ha

theorem vadd_wrap (a b : Int) : Mth.add (wrap64 a) (wrap64 b) = Mth.add a b := by
  have h : ∀ n : Int, wrap64 n % 65536 = n % 65536 := fun n => by
    unfold wrap64
    omega
  unfold Mth.add
  rw [h a, h b]

theorem vnot_nat (z : Nat) (hz : z < 2 ^ 64) : (2 ^ 64 - 1) ^^^ z = 2 ^ 64 - (z + 1) := by
  refine Nat.eq_of_testBit_eq fun k => ?_
  rw [Nat.testBit_xor, Nat.testBit_two_pow_sub_one, Nat.testBit_two_pow_sub_succ hz]
  by_cases hk : k < 64
  · simp [hk]
  · have : z.testBit k = false := Nat.testBit_lt_two_pow (Nat.lt_of_lt_of_le hz (Nat.pow_le_pow_right (by decide) (by omega)))
    simp [hk, this]

theorem vnot (z : Nat) (hz : z < 18446744073709551616) : bits .xor .u64 IntKind.u64.max (z : Int) = ((18446744073709551615 - z : Nat) : Int) := by
  have e : IntKind.u64.max = ((18446744073709551615 : Nat) : Int) := by decide
  rw [e, u64_xor_nat _ _ (by decide) (by omega)]
  have := vnot_nat z (by omega)
  have h2 : (18446744073709551615 : Nat) = 2 ^ 64 - 1 := by decide
  rw [h2, this]
  omega

theorem vmade_lt {W : World} {b : Nat} {k : MK} {m : MD} {w : World} (h : MAt W b k m w) (x : InsD) (hx : 0 ≤ x.n ∧ x.n < 18446744073709551616) (hp : k.port < 18446744073709551616) : vmadeN k m x < 18446744073709551616 := by
  unfold vmadeN
  repeat' split
  · omega
  · exact h.ok.1 _
  · exact vop2_lt _ _ _ (h.ok.1 _) (h.ok.1 _)
  · omega
  · have := Mth.add_range (m.rn x.r.toNat : Int) (m.rn x.s.toNat : Int)
    omega
  · exact h.ok.2 _
  · exact hp

set_option maxHeartbeats 4000000 in
set_option maxRecDepth 20000 in
theorem vmade {W : World} {b : Nat} {k : MK} {m : MD} {w : World} (h : MAt W b k m w) (x : InsD) (hr : 0 ≤ x.r ∧ x.r < 10) (hs : 0 ≤ x.s ∧ x.s < 10) (hn : 0 ≤ x.n) (hn7 : x.op = 7 → x.n < 96) (hop : x.op = 1 ∨ x.op = 2 ∨ x.op = 3 ∨ x.op = 4 ∨ x.op = 5 ∨ x.op = 7 ∨ x.op = 18) :
    Calls Try.prog 22 #[mptr b, x.v] w fun e w' => e = .returned (.int .u64 (vmadeN k m x : Int)) ∧ Below w.heap.size w w' := by
  obtain ⟨op, r, s, kk, tt, n⟩ := x
  dsimp only at hr hs hn hn7 hop
  obtain ⟨r, rfl⟩ : ∃ i : Nat, r = i := ⟨r.toNat, by omega⟩
  obtain ⟨s, rfl⟩ : ∃ i : Nat, s = i := ⟨s.toNat, by omega⟩
  obtain ⟨n, rfl⟩ : ∃ i : Nat, n = i := ⟨n.toNat, by omega⟩
  obtain ⟨W1, hW1⟩ : ∃ W1, W1 = w.alloc (.cells #[.int .i64 op, .int .i64 (r : Int), .int .i64 (s : Int), .int .i64 kk, .int .i64 tt, .int .u64 (n : Int)] 40) := ⟨_, rfl⟩
  obtain ⟨ib, hib⟩ : ∃ b, b = w.heap.size := ⟨_, rfl⟩
  have b1 : Below w.heap.size w W1 := by rw [hW1]; exact bl_alloc (Below.refl _ _)
  have IB : IBox ⟨op, r, s, kk, tt, n⟩ W1 ib := by rw [hW1, hib]; exact ibox_new ⟨op, r, s, kk, tt, n⟩ w
  obtain ⟨i0, i1, i2, i3, i4, i5⟩ := IB
  dsimp only at i0 i1 i2 i3 i4 i5
  have h1 := h.step b1
  have hl := h1.lt
  have hil : ib < W1.heap.size := World.block_lt_of_cell? _ _ i0
  have HR : Hid (∀ p : BelowBy W1, Calls Try.prog 26 #[mptr b, .int .i64 (r : Int)] p.to fun e w'' => e = .returned (.int .u64 (m.rn r : Int)) ∧ w'' = p.to) := fun p => vreg (h1.step p.h) (by omega)
  have HS : Hid (∀ p : BelowBy W1, Calls Try.prog 26 #[mptr b, .int .i64 (s : Int)] p.to fun e w'' => e = .returned (.int .u64 (m.rn s : Int)) ∧ w'' = p.to) := fun p => vreg (h1.step p.h) (by omega)
  have c3 := h1.c3
  have hR := h.ok.1 r
  have hS := h.ok.1 s
  have HB := hid b1
  have EW := hid hW1
  have EB := hid hib
  have HNS : Hid (n < 96 → W1.cell? ⟨b, 20 + n * 2, none⟩ = some (.int .u64 (m.sn n : Int))) := h1.sn n
  dsimp only [InsD.v]
  unfold vmadeN
  dsimp only
  rw [Int.toNat_natCast, Int.toNat_natCast, Int.toNat_natCast]
  clear h h1 b1 hW1 hib
  haveI inhB : ∀ w : World, Inhabited (BelowBy w) := fun w => ⟨⟨w, Below.refl _ _⟩⟩
  rcases hop with rfl | rfl | rfl | rfl | rfl | rfl | rfl
  · clear HR HS HNS
    rw [if_pos rfl]
    go_enter Try.func22, Try.ntmps22
    go_upto_region 1 with fail
    rw [← EW.out, ← EB.out]
    clear EW EB
    go_wp2
    go_ret
    exact ⟨rfl, HB.out⟩
  · rw [if_neg (by decide), if_pos rfl]
    have HS2 := hid (HS.out ⟨W1, Below.refl _ _⟩)
    dsimp only at HS2
    clear HR HS HNS
    go_enter Try.func22, Try.ntmps22
    go_upto_region 1 with fail
    rw [← EW.out, ← EB.out]
    clear EW EB
    go_wp2_with fail
    refine HS2.out.mono ?_
    rintro e w2 ⟨rfl, rfl⟩
    clear HS2
    go_wp2
    go_ret
    exact ⟨rfl, HB.out⟩
  · rw [if_neg (by decide), if_neg (by decide), if_pos rfl]
    have HA : Hid (∀ p : BelowBy W1, Calls Try.prog 36 #[.int .i64 kk, .int .u64 (m.rn r : Int), .int .u64 (m.rn s : Int)] p.to fun e w'' => e = .returned (.int .u64 ((op2N kk (m.rn r) (m.rn s) : Nat) : Int)) ∧ w'' = p.to) := fun p => apply_any kk _ _ hR hS p.to
    generalize op2N kk (m.rn r) (m.rn s) = V at *
    generalize m.rn r = X at *
    generalize m.rn s = Y at *
    have i1' := cell_by i1
    have i2' := cell_by i2
    have i3' := cell_by i3
    clear HNS hR hS i4 i5 c3
    go_enter Try.func22, Try.ntmps22
    go_upto_region 1 with fail
    rw [← EW.out, ← EB.out]
    clear EW EB
    go_wp2_with fail
    refine wp_region_quiet_below (by kernel_rfl) (by kernel_rfl) ?_
    repeat (go_big_quiet_step (first | (go_at_call 26; with_reducible exact calls_same _ (HR.out _)) | (go_at_call 26; with_reducible exact calls_same _ (HS.out _)) | (go_at_call 36; with_reducible exact calls_same _ (HA.out _))))
    refine wpQuiet_nil ?_
    intro wq hw'
    obtain ⟨⟨_, hwq⟩, hw''⟩ := hw'
    subst hw''
    have HF := hid (bl_step HB.out hwq)
    clear HB hwq HA HR HS
    go_wp2
    go_ret
    exact ⟨rfl, HF.out⟩
  · rw [if_neg (by decide), if_neg (by decide), if_neg (by decide), if_pos rfl]
    have HR2 := hid (HR.out ⟨W1, Below.refl _ _⟩)
    dsimp only at HR2
    have hv := hid (vnot (m.rn r) hR)
    generalize m.rn r = X at *
    clear HR HS HNS hR hS i4 i5 c3
    go_enter Try.func22, Try.ntmps22
    go_upto_region 1 with fail
    rw [← EW.out, ← EB.out]
    clear EW EB
    go_wp2_with fail
    refine HR2.out.mono ?_
    rintro e w2 ⟨rfl, rfl⟩
    clear HR2
    go_wp2
    go_ret
    exact ⟨ret_int hv.out, HB.out⟩
  · rw [if_neg (by decide), if_neg (by decide), if_neg (by decide), if_neg (by decide), if_pos rfl]
    have hrg := Mth.add_range (m.rn r : Int) (m.rn s : Int)
    have HA : Hid (∀ p : BelowBy W1, Calls Try.prog 37 #[.int .i64 (wrap64 (m.rn r : Int)), .int .i64 (wrap64 (m.rn s : Int))] p.to fun e w'' => e = .returned (.int .i64 (Mth.add (m.rn r : Int) (m.rn s : Int))) ∧ w'' = p.to) := fun p => by
      have := add_any (wrap64 (m.rn r : Int)) (wrap64 (m.rn s : Int)) p.to
      rw [vadd_wrap] at this
      exact this
    obtain ⟨V, hV⟩ : ∃ V : Nat, Mth.add (m.rn r : Int) (m.rn s : Int) = V := ⟨(Mth.add (m.rn r : Int) (m.rn s : Int)).toNat, by omega⟩
    rw [hV] at HA hrg ⊢
    rw [Int.toNat_natCast]
    have hwV := gwrap_u (V : Int) (by omega) (by omega)
    generalize m.rn r = X at *
    generalize m.rn s = Y at *
    have i1' := cell_by i1
    have i2' := cell_by i2
    clear HNS hR hS i4 i5 c3 hV hrg
    go_enter Try.func22, Try.ntmps22
    go_upto_region 1 with fail
    rw [← EW.out, ← EB.out]
    clear EW EB
    go_wp2_with fail
    refine wp_region_quiet_below (by kernel_rfl) (by kernel_rfl) ?_
    repeat (go_big_quiet_step (first | (go_at_call 26; with_reducible exact calls_same _ (HR.out _)) | (go_at_call 26; with_reducible exact calls_same _ (HS.out _)) | (go_at_call 37; with_reducible exact calls_same _ (HA.out _))))
    refine wpQuiet_nil ?_
    intro wq hw'
    obtain ⟨⟨_, hwq⟩, hw''⟩ := hw'
    subst hw''
    have HF := hid (bl_step HB.out hwq)
    clear HB hwq HA HR HS
    go_wp2
    go_ret
    exact ⟨rfl, HF.out⟩
  · rw [if_neg (by decide), if_neg (by decide), if_neg (by decide), if_neg (by decide), if_neg (by decide), if_pos rfl]
    have hn96 := hn7 rfl
    have n0 := HNS.out (by omega)
    generalize m.sn n = Y at *
    have hni : (n : Int) < 96 := by omega
    clear HR HS HNS hR hS i1 i2 i3 i4 c3 hn7 hn96
    go_enter Try.func22, Try.ntmps22
    go_upto_region 1 with fail
    rw [← EW.out, ← EB.out]
    clear EW EB
    go_wp2_with fail
    go_region_held3 (fun w' => w'.cell? ⟨ib, 5, none⟩ = some (.int .u64 (n : Int)) ∧ w'.cell? ⟨b, 20 + n * 2, none⟩ = some (.int .u64 (Y : Int))) (go_keep) (fail)
    all_goals
      go_wp2
      go_ret
      exact ⟨rfl, HB.out.drew⟩
  · rw [if_neg (by decide), if_neg (by decide), if_neg (by decide), if_neg (by decide), if_neg (by decide), if_neg (by decide)]
    clear HR HS HNS hR hS i1 i2 i3 i4
    go_enter Try.func22, Try.ntmps22
    go_upto_region 1 with fail
    rw [← EW.out, ← EB.out]
    clear EW EB
    go_wp2
    go_ret
    exact ⟨rfl, HB.out⟩
end Go.Proofs.Ytmceifkjmknjcaa
