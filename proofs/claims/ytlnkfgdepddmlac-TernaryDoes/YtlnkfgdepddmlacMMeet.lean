/- What meet, fits and isEntry of a table by masks do. -/
import Derived.Test.YtlnkfgdepddmlacMSearch
import Derived.Laws.BitsAllLaws
namespace Go.Proofs.Ytlnkfgdepddmlac
open Go.RowKit Mth

def N64 (x : Int) : Prop := 0 ≤ x ∧ x < 18446744073709551616

theorem n64_at {w : World} {a : Option Addr} {n : Nat} {zs : List Int} (h : Has .u64 w a n zs) (i : Nat) : N64 (zs.getD i 0) := by
  unfold N64
  by_cases hi : i < zs.length
  · have e : zs.getD i 0 = zs[i] := by rw [List.getD_eq_getElem?_getD, List.getElem?_eq_getElem hi]; rfl
    rw [e]
    exact h.nums _ (List.getElem_mem _)
  · have e : zs.getD i 0 = 0 := by rw [List.getD_eq_getElem?_getD, List.getElem?_eq_none (by omega)]; rfl
    rw [e]; omega

theorem and_lt64 (a b : Nat) (h : (a : Int) < 18446744073709551616) : ((a &&& b : Nat) : Int) < 18446744073709551616 := by
  have := Nat.and_le_left (n := a) (m := b); omega

theorem xor_lt64 (a b : Nat) (h : a < 18446744073709551616) (k : b < 18446744073709551616) : a ^^^ b < 18446744073709551616 := Nat.xor_lt_two_pow (n := 64) (by simpa using h) (by simpa using k)

theorem meet_nums {k1 k2 m1 m2 : Int} (h1 : N64 k1) (h2 : N64 k2) (h3 : N64 m1) (h4 : N64 m2) : ∃ a1 a2 a3, bits .xor .u64 k1 k2 = a1 ∧ bits .and .u64 a1 m1 = a2 ∧ bits .and .u64 a2 m2 = a3 ∧ (a3 = 0 ↔ (k1.toNat ^^^ k2.toNat) &&& m1.toNat &&& m2.toNat = 0) := by
  obtain ⟨A, rfl⟩ := Int.eq_ofNat_of_zero_le h1.1
  obtain ⟨B, rfl⟩ := Int.eq_ofNat_of_zero_le h2.1
  obtain ⟨C, rfl⟩ := Int.eq_ofNat_of_zero_le h3.1
  obtain ⟨D, rfl⟩ := Int.eq_ofNat_of_zero_le h4.1
  have hA : A < 18446744073709551616 := by have := h1.2; omega
  have hB : B < 18446744073709551616 := by have := h2.2; omega
  have hC : C < 18446744073709551616 := by have := h3.2; omega
  have hD : D < 18446744073709551616 := by have := h4.2; omega
  have hX := xor_lt64 A B hA hB
  have hY : (A ^^^ B) &&& C < 18446744073709551616 := Nat.lt_of_le_of_lt Nat.and_le_left hX
  refine ⟨_, _, _, rfl, rfl, rfl, ?_⟩
  rw [u64_xor_nat A B hA hB, u64_and_nat _ C hX hC, u64_and_nat _ D hY hD]
  simp only [Int.toNat_natCast]
  omega

theorem mfit_nums {k m : Int} (h1 : N64 k) (h2 : N64 m) : bits .and .u64 k m = ((k.toNat &&& m.toNat : Nat) : Int) := u64_and k m h1.1 h1.2 h2.1 h2.2

theorem and_zero_iff (a b : Nat) (ha : a < 18446744073709551616) (hb : b < 18446744073709551616) : a &&& (18446744073709551615 - b) = 0 ↔ a &&& b = a := by
  have key : ∀ j, (18446744073709551615 - b).testBit j = (decide (j < 64) && !b.testBit j) := by
    intro j
    have := Nat.testBit_two_pow_sub_succ (x := b) (n := 64) (by simpa using hb) j
    rw [← this]
    congr 1
    omega
  constructor
  · intro h
    apply Nat.eq_of_testBit_eq
    intro j
    have h1 := congrArg (fun n => n.testBit j) h
    simp only [Nat.testBit_and, key, Nat.zero_testBit] at h1
    rw [Nat.testBit_and]
    by_cases hj : j < 64
    · simp only [hj, decide_true, Bool.true_and] at h1
      cases ha' : a.testBit j <;> cases hb' : b.testBit j <;> simp_all
    · have : a.testBit j = false := Nat.testBit_lt_two_pow (Nat.lt_of_lt_of_le ha (by rw [show (18446744073709551616 : Nat) = 2 ^ 64 from rfl]; exact Nat.pow_le_pow_right (by decide) (by omega)))
      simp [this]
  · intro h
    apply Nat.eq_of_testBit_eq
    intro j
    have h1 := congrArg (fun n => n.testBit j) h
    simp only [Nat.testBit_and] at h1
    simp only [Nat.testBit_and, key, Nat.zero_testBit]
    cases ha' : a.testBit j <;> cases hb' : b.testBit j <;> simp_all

theorem within_nums {k m : Int} (h1 : N64 k) (h2 : N64 m) : bits .andNot .u64 k m = 0 ↔ k.toNat &&& m.toNat = k.toNat := by
  obtain ⟨A, rfl⟩ := Int.eq_ofNat_of_zero_le h1.1
  obtain ⟨B, rfl⟩ := Int.eq_ofNat_of_zero_le h2.1
  have hA : A < 18446744073709551616 := by have := h1.2; omega
  have hB : B < 18446744073709551616 := by have := h2.2; omega
  rw [u64_andNot_nat A B hA hB]
  simp only [Int.toNat_natCast]
  rw [← and_zero_iff A B hA hB]
  omega

def AskDone (w w' : World) (P : Prop) (e : Ending) : Prop := ∃ b : Bool, e = .returned (.bool b) ∧ (b = true ↔ P) ∧ Grew w w'

set_option maxHeartbeats 4000000 in
set_option maxRecDepth 20000 in
theorem meet_any {w : World} {d f : MD} {x e : TE} (hd : d.good w x) (hf : f.good w e) (h1 : f.kn = d.kn) (h2 : d.mn = d.kn) (h3 : f.mn = d.kn) :
    Calls Try.prog 74 #[d.ev, f.ev] w fun r w' => AskDone w w' (Meets x e) r := by
  obtain ⟨dka, dkn, dkc, dma, dmn, dmc, dln, dpr, dac, da, dn, dc⟩ := d
  obtain ⟨fka, fkn, fkc, fma, fmn, fmc, fln, fpr, fac, fa, fn, fc⟩ := f
  obtain ⟨-, h4, hks, -, -, hms, -, -, -, -, -⟩ := hd
  obtain ⟨-, -, gks, -, -, gms, -, -, -, -, -⟩ := hf
  simp only at *
  subst h1; subst h2; subst h3
  have hb0 := bl_alloc (o := EC fka fmn fkc fma fmn fmc fln fpr fac fa fn fc) (bl_alloc (o := EC dka fmn dkc dma fmn dmc dln dpr dac da dn dc) (Below.refl w.heap.size w))
  have HK := hid (hks.step hb0)
  have HM := hid (hms.step hb0)
  have GK := hid (gks.step hb0)
  have GM := hid (gms.step hb0)
  have hxl := hks.1
  have T1 := (six_new w (.slice dka fmn dkc) (.slice dma fmn dmc) (.int .i64 dln) (.int .i64 dpr) (.int .i64 dac) (.slice da dn dc) 33).step (bl_alloc (o := EC fka fmn fkc fma fmn fmc fln fpr fac fa fn fc) (Below.refl _ _))
  have T2 := six_new (w.alloc (EC dka fmn dkc dma fmn dmc dln dpr dac da dn dc)) (.slice fka fmn fkc) (.slice fma fmn fmc) (.int .i64 fln) (.int .i64 fpr) (.int .i64 fac) (.slice fa fn fc) 33
  rw [show (w.alloc (EC dka fmn dkc dma fmn dmc dln dpr dac da dn dc)).heap.size = w.heap.size + 1 from by simp] at T2
  have HGR := hid (fun s => grew_alloc2 w (EC dka fmn dkc dma fmn dmc dln dpr dac da dn dc) (EC fka fmn fkc fma fmn fmc fln fpr fac fa fn fc) s)
  clear hks hms gks gms hb0
  go_enter Try.func74, Try.ntmps74
  go_wp2
  generalize (w.alloc (EC dka fmn dkc dma fmn dmc dln dpr dac da dn dc)).alloc (EC fka fmn fkc fma fmn fmc fln fpr fac fa fn fc) = w0 at *
  obtain ⟨k0, k1, -, -, -, -, -, -, -, -, -, -⟩ := T1
  obtain ⟨l0, l1, -, -, -, -, -, -, -, -, -, -⟩ := T2
  go_loopw [10] (fun q wr => ∃ i : Nat, i ≤ fmn ∧ q = .int .i64 i ∧ Hid (∀ t, t < i → (nz x.ks t ^^^ nz e.ks t) &&& nz x.ms t &&& nz e.ms t = 0) ∧ Hid (∃ s, wr = w0.drewN s)) (fun q _ => fmn - (intOf q).toNat)
  case atStart => exact ⟨0, Nat.zero_le _, rfl, fun t ht => absurd ht (Nat.not_lt_zero _), 0, rfl⟩
  case round =>
    obtain ⟨i, hi, rfl, hz, hwr⟩ := hrel
    by_cases hlt : i < fmn
    · obtain ⟨p1, o1, rfl, -, hc1⟩ := HK.out.some (by omega)
      obtain ⟨p2, o2, rfl, -, hc2⟩ := GK.out.some (by omega)
      obtain ⟨p3, o3, rfl, -, hc3⟩ := HM.out.some (by omega)
      obtain ⟨p4, o4, rfl, -, hc4⟩ := GM.out.some (by omega)
      obtain ⟨a1, a2, a3, e1, e2, e3, e4⟩ := meet_nums (n64_at HK.out i) (n64_at GK.out i) (n64_at HM.out i) (n64_at GM.out i)
      obtain ⟨s, rfl⟩ := hwr
      have q1 : (w0.drewN s).cell? ⟨p1, o1 + i, none⟩ = _ := hc1 i hlt
      have q2 : (w0.drewN s).cell? ⟨p2, o2 + i, none⟩ = _ := hc2 i hlt
      have q3 : (w0.drewN s).cell? ⟨p3, o3 + i, none⟩ = _ := hc3 i hlt
      have q4 : (w0.drewN s).cell? ⟨p4, o4 + i, none⟩ = _ := hc4 i hlt
      have b0 : (w0.drewN s).cell? ⟨w.heap.size, 0, none⟩ = _ := k0
      have b1 : (w0.drewN s).cell? ⟨w.heap.size, 1, none⟩ = _ := k1
      have b2 : (w0.drewN s).cell? ⟨w.heap.size + 1, 0, none⟩ = _ := l0
      have b3 : (w0.drewN s).cell? ⟨w.heap.size + 1, 1, none⟩ = _ := l1
      have E4 : Hid (a3 = 0 ↔ (nz x.ks i ^^^ nz e.ks i) &&& nz x.ms i &&& nz e.ms i = 0) := e4
      have HD : Hid (∀ s', ∃ s'', (w0.drewN s).drewN s' = w0.drewN s'') := fun s' => ⟨_, World.drewN_drewN _ _ _⟩
      generalize x.ks.getD i 0 = v1 at *
      generalize e.ks.getD i 0 = v2 at *
      generalize x.ms.getD i 0 = v3 at *
      generalize e.ms.getD i 0 = v4 at *
      have hin : (i : Int) < (fmn : Int) := by omega
      clear hc1 hc2 hc3 hc4 e4
      generalize w0.drewN s = w1 at *
      by_cases h0 : a3 = 0
      · have HN : Hid (∀ t, t < i + 1 → (nz x.ks t ^^^ nz e.ks t) &&& nz x.ms t &&& nz e.ms t = 0) := fun t ht => by
          by_cases et : t = i
          · subst et; exact E4.out.1 h0
          · exact hz.out t (by omega)
        have hd : (a3 != 0) = false := by simpa using h0
        clear h0
        go_wp2_with fail
        go_quiet (fail)
        go_wp2
        go_roundw
        case rel => exact ⟨i + 1, by omega, by go_num, HN.out, HD.out _⟩
        case measure => simp [intOf]; omega
      · have HN : Hid (¬ Meets x e) := fun hm => h0 (E4.out.2 (hm i (by omega)))
        have hd : (a3 != 0) = true := by simpa using h0
        clear h0
        go_wp2_with fail
        go_quiet (fail)
        go_wp2
        go_ret
        exact ⟨false, rfl, ⟨fun h => (by cases h), fun h => absurd h HN.out⟩, by obtain ⟨s'', e⟩ := HD.out nq; rw [e]; exact HGR.out _⟩
    · have ei : i = fmn := by omega
      subst ei
      have HN : Hid (Meets x e) := fun t ht => hz.out t (by omega)
      go_wp2
      go_ret
      exact ⟨true, rfl, ⟨fun _ => HN.out, fun _ => rfl⟩, by obtain ⟨s'', e⟩ := hwr; rw [e]; exact HGR.out _⟩
end Go.Proofs.Ytlnkfgdepddmlac
