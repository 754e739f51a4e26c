/- Texts of one chain, joined: MMeet, MFit, MEntry. -/
import Derived.Test.YtffbnggdckjogaaGreatG14
import Derived.Laws.BitsAllLaws
namespace Go.Proofs.YtffbnggdckjogaaGreat
open Go.RowKit Mth
def N64 (x : Int) : Prop := 0 ≤ x ∧ x < 18446744073709551616
theorem n64_at {w : World} {a : Option Addr} {n : Nat} {zs : List Int} (h : Has .u64 w a n zs) (i : Nat) : N64 (zs.getD i 0) := by
  unfold N64
  by_cases hi : i < zs.length
  · have e : zs.getD i 0 = zs[i] := by rw [List.getD_eq_getElem?_getD, List.getElem?_eq_getElem hi]; rfl
    rw [e]
    exact h.nums _ (List.getElem_mem _)
  · have e : zs.getD i 0 = 0 := by rw [List.getD_eq_getElem?_getD, List.getElem?_eq_none (by omega)]; rfl
    rw [e]; omega
theorem xor_lt64 (a b : Nat) (h : a < 18446744073709551616) (k : b < 18446744073709551616) : a ^^^ b < 18446744073709551616 := Nat.xor_lt_two_pow (n := 64) (by simpa using h) (by simpa using k)
theorem meet_nums {k1 k2 m1 m2 : Int} (h1 : N64 k1) (h2 : N64 k2) (h3 : N64 m1) (h4 : N64 m2) : ∃ a1 a2 a3, bits .xor .u64 k1 k2 = a1 ∧ bits .and .u64 a1 m1 = a2 ∧ bits .and .u64 a2 m2 = a3 ∧ (a3 = 0 ↔ (k1.toNat ^^^ k2.toNat) &&& m1.toNat &&& m2.toNat = 0) := by
  obtain ⟨A, rfl⟩ := Int.eq_ofNat_of_zero_le h1.1
  obtain ⟨B, rfl⟩ := Int.eq_ofNat_of_zero_le h2.1
  obtain ⟨C, rfl⟩ := Int.eq_ofNat_of_zero_le h3.1
  obtain ⟨D, rfl⟩ := Int.eq_ofNat_of_zero_le h4.1
  have hA : A < 18446744073709551616 := by have := h1.2; omega
  have hB : B < 18446744073709551616 := by have := h2.2; omega
  have hC : C < 18446744073709551616 := by have := h3.2; omega
  have hD : D < 18446744073709551616 := by have := h4.2; omega
  have hX := xor_lt64 A B hA hB
  have hY : (A ^^^ B) &&& C < 18446744073709551616 := Nat.lt_of_le_of_lt Nat.and_le_left hX
  refine ⟨_, _, _, rfl, rfl, rfl, ?_⟩
  rw [u64_xor_nat A B hA hB, u64_and_nat _ C hX hC, u64_and_nat _ D hY hD]
  simp only [Int.toNat_natCast]
  omega
theorem mfit_nums {k m : Int} (h1 : N64 k) (h2 : N64 m) : bits .and .u64 k m = ((k.toNat &&& m.toNat : Nat) : Int) := u64_and k m h1.1 h1.2 h2.1 h2.2
theorem and_zero_iff (a b : Nat) (ha : a < 18446744073709551616) (hb : b < 18446744073709551616) : a &&& (18446744073709551615 - b) = 0 ↔ a &&& b = a := by
  have key : ∀ j, (18446744073709551615 - b).testBit j = (decide (j < 64) && !b.testBit j) := by
    intro j
    have := Nat.testBit_two_pow_sub_succ (x := b) (n := 64) (by simpa using hb) j
    rw [← this]
    congr 1
    omega
  constructor
  · intro h
    apply Nat.eq_of_testBit_eq
    intro j
    have h1 := congrArg (fun n => n.testBit j) h
    simp only [Nat.testBit_and, key, Nat.zero_testBit] at h1
    rw [Nat.testBit_and]
    by_cases hj : j < 64
    · simp only [hj, decide_true, Bool.true_and] at h1
      cases ha' : a.testBit j <;> cases hb' : b.testBit j <;> simp_all
    · have : a.testBit j = false := Nat.testBit_lt_two_pow (Nat.lt_of_lt_of_le ha (by rw [show (18446744073709551616 : Nat) = 2 ^ 64 from rfl]; exact Nat.pow_le_pow_right (by decide) (by omega)))
      simp [this]
  · intro h
    apply Nat.eq_of_testBit_eq
    intro j
    have h1 := congrArg (fun n => n.testBit j) h
    simp only [Nat.testBit_and] at h1
    simp only [Nat.testBit_and, key, Nat.zero_testBit]
    cases ha' : a.testBit j <;> cases hb' : b.testBit j <;> simp_all
theorem within_nums {k m : Int} (h1 : N64 k) (h2 : N64 m) : bits .andNot .u64 k m = 0 ↔ k.toNat &&& m.toNat = k.toNat := by
  obtain ⟨A, rfl⟩ := Int.eq_ofNat_of_zero_le h1.1
  obtain ⟨B, rfl⟩ := Int.eq_ofNat_of_zero_le h2.1
  have hA : A < 18446744073709551616 := by have := h1.2; omega
  have hB : B < 18446744073709551616 := by have := h2.2; omega
  rw [u64_andNot_nat A B hA hB]
  simp only [Int.toNat_natCast]
  rw [← and_zero_iff A B hA hB]
  omega
def AskDone (w w' : World) (P : Prop) (e : Ending) : Prop := ∃ b : Bool, e = .returned (.bool b) ∧ (b = true ↔ P) ∧ Grew w w'
set_option maxHeartbeats 4000000 in
set_option maxRecDepth 20000 in
theorem meet_any {w : World} {d f : MD} {x e : TE} (hd : d.good w x) (hf : f.good w e) (h1 : f.kn = d.kn) (h2 : d.mn = d.kn) (h3 : f.mn = d.kn) :
    Calls Tryz.prog 139 #[d.ev, f.ev] w fun r w' => AskDone w w' (Meets x e) r := by
  obtain ⟨dka, dkn, dkc, dma, dmn, dmc, dln, dpr, dac, da, dn, dc⟩ := d
  obtain ⟨fka, fkn, fkc, fma, fmn, fmc, fln, fpr, fac, fa, fn, fc⟩ := f
  obtain ⟨-, h4, hks, -, -, hms, -, -, -, -, -⟩ := hd
  obtain ⟨-, -, gks, -, -, gms, -, -, -, -, -⟩ := hf
  simp only at *
  subst h1; subst h2; subst h3
  have hb0 := bl_alloc (o := EC fka fmn fkc fma fmn fmc fln fpr fac fa fn fc) (bl_alloc (o := EC dka fmn dkc dma fmn dmc dln dpr dac da dn dc) (Below.refl w.heap.size w))
  have HK := hid (hks.step hb0)
  have HM := hid (hms.step hb0)
  have GK := hid (gks.step hb0)
  have GM := hid (gms.step hb0)
  have hxl := hks.1
  have T1 := (six_new w (.slice dka fmn dkc) (.slice dma fmn dmc) (.int .i64 dln) (.int .i64 dpr) (.int .i64 dac) (.slice da dn dc) 38).step (bl_alloc (o := EC fka fmn fkc fma fmn fmc fln fpr fac fa fn fc) (Below.refl _ _))
  have T2 := six_new (w.alloc (EC dka fmn dkc dma fmn dmc dln dpr dac da dn dc)) (.slice fka fmn fkc) (.slice fma fmn fmc) (.int .i64 fln) (.int .i64 fpr) (.int .i64 fac) (.slice fa fn fc) 38
  rw [show (w.alloc (EC dka fmn dkc dma fmn dmc dln dpr dac da dn dc)).heap.size = w.heap.size + 1 from by simp] at T2
  have HGR := hid (fun s => grew_alloc2 w (EC dka fmn dkc dma fmn dmc dln dpr dac da dn dc) (EC fka fmn fkc fma fmn fmc fln fpr fac fa fn fc) s)
  clear hks hms gks gms hb0
  go_enter Tryz.func139, Tryz.ntmps139
  go_wp2
  generalize (w.alloc (EC dka fmn dkc dma fmn dmc dln dpr dac da dn dc)).alloc (EC fka fmn fkc fma fmn fmc fln fpr fac fa fn fc) = w0 at *
  obtain ⟨k0, k1, -, -, -, -, -, -, -, -, -, -⟩ := T1
  obtain ⟨l0, l1, -, -, -, -, -, -, -, -, -, -⟩ := T2
  go_loopw [10] (fun q wr => ∃ i : Nat, i ≤ fmn ∧ q = .int .i64 i ∧ Hid (∀ t, t < i → (nz x.ks t ^^^ nz e.ks t) &&& nz x.ms t &&& nz e.ms t = 0) ∧ Hid (∃ s, wr = w0.drewN s)) (fun q _ => fmn - (intOf q).toNat)
  case atStart => exact ⟨0, Nat.zero_le _, rfl, fun t ht => absurd ht (Nat.not_lt_zero _), 0, rfl⟩
  case round =>
    obtain ⟨i, hi, rfl, hz, hwr⟩ := hrel
    by_cases hlt : i < fmn
    · obtain ⟨p1, o1, rfl, -, hc1⟩ := HK.out.some (by omega)
      obtain ⟨p2, o2, rfl, -, hc2⟩ := GK.out.some (by omega)
      obtain ⟨p3, o3, rfl, -, hc3⟩ := HM.out.some (by omega)
      obtain ⟨p4, o4, rfl, -, hc4⟩ := GM.out.some (by omega)
      obtain ⟨a1, a2, a3, e1, e2, e3, e4⟩ := meet_nums (n64_at HK.out i) (n64_at GK.out i) (n64_at HM.out i) (n64_at GM.out i)
      obtain ⟨s, rfl⟩ := hwr
      have q1 : (w0.drewN s).cell? ⟨p1, o1 + i, none⟩ = _ := hc1 i hlt
      have q2 : (w0.drewN s).cell? ⟨p2, o2 + i, none⟩ = _ := hc2 i hlt
      have q3 : (w0.drewN s).cell? ⟨p3, o3 + i, none⟩ = _ := hc3 i hlt
      have q4 : (w0.drewN s).cell? ⟨p4, o4 + i, none⟩ = _ := hc4 i hlt
      have b0 : (w0.drewN s).cell? ⟨w.heap.size, 0, none⟩ = _ := k0
      have b1 : (w0.drewN s).cell? ⟨w.heap.size, 1, none⟩ = _ := k1
      have b2 : (w0.drewN s).cell? ⟨w.heap.size + 1, 0, none⟩ = _ := l0
      have b3 : (w0.drewN s).cell? ⟨w.heap.size + 1, 1, none⟩ = _ := l1
      have E4 : Hid (a3 = 0 ↔ (nz x.ks i ^^^ nz e.ks i) &&& nz x.ms i &&& nz e.ms i = 0) := e4
      have HD : Hid (∀ s', ∃ s'', (w0.drewN s).drewN s' = w0.drewN s'') := fun s' => ⟨_, World.drewN_drewN _ _ _⟩
      generalize x.ks.getD i 0 = v1 at *
      generalize e.ks.getD i 0 = v2 at *
      generalize x.ms.getD i 0 = v3 at *
      generalize e.ms.getD i 0 = v4 at *
      have hin : (i : Int) < (fmn : Int) := by omega
      clear hc1 hc2 hc3 hc4 e4
      generalize w0.drewN s = w1 at *
      by_cases h0 : a3 = 0
      · have HN : Hid (∀ t, t < i + 1 → (nz x.ks t ^^^ nz e.ks t) &&& nz x.ms t &&& nz e.ms t = 0) := fun t ht => by
          by_cases et : t = i
          · subst et; exact E4.out.1 h0
          · exact hz.out t (by omega)
        have hd : (a3 != 0) = false := by simpa using h0
        clear h0
        go_wp2_with fail
        go_quiet (fail)
        go_wp2
        go_roundw
        case rel => exact ⟨i + 1, by omega, by go_num, HN.out, HD.out _⟩
        case measure => simp [intOf]; omega
      · have HN : Hid (¬ Meets x e) := fun hm => h0 (E4.out.2 (hm i (by omega)))
        have hd : (a3 != 0) = true := by simpa using h0
        clear h0
        go_wp2_with fail
        go_quiet (fail)
        go_wp2
        go_ret
        exact ⟨false, rfl, ⟨fun h => (by cases h), fun h => absurd h HN.out⟩, by obtain ⟨s'', e⟩ := HD.out nq; rw [e]; exact HGR.out _⟩
    · have ei : i = fmn := by omega
      subst ei
      have HN : Hid (Meets x e) := fun t ht => hz.out t (by omega)
      go_wp2
      go_ret
      exact ⟨true, rfl, ⟨fun _ => HN.out, fun _ => rfl⟩, by obtain ⟨s'', e⟩ := hwr; rw [e]; exact HGR.out _⟩
end Go.Proofs.YtffbnggdckjogaaGreat

namespace Go.Proofs.YtffbnggdckjogaaGreat
open Go.RowKit Mth
set_option maxHeartbeats 4000000 in
set_option maxRecDepth 20000 in
theorem mfits_any {w : World} {d : MD} {x : TE} {ka : Option Addr} {kc : Nat} {k : List Int} (hd : d.good w x) (h2 : d.mn = d.kn) (hk : Has .u64 w ka d.kn k) :
    Calls Tryz.prog 131 #[d.ev, .slice ka d.kn kc] w fun r w' => AskDone w w' (FitsE x k) r := by
  obtain ⟨dka, dkn, dkc, dma, dmn, dmc, dln, dpr, dac, da, dn, dc⟩ := d
  obtain ⟨-, h4, hks, -, -, hms, -, -, -, -, -⟩ := hd
  simp only at *
  subst h2
  have hb0 := bl_alloc (o := EC dka dmn dkc dma dmn dmc dln dpr dac da dn dc) (Below.refl w.heap.size w)
  have HK := hid (hks.step hb0)
  have HM := hid (hms.step hb0)
  have GK := hid (hk.step hb0)
  have hxl := hks.1
  have T1 := six_new w (.slice dka dmn dkc) (.slice dma dmn dmc) (.int .i64 dln) (.int .i64 dpr) (.int .i64 dac) (.slice da dn dc) 38
  have HGR := hid (fun s => grew_alloc w (EC dka dmn dkc dma dmn dmc dln dpr dac da dn dc) s)
  clear hks hms hk hb0
  go_enter Tryz.func131, Tryz.ntmps131
  go_wp2
  generalize w.alloc (EC dka dmn dkc dma dmn dmc dln dpr dac da dn dc) = w0 at *
  obtain ⟨k0, k1, -, -, -, -, -, -, -, -, -, -⟩ := T1
  go_loopw [10] (fun q wr => ∃ i : Nat, i ≤ dmn ∧ q = .int .i64 i ∧ Hid (∀ t, t < i → nz k t &&& nz x.ms t = nz x.ks t) ∧ Hid (∃ s, wr = w0.drewN s)) (fun q _ => dmn - (intOf q).toNat)
  case atStart => exact ⟨0, Nat.zero_le _, rfl, fun t ht => absurd ht (Nat.not_lt_zero _), 0, rfl⟩
  case round =>
    obtain ⟨i, hi, rfl, hz, hwr⟩ := hrel
    by_cases hlt : i < dmn
    · obtain ⟨p1, o1, rfl, -, hc1⟩ := HK.out.some (by omega)
      obtain ⟨p2, o2, rfl, -, hc2⟩ := GK.out.some (by omega)
      obtain ⟨p3, o3, rfl, -, hc3⟩ := HM.out.some (by omega)
      have e1 := mfit_nums (n64_at GK.out i) (n64_at HM.out i)
      have hn1 := (n64_at HK.out i).1
      obtain ⟨s, rfl⟩ := hwr
      have q1 : (w0.drewN s).cell? ⟨p1, o1 + i, none⟩ = _ := hc1 i hlt
      have q2 : (w0.drewN s).cell? ⟨p2, o2 + i, none⟩ = _ := hc2 i hlt
      have q3 : (w0.drewN s).cell? ⟨p3, o3 + i, none⟩ = _ := hc3 i hlt
      have b0 : (w0.drewN s).cell? ⟨w.heap.size, 0, none⟩ = _ := k0
      have b1 : (w0.drewN s).cell? ⟨w.heap.size, 1, none⟩ = _ := k1
      have E4 : Hid ((((k.getD i 0).toNat &&& (x.ms.getD i 0).toNat : Nat) : Int) = x.ks.getD i 0 ↔ nz k i &&& nz x.ms i = nz x.ks i) := by
        unfold nz
        constructor
        · intro h; omega
        · intro h; omega
      have HD : Hid (∀ s', ∃ s'', (w0.drewN s).drewN s' = w0.drewN s'') := fun s' => ⟨_, World.drewN_drewN _ _ _⟩
      generalize (((k.getD i 0).toNat &&& (x.ms.getD i 0).toNat : Nat) : Int) = a3 at *
      generalize x.ks.getD i 0 = v1 at *
      generalize k.getD i 0 = v2 at *
      generalize x.ms.getD i 0 = v3 at *
      have hin : (i : Int) < (dmn : Int) := by omega
      clear hc1 hc2 hc3 hn1
      generalize w0.drewN s = w1 at *
      by_cases h0 : a3 = v1
      · have HN : Hid (∀ t, t < i + 1 → nz k t &&& nz x.ms t = nz x.ks t) := fun t ht => by
          by_cases et : t = i
          · subst et; exact E4.out.1 h0
          · exact hz.out t (by omega)
        have hd : (a3 != v1) = false := by simpa using h0
        clear h0
        go_wp2_with fail
        go_quiet (fail)
        go_wp2
        go_roundw
        case rel => exact ⟨i + 1, by omega, by go_num, HN.out, HD.out _⟩
        case measure => simp [intOf]; omega
      · have HN : Hid (¬ FitsE x k) := fun hm => h0 (E4.out.2 (hm i (by omega)))
        have hd : (a3 != v1) = true := by simpa using h0
        clear h0
        go_wp2_with fail
        go_quiet (fail)
        go_wp2
        go_ret
        exact ⟨false, rfl, ⟨fun h => (by cases h), fun h => absurd h HN.out⟩, by obtain ⟨s'', e⟩ := HD.out nq; rw [e]; exact HGR.out _⟩
    · have ei : i = dmn := by omega
      subst ei
      have HN : Hid (FitsE x k) := fun t ht => hz.out t (by omega)
      go_wp2
      go_ret
      exact ⟨true, rfl, ⟨fun _ => HN.out, fun _ => rfl⟩, by obtain ⟨s'', e⟩ := hwr; rw [e]; exact HGR.out _⟩
set_option maxHeartbeats 1000000 in
set_option maxRecDepth 20000 in
theorem find1_any {w : World} {d : MD} {x : TE} {kb : Nat} {ka : Option Addr} {kn kc : Nat} {k : List Int} (hd : d.good w x) (h2 : d.mn = kn) (h3 : d.kn = kn) (hk : Has .u64 w ka kn k) (hb : w.cell? ⟨kb, 0, none⟩ = some (.slice ka kn kc)) :
    Calls Tryz.prog 130 #[d.ev, .pointer (some ⟨kb, 0, none⟩)] w fun r w' => AskDone w w' (FitsE x k) r := by
  have hb0 := bl_alloc (o := d.ec) (Below.refl w.heap.size w)
  have HF := mfits_any (kc := kc) (hd.step hb0) (by rw [h2, h3]) (by rw [h3]; exact hk.step hb0)
  rw [h3] at HF
  have HF := hid HF
  have hkl : kb < w.heap.size := World.block_lt_of_cell? w _ hb
  have q0 := (hb0.cell (p := ⟨kb, 0, none⟩) hkl).trans hb
  have hne : ¬ w.heap.size = kb := by omega
  have HGR := hid (grew_alloc w d.ec 0)
  clear hd hk hb hb0 h2 h3 hkl
  obtain ⟨k0, k1, k2, k3, k4, k5, -, -, -, -, -, -⟩ := six_new w (.slice d.ka d.kn d.kc) (.slice d.ma d.mn d.mc) (.int .i64 d.ln) (.int .i64 d.pr) (.int .i64 d.ac) (.slice d.a d.n d.c) 38
  go_enter Tryz.func130, Tryz.ntmps130
  go_wp2_with fail
  refine HF.out.mono ?_
  rintro r w1 ⟨b, rfl, hb, hg⟩
  have HG := hid (HGR.out.trans hg)
  have HB := hid hb
  clear hg hb HF
  go_wp2
  go_ret
  exact ⟨b, rfl, HB.out, HG.out⟩
def IdxDone (w w' : World) (T : List TE) (k : List Int) (r : Ending) : Prop :=
  ∃ v : Int, r = .returned (.int .i64 v) ∧ Grew w w' ∧ ((v = -1 ∧ ∀ x ∈ T, ¬ FitsE x k) ∨ ∃ (f : Nat) (x : TE), v = (f : Int) ∧ Hit1 T k f x)
set_option maxHeartbeats 2000000 in
set_option maxRecDepth 20000 in
theorem idx_any {w : World} {B : Nat} {la : Option Addr} {n cap : Nat} {T : List TE} {kb : Nat} {ka : Option Addr} {kn kc : Nat} {k : List Int} (hr : MRow w B la n cap T) (hg : ∀ x ∈ T, x.ks.length = kn ∧ x.ms.length = kn) (hn : n ≤ 100000) (hk : Has .u64 w ka kn k) (hb : w.cell? ⟨kb, 0, none⟩ = some (.slice ka kn kc)) :
    Calls Tryz.prog 129 #[.slice la n cap, .func (.func 130) #[] #[.pointer (some ⟨kb, 0, none⟩)]] w fun r w' => IdxDone w w' T k r := by
  have HR := hid hr
  have HG := hid hg
  have HK := hid hk
  have HKB := hid hb
  have hlen := hr.len
  clear hr hg hk hb
  go_enter Tryz.func129, Tryz.ntmps129
  go_wp2
  go_loopw [8] (fun q wr => ∃ i : Nat, i ≤ n ∧ q = .int .i64 i ∧ Hid (∀ t y, t < i → T[t]? = some y → ¬ FitsE y k) ∧ Hid (Grew w wr)) (fun q _ => n - (intOf q).toNat)
  case atStart => exact ⟨0, Nat.zero_le _, rfl, fun t y ht => absurd ht (Nat.not_lt_zero _), grew_refl _⟩
  case round =>
    obtain ⟨i, hi, rfl, hz, hgr⟩ := hrel
    by_cases hlt : i < n
    · obtain ⟨g, d, y, rfl, hy, hat, hgd, -, -⟩ := (HR.out.step hgr.out.below).at i hlt
      have hxl := HG.out y (List.mem_of_getElem? hy)
      obtain ⟨c0, c1, c2, c3, c4, c5⟩ := hat
      have ek : d.kn = kn := by rw [← hxl.1, hgd.ks.1]
      have em : d.mn = kn := by rw [← hxl.2, hgd.ms.1]
      have q0 := (hgr.out.below.cell (p := ⟨kb, 0, none⟩) (show kb < w.heap.size from World.block_lt_of_cell? w _ HKB.out)).trans HKB.out
      have HC := hid (find1_any hgd em ek (HK.out.step hgr.out.below) q0)
      have hin : (i : Int) < (n : Int) := by omega
      have HY := hid hy
      clear hgd hxl ek em q0 hy
      go_wp2_with fail
      refine HC.out.mono ?_
      rintro r w1 ⟨b, rfl, hb, hg1⟩
      have HG1 := hid (hgr.out.trans hg1)
      cases b with
      | true =>
        have HF : Hid (Hit1 T k i y) := ⟨HY.out, hb.1 rfl, fun t z ht hz' => hz.out t z ht hz'⟩
        clear hg1 hb HC
        go_wp2
        go_ret
        exact ⟨i, rfl, HG1.out, .inr ⟨i, y, rfl, HF.out⟩⟩
      | false =>
        have HF : Hid (∀ t z, t < i + 1 → T[t]? = some z → ¬ FitsE z k) := fun t z ht hz' => by
          by_cases et : t = i
          · subst et
            rw [HY.out] at hz'
            cases hz'
            intro hf
            have := hb.2 hf
            cases this
          · exact hz.out t z (by omega) hz'
        clear hg1 hb HC
        go_wp2
        go_roundw
        case rel => exact ⟨i + 1, by omega, by go_num, HF.out, HG1.out⟩
        case measure => simp [intOf]; omega
    · have ei : i = n := by omega
      subst ei
      have HF : Hid (∀ x ∈ T, ¬ FitsE x k) := fun x hx => by
        obtain ⟨t, ht, rfl⟩ := List.getElem_of_mem hx
        exact hz.out t _ (by omega) (List.getElem?_eq_getElem ht)
      go_wp2
      go_ret
      exact ⟨-1, rfl, hgr.out, .inl ⟨rfl, HF.out⟩⟩
end Go.Proofs.YtffbnggdckjogaaGreat

namespace Go.Proofs.YtffbnggdckjogaaGreat
open Go.RowKit Mth
set_option maxHeartbeats 4000000 in
set_option maxRecDepth 20000 in
theorem isEntry_any {w : World} {p : Nat} {keys : Int} {f : MD} {e : TE} (hp : w.cell? ⟨p, 0, none⟩ = some (.int .i64 keys)) (hf : f.good w e) :
    Calls Tryz.prog 120 #[.pointer (some ⟨p, 0, none⟩), f.ev] w fun r w' => AskDone w w' (GoodM keys e) r := by
  have hb0 := bl_alloc (o := f.ec) (Below.refl w.heap.size w)
  have hpl : p < w.heap.size := World.block_lt_of_cell? w _ hp
  have p0 := (hb0.cell (p := ⟨p, 0, none⟩) hpl).trans hp
  have HK := hid (hf.ks.step hb0)
  have HM := hid (hf.ms.step hb0)
  have hkl := hf.ks.1
  have hml := hf.ms.1
  have HPR := hid hf.pr
  have hk3 := hf.ks3
  have HGR := hid (fun s => grew_alloc w f.ec s)
  have SX : Six (w.alloc f.ec) w.heap.size (.slice f.ka f.kn f.kc) (.slice f.ma f.mn f.mc) (.int .i64 f.ln) (.int .i64 f.pr) (.int .i64 f.ac) (.slice f.a f.n f.c) := six_new w _ _ _ _ _ _ _
  obtain ⟨k0, k1, -, k3, -, -, -, -, -, -, -, -⟩ := SX
  have hne : ¬ w.heap.size = p := by omega
  clear hf hb0 hp hpl
  have HNO : Hid (¬ GoodM keys e → ∀ s, AskDone w ((w.alloc f.ec).drewN s) (GoodM keys e) (.returned (.bool false))) := fun h s => ⟨false, rfl, ⟨fun h => (by cases h), fun h' => absurd h' h⟩, HGR.out s⟩
  go_enter Tryz.func120, Tryz.ntmps120
  go_wp2_with fail
  generalize w.alloc f.ec = w0 at *
  generalize w.heap.size = b at *
  by_cases h1 : (f.kn : Int) = keys
  · have d1 : ((f.kn : Int) != keys) = false := by simpa using h1
    by_cases h2 : (f.mn : Int) = keys
    · have d2 : ((f.mn : Int) != keys) = false := by simpa using h2
      by_cases h3 : f.pr < 0
      · have d3 : decide (f.pr < 0) = true := decide_eq_true h3
        have HE := hid (HNO.out (fun h => by have := h.2.2.1; have := HPR.out; omega))
        clear HNO h1 h2 h3
        go_quiet (fail)
        go_wp2
        go_ret
        exact HE.out _
      · have d3 : decide (f.pr < 0) = false := decide_eq_false h3
        by_cases h4 : 1000 < f.pr
        · have d4 : decide (1000 < f.pr) = true := decide_eq_true h4
          have HE := hid (HNO.out (fun h => by have := h.2.2.2.1; have := HPR.out; omega))
          clear HNO h1 h2 h3 h4
          go_quiet (fail)
          go_wp2
          go_ret
          exact HE.out _
        · have d4 : decide (1000 < f.pr) = false := decide_eq_false h4
          have HW := hid (show Within e → GoodM keys e from fun h => ⟨by omega, by omega, by have := HPR.out; omega, by have := HPR.out; omega, h⟩)
          have hmk : f.mn = f.kn := by omega
          clear h1 h2 h3 h4
          go_quiet (fail)
          clear d1 d2 d3 d4
          have HB : Hid (∀ s, Grew w ((w0.drewN nq).drewN s)) := fun s => by rw [World.drewN_drewN]; exact HGR.out _
          have HNO' : Hid (¬ GoodM keys e → AskDone w (w0.drewN nq) (GoodM keys e) (.returned (.bool false))) := fun h => HNO.out h nq
          have q0 : (w0.drewN nq).cell? ⟨b, 0, none⟩ = _ := k0
          have q1 : (w0.drewN nq).cell? ⟨b, 1, none⟩ = _ := k1
          have K1 := hid (show Has .u64 (w0.drewN nq) f.ka f.kn e.ks from HK.out)
          have M1 := hid (show Has .u64 (w0.drewN nq) f.ma f.mn e.ms from HM.out)
          clear k0 k1 HK HM HNO
          have G1 := hid (HGR.out nq)
          generalize w0.drewN nq = w1 at *
          go_wp2_with fail
          go_loop [38] (fun q => ∃ i : Nat, i ≤ f.kn ∧ q = .int .i64 i ∧ Hid (∀ t, t < i → nz e.ks t &&& nz e.ms t = nz e.ks t)) (fun q => f.kn - (intOf q).toNat)
          case atStart => exact ⟨0, Nat.zero_le _, rfl, fun t ht => absurd ht (Nat.not_lt_zero _)⟩
          case round =>
            obtain ⟨i, hi, rfl, hz⟩ := hrel
            by_cases hlt : i < f.kn
            · obtain ⟨p1, o1, ea, -, hc1⟩ := K1.out.some (by omega)
              obtain ⟨p3, o3, ea3, -, hc3⟩ := M1.out.some (by omega)
              rw [ea] at q0 ⊢
              rw [ea3] at q1
              have E4 := hid (within_nums (n64_at K1.out i) (n64_at M1.out i))
              have c1 := hc1 i hlt
              have c3 := hc3 i (by omega)
              have E5 : Hid (bits .andNot .u64 (e.ks.getD i 0) (e.ms.getD i 0) = 0 ↔ nz e.ks i &&& nz e.ms i = nz e.ks i) := E4.out
              generalize e.ks.getD i 0 = v1 at *
              generalize e.ms.getD i 0 = v2 at *
              generalize hv : bits .andNot .u64 v1 v2 = v3 at *
              have hin : (i : Int) < (f.kn : Int) := by omega
              have him : (i : Int) < (f.mn : Int) := by omega
              clear hc1 hc3 E4 K1 M1
              by_cases h0 : v3 = 0
              · have HN : Hid (∀ t, t < i + 1 → nz e.ks t &&& nz e.ms t = nz e.ks t) := fun t ht => by
                  by_cases et : t = i
                  · subst et; exact E5.out.1 h0
                  · exact hz.out t (by omega)
                have hd : (v3 != 0) = false := by simpa using h0
                clear h0
                go_wp2
                go_round
                case rel => exact ⟨i + 1, by omega, by go_num, HN.out⟩
                case measure => simp [intOf]; omega
              · have HN := hid (HNO'.out (fun hm => h0 (E5.out.2 (hm.2.2.2.2 i (by omega)))))
                have hd : (v3 != 0) = true := by simpa using h0
                clear h0
                go_wp2
                go_ret
                exact HN.out
            · have HN := hid (HW.out (fun t ht => hz.out t (by omega)))
              go_wp2
              go_ret
              exact ⟨true, rfl, ⟨fun _ => HN.out, fun _ => rfl⟩, G1.out⟩
    · have d2 : ((f.mn : Int) != keys) = true := by simpa using h2
      have HE := hid (HNO.out (fun h => h2 (by have := h.2.1; omega)))
      clear HNO h1 h2
      go_quiet (fail)
      go_wp2
      go_ret
      exact HE.out _
  · have d1 : ((f.kn : Int) != keys) = true := by simpa using h1
    have HE := hid (HNO.out (fun h => h1 (by have := h.1; omega)))
    clear HNO h1
    go_quiet (fail)
    go_wp2
    go_ret
    exact HE.out _
end Go.Proofs.YtffbnggdckjogaaGreat
