/- What SameNums, LessNums, one and ahead do of entries with masks. -/
import Derived.Test.YtlnkfgdepddmlacKMay
namespace Go.Proofs.Ytlnkfgdepddmlac
open Go.RowKit Mth

def SameAsk (w w' : World) (P : Prop) (e : Ending) : Prop := ∃ b : Bool, e = .returned (.bool b) ∧ (b = true ↔ P) ∧ ∃ s, w' = w.drewN s

set_option maxHeartbeats 1000000 in
set_option maxRecDepth 20000 in
/-- SameNums, of lists of one length -/
theorem ksame_any {w : World} {a b : Option Addr} {n : Nat} {xs ys : List Int} (c d : Nat) (hn : n ≤ 1000) (ha : Has .u64 w a n xs) (hb : Has .u64 w b n ys) :
    Calls Try.prog 48 #[.slice a n c, .slice b n d] w fun e w' => SameAsk w w' (xs = ys) e := by
  have hxl := ha.1
  have hyl := hb.1
  have HA := hid ha
  have HB := hid hb
  have hne : ((n : Int) != (n : Int)) = false := by simp
  clear ha hb
  go_enter Try.func48, Try.ntmps48
  go_wp2
  go_loopw [5] (fun q wr => ∃ i : Nat, i ≤ n ∧ q = .int .i64 i ∧ Hid (xs.take i = ys.take i) ∧ Hid (∃ s, wr = w.drewN s)) (fun q _ => n - (intOf q).toNat)
  case atStart => exact ⟨0, Nat.zero_le _, rfl, rfl, 0, rfl⟩
  case round =>
    obtain ⟨i, hi, rfl, hp, hq⟩ := hrel
    obtain ⟨s, rfl⟩ := hq
    by_cases hlt : i < n
    · obtain ⟨p1, o1, rfl, -, hc1⟩ := HA.out.some (by omega)
      obtain ⟨p2, o2, rfl, -, hc2⟩ := HB.out.some (by omega)
      have hx : xs[i]? = some (xs[i]'(by omega)) := List.getElem?_eq_getElem _
      have hy : ys[i]? = some (ys[i]'(by omega)) := List.getElem?_eq_getElem _
      have gx : xs.getD i 0 = xs[i]'(by omega) := by rw [List.getD_eq_getElem?_getD, hx]; rfl
      have gy : ys.getD i 0 = ys[i]'(by omega) := by rw [List.getD_eq_getElem?_getD, hy]; rfl
      have q1 : (w.drewN s).cell? ⟨p1, o1 + i, none⟩ = _ := hc1 i hlt
      have q2 : (w.drewN s).cell? ⟨p2, o2 + i, none⟩ = _ := hc2 i hlt
      rw [gx] at q1
      rw [gy] at q2
      generalize xs[i]'(by omega) = x at *
      generalize ys[i]'(by omega) = y at *
      have HX := hid hx
      have HY := hid hy
      have hin : (i : Int) < (n : Int) := by omega
      have HD : Hid (∀ s', ∃ s'', (w.drewN s).drewN s' = w.drewN s'') := fun s' => ⟨_, World.drewN_drewN _ _ _⟩
      clear hc1 hc2 gx gy hx hy HA HB
      generalize w.drewN s = w1 at *
      by_cases h0 : x = y
      · have hd : (x != y) = false := by simpa using h0
        have HN : Hid (xs.take (i + 1) = ys.take (i + 1)) := by
          show xs.take (i + 1) = ys.take (i + 1)
          rw [List.take_add_one, List.take_add_one, hp.out, HX.out, HY.out, h0]
        clear h0
        go_wp2_with fail
        go_big_quiet (fail)
        go_wp2
        go_roundw
        case rel => exact ⟨i + 1, by omega, by go_num, HN.out, HD.out _⟩
        case measure => simp [intOf]; omega
      · have hd : (x != y) = true := by simpa using h0
        have HN : Hid (¬ xs = ys) := fun e => h0 (by have := HX.out; rw [e, HY.out] at this; exact (Option.some.inj this).symm)
        clear h0
        go_wp2_with fail
        go_big_quiet (fail)
        go_wp2
        go_ret
        exact ⟨false, rfl, ⟨fun h => (by cases h), fun h => absurd h HN.out⟩, HD.out _⟩
    · have ei : i = n := by omega
      subst ei
      have HN : Hid (xs = ys) := by
        have h := hp.out
        rw [List.take_of_length_le (by omega), List.take_of_length_le (by omega)] at h
        exact h
      clear hp HA HB
      go_wp2
      go_ret
      exact ⟨true, rfl, ⟨fun _ => HN.out, fun _ => rfl⟩, s, rfl⟩

set_option maxHeartbeats 1000000 in
set_option maxRecDepth 20000 in
/-- LessNums, of lists of one length -/
theorem kless_any {w : World} {a b : Option Addr} {n : Nat} {xs ys : List Int} (c d : Nat) (hn : n ≤ 1000) (ha : Has .u64 w a n xs) (hb : Has .u64 w b n ys) :
    Calls Try.prog 66 #[.slice a n c, .slice b n d] w fun e w' => e = .returned (.int .i64 (lexO xs ys)) ∧ ∃ s, w' = w.drewN s := by
  have hxl := ha.1
  have hyl := hb.1
  have HA := hid ha
  have HB := hid hb
  clear ha hb
  go_enter Try.func66, Try.ntmps66
  go_wp2
  go_loopw [5] (fun q wr => ∃ i : Nat, i ≤ n ∧ q = .int .i64 i ∧ Hid (xs.take i = ys.take i) ∧ Hid (∃ s, wr = w.drewN s)) (fun q _ => n - (intOf q).toNat)
  case atStart => exact ⟨0, Nat.zero_le _, rfl, rfl, 0, rfl⟩
  case round =>
    obtain ⟨i, hi, rfl, hp, hq⟩ := hrel
    obtain ⟨s, rfl⟩ := hq
    by_cases hlt : i < n
    · obtain ⟨p1, o1, rfl, -, hc1⟩ := HA.out.some (by omega)
      obtain ⟨p2, o2, rfl, -, hc2⟩ := HB.out.some (by omega)
      have hx : xs[i]? = some (xs[i]'(by omega)) := List.getElem?_eq_getElem _
      have hy : ys[i]? = some (ys[i]'(by omega)) := List.getElem?_eq_getElem _
      have gx : xs.getD i 0 = xs[i]'(by omega) := by rw [List.getD_eq_getElem?_getD, hx]; rfl
      have gy : ys.getD i 0 = ys[i]'(by omega) := by rw [List.getD_eq_getElem?_getD, hy]; rfl
      have q1 : (w.drewN s).cell? ⟨p1, o1 + i, none⟩ = _ := hc1 i hlt
      have q2 : (w.drewN s).cell? ⟨p2, o2 + i, none⟩ = _ := hc2 i hlt
      rw [gx] at q1
      rw [gy] at q2
      generalize xs[i]'(by omega) = x at *
      generalize ys[i]'(by omega) = y at *
      have HLX := hid (lexO_at hp.out hx hy)
      have hin : (i : Int) < (n : Int) := by omega
      have HD : Hid (∀ s', ∃ s'', (w.drewN s).drewN s' = w.drewN s'') := fun s' => ⟨_, World.drewN_drewN _ _ _⟩
      clear hc1 hc2 gx gy hx hy hp HA HB
      generalize w.drewN s = w1 at *
      by_cases h1 : x < y
      · have h1d : decide (x < y) = true := decide_eq_true h1
        have HN : Hid (lexO xs ys = -1) := by
          have h := HLX.out.1 (by unfold ord; rw [if_pos h1]; decide)
          unfold ord at h; rw [if_pos h1] at h; exact h
        go_wp2_with fail
        go_big_quiet (fail)
        go_wp2
        go_ret
        exact ⟨by rw [HN.out]; rfl, HD.out _⟩
      · have h1d : decide (x < y) = false := decide_eq_false h1
        go_wp2_with fail
        go_big_quiet (fail)
        go_wp2_with fail
        have r1 : (w1.drewN nq).cell? ⟨p1, o1 + i, none⟩ = _ := q1
        have r2 : (w1.drewN nq).cell? ⟨p2, o2 + i, none⟩ = _ := q2
        have HD2 : Hid (∀ s', ∃ s'', (w1.drewN nq).drewN s' = w.drewN s'') := fun s' => by rw [World.drewN_drewN]; exact HD.out _
        clear q1 q2 h1d
        generalize w1.drewN nq = w2 at *
        by_cases h2 : y < x
        · have h2d : decide (y < x) = true := decide_eq_true h2
          have HN : Hid (lexO xs ys = 1) := by
            have h := HLX.out.1 (by unfold ord; rw [if_neg (show ¬ x < y by omega), if_pos h2]; decide)
            unfold ord at h; rw [if_neg (show ¬ x < y by omega), if_pos h2] at h; exact h
          go_big_quiet (fail)
          go_wp2
          go_ret
          exact ⟨by rw [HN.out]; rfl, HD2.out _⟩
        · have h2d : decide (y < x) = false := decide_eq_false h2
          have HN := hid (HLX.out.2 (by unfold ord; rw [if_neg (show ¬ x < y by omega), if_neg h2]))
          go_big_quiet (fail)
          go_wp2
          go_roundw
          case rel => exact ⟨i + 1, by omega, by go_num, HN.out, HD2.out _⟩
          case measure => simp [intOf]; omega
    · have ei : i = n := by omega
      subst ei
      have HN := hid (lexO_end (a := xs) (b := ys) (by omega) (by rw [hxl]; exact hp.out))
      clear hp HA HB
      go_wp2
      go_ret
      exact ⟨by rw [HN.out]; rfl, s, rfl⟩

set_option maxHeartbeats 4000000 in
set_option maxRecDepth 20000 in
/-- one: do two entries stand in the same place? -/
theorem kone_any {w : World} {r : Nat} {keys most : Int} {d f : MD} {x e : TE} (hh : KHead w r keys most) (hd : d.good w x) (hf : f.good w e) (hk : f.kn = d.kn) (hm : f.mn = d.mn) :
    Calls Try.prog 65 #[.pointer (some ⟨r, 0, none⟩), d.ev, f.ev] w fun q w' => AskDone w w' (SameP x e) q := by
  have hb0 := bl_alloc (o := f.ec) (bl_alloc (o := d.ec) (Below.refl w.heap.size w))
  have c0 := (hh.step hb0).c0
  have hrl : r < w.heap.size := World.block_lt_of_cell? w _ hh.c0
  have HKD := hid (hd.ks.step hb0)
  have HKF := hid (by have h := hf.ks.step hb0; rw [hk] at h; exact h : Has .u64 ((w.alloc d.ec).alloc f.ec) f.ka d.kn e.ks)
  have HMD := hid (hd.ms.step hb0)
  have HMF := hid (by have h := hf.ms.step hb0; rw [hm] at h; exact h : Has .u64 ((w.alloc d.ec).alloc f.ec) f.ma d.mn e.ms)
  have h3 := hd.ks3
  have h4 := hd.ms3
  have HP1 := hid hd.pr
  have HP2 := hid hf.pr
  have T1 : Six ((w.alloc d.ec).alloc f.ec) w.heap.size (.slice d.ka d.kn d.kc) (.slice d.ma d.mn d.mc) (.int .i64 d.ln) (.int .i64 d.pr) (.int .i64 d.ac) (.slice d.a d.n d.c) := Six.step (six_new w _ _ _ _ _ _ _) (bl_alloc (Below.refl _ _))
  have T2 : Six ((w.alloc d.ec).alloc f.ec) (w.alloc d.ec).heap.size (.slice f.ka f.kn f.kc) (.slice f.ma f.mn f.mc) (.int .i64 f.ln) (.int .i64 f.pr) (.int .i64 f.ac) (.slice f.a f.n f.c) := six_new _ _ _ _ _ _ _ _
  rw [show (w.alloc d.ec).heap.size = w.heap.size + 1 from by simp] at T2
  obtain ⟨k0, k1, -, k3, -, -, -, -, -, -, -, -⟩ := T1
  obtain ⟨l0, l1, -, l3, -, -, -, -, -, -, -, -⟩ := T2
  have HGR := hid (fun s => grew_alloc2 w d.ec f.ec s)
  have n1 : ¬ w.heap.size = r := by omega
  have n2 : ¬ w.heap.size + 1 = r := by omega
  clear hd hf hb0 hh hrl
  rw [hk] at l0
  rw [hm] at l1
  clear hk hm
  go_enter Try.func65, Try.ntmps65
  by_cases hp : d.pr = f.pr
  · have hpd : (d.pr != f.pr) = false := by simpa using hp
    have HPE : Hid (x.pr = e.pr) := by show x.pr = e.pr; rw [← HP1.out, ← HP2.out]; exact hp
    clear hp
    go_wp2_with fail
    refine (ksame_any _ _ h4 HMD.out HMF.out).mono ?_
    rintro q w1 ⟨b, rfl, hb, s, rfl⟩
    cases b with
    | false =>
      have HN : Hid (¬ SameP x e) := fun h => by have := hb.2 h.2.2; cases this
      clear hb
      go_wp2
      go_ret
      exact ⟨false, rfl, ⟨fun h => (by cases h), fun h => absurd h HN.out⟩, HGR.out _⟩
    | true =>
      have HM := hid (hb.1 rfl)
      clear hb
      go_wp2_with fail
      refine (ksame_any _ _ h3 (show Has .u64 (((w.alloc d.ec).alloc f.ec).drewN s) _ _ _ from HKD.out) (show Has .u64 (((w.alloc d.ec).alloc f.ec).drewN s) _ _ _ from HKF.out)).mono ?_
      rintro q w1 ⟨b, rfl, hb, s', rfl⟩
      have HB : Hid (b = true ↔ SameP x e) := ⟨fun h => ⟨HPE.out, hb.1 h, HM.out⟩, fun h => hb.2 h.2.1⟩
      clear hb
      go_wp2
      go_ret
      exact ⟨b, rfl, HB.out, HGR.out _⟩
  · have hpd : (d.pr != f.pr) = true := by simpa using hp
    have HN : Hid (¬ SameP x e) := fun h => hp (by rw [HP1.out, HP2.out]; exact h.1)
    clear hp
    go_wp2
    go_ret
    exact ⟨false, rfl, ⟨fun h => (by cases h), fun h => absurd h HN.out⟩, HGR.out 0⟩

theorem cmp_pr_ne {x e : TE} (h : ¬ x.pr = e.pr) : cmpE x e < 0 ↔ x.pr < e.pr := by
  unfold cmpE
  rw [if_pos (fun h0 => h ((ord_eq _ _).1 h0)), ord_lt]

theorem cmp_ks_ne {x e : TE} (h : x.pr = e.pr) (h1 : lexO x.ks e.ks ≠ 0) : cmpE x e = lexO x.ks e.ks := by
  unfold cmpE
  rw [if_neg (by simp [ord_eq, h]), if_pos h1]

theorem cmp_ms {x e : TE} (h : x.pr = e.pr) (h1 : lexO x.ks e.ks = 0) : cmpE x e = lexO x.ms e.ms := by
  unfold cmpE
  rw [if_neg (by simp [ord_eq, h]), if_neg (by simp [h1])]

set_option maxHeartbeats 4000000 in
set_option maxRecDepth 20000 in
/-- ahead: does an entry stand ahead of another? -/
theorem kahead_any {w : World} {d f : MD} {x e : TE} (hd : d.good w x) (hf : f.good w e) (hk : f.kn = d.kn) (hm : f.mn = d.mn) (hln : d.ln = f.ln) :
    Calls Try.prog 50 #[d.ev, f.ev] w fun q w' => AskDone w w' (cmpE x e < 0) q := by
  have hb0 := bl_alloc (o := f.ec) (bl_alloc (o := d.ec) (Below.refl w.heap.size w))
  have HKD := hid (hd.ks.step hb0)
  have HKF := hid (by have h := hf.ks.step hb0; rw [hk] at h; exact h : Has .u64 ((w.alloc d.ec).alloc f.ec) f.ka d.kn e.ks)
  have HMD := hid (hd.ms.step hb0)
  have HMF := hid (by have h := hf.ms.step hb0; rw [hm] at h; exact h : Has .u64 ((w.alloc d.ec).alloc f.ec) f.ma d.mn e.ms)
  have h3 := hd.ks3
  have h4 := hd.ms3
  have HP1 := hid hd.pr
  have HP2 := hid hf.pr
  have T1 : Six ((w.alloc d.ec).alloc f.ec) w.heap.size (.slice d.ka d.kn d.kc) (.slice d.ma d.mn d.mc) (.int .i64 d.ln) (.int .i64 d.pr) (.int .i64 d.ac) (.slice d.a d.n d.c) := Six.step (six_new w _ _ _ _ _ _ _) (bl_alloc (Below.refl _ _))
  have T2 : Six ((w.alloc d.ec).alloc f.ec) (w.alloc d.ec).heap.size (.slice f.ka f.kn f.kc) (.slice f.ma f.mn f.mc) (.int .i64 f.ln) (.int .i64 f.pr) (.int .i64 f.ac) (.slice f.a f.n f.c) := six_new _ _ _ _ _ _ _ _
  rw [show (w.alloc d.ec).heap.size = w.heap.size + 1 from by simp] at T2
  obtain ⟨k0, k1, k2, k3, -, -, -, -, -, -, -, -⟩ := T1
  obtain ⟨l0, l1, l2, l3, -, -, -, -, -, -, -, -⟩ := T2
  have HGR := hid (fun s => grew_alloc2 w d.ec f.ec s)
  have hlne : (d.ln != f.ln) = false := by simpa using hln
  clear hd hf hb0 hln
  rw [hk] at l0
  rw [hm] at l1
  clear hk hm
  go_enter Try.func50, Try.ntmps50
  by_cases hp : d.pr = f.pr
  · have hpd : (d.pr != f.pr) = false := by simpa using hp
    have HPE : Hid (x.pr = e.pr) := by show x.pr = e.pr; rw [← HP1.out, ← HP2.out]; exact hp
    clear hp
    go_wp2_with fail
    refine (kless_any _ _ h3 HKD.out HKF.out).mono ?_
    rintro q w1 ⟨rfl, s, rfl⟩
    by_cases h0 : lexO x.ks e.ks = 0
    · have HC := hid (cmp_ms HPE.out h0)
      rw [h0]
      clear h0
      go_wp2_with fail
      refine (kless_any _ _ h4 (show Has .u64 (((w.alloc d.ec).alloc f.ec).drewN s) _ _ _ from HMD.out) (show Has .u64 (((w.alloc d.ec).alloc f.ec).drewN s) _ _ _ from HMF.out)).mono ?_
      rintro q w1 ⟨rfl, s', rfl⟩
      generalize lexO x.ms e.ms = o at *
      go_wp2
      go_ret
      exact ⟨decide (o < 0), rfl, by rw [decide_eq_true_iff, HC.out], HGR.out _⟩
    · have HC := hid (cmp_ks_ne HPE.out h0)
      have hod : (lexO x.ks e.ks != 0) = true := by simpa using h0
      clear h0
      generalize lexO x.ks e.ks = o at *
      go_wp2
      go_ret
      exact ⟨decide (o < 0), rfl, by rw [decide_eq_true_iff, HC.out], HGR.out _⟩
  · have hpd : (d.pr != f.pr) = true := by simpa using hp
    have HC := hid (cmp_pr_ne (x := x) (e := e) (fun h => hp (by rw [HP1.out, HP2.out]; exact h)))
    have HD : Hid (decide (d.pr < f.pr) = true ↔ cmpE x e < 0) := by
      show _ ↔ _
      rw [decide_eq_true_iff, HC.out, HP1.out, HP2.out]
    clear hp
    go_wp2
    go_ret
    exact ⟨decide (d.pr < f.pr), rfl, HD.out, HGR.out 0⟩
end Go.Proofs.Ytlnkfgdepddmlac
