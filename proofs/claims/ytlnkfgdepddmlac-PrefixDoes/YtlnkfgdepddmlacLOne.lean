/- What OwnEntry, oneKey and hitOf do. -/
import Derived.Test.YtlnkfgdepddmlacLOwn
import Derived.Test.YtlnkfgdepddmlacLOpen
import Derived.Deep.CutRange
namespace Go.Proofs.Ytlnkfgdepddmlac
open Go.RowKit Mth

abbrev E0 : Obj := EC none 0 0 none 0 0 0 0 0 none 0 0

/-- a list of its own is not in an older block -/
theorem Lst.set6 {w : World} {B r : Nat} {a : Option Addr} {n c : Nat} {zs : List Int} (h : Lst w B a n c zs) (hr : r < B) (v0 v1 v2 v3 v4 v5 : Value) {B' : Nat} (hB : B' ≤ B) :
    Lst ((((((w.setCell ⟨r, 0, none⟩ v0).setCell ⟨r, 1, none⟩ v1).setCell ⟨r, 2, none⟩ v2).setCell ⟨r, 3, none⟩ v3).setCell ⟨r, 4, none⟩ v4).setCell ⟨r, 5, none⟩ v5) B' a n c zs := by
  obtain ⟨h1, h2, h3, f⟩ := h
  exact ⟨h1, h2, ((((((h3.far f hr v0).far f hr v1).far f hr v2).far f hr v3).far f hr v4).far f hr v5), f.mono hB⟩

theorem below_six {B : Nat} {w w' : World} {r : Nat} (h : Below B w w') (hr : B ≤ r) (v0 v1 v2 v3 v4 v5 : Value) :
    Below B w ((((((w'.setCell ⟨r, 0, none⟩ v0).setCell ⟨r, 1, none⟩ v1).setCell ⟨r, 2, none⟩ v2).setCell ⟨r, 3, none⟩ v3).setCell ⟨r, 4, none⟩ v4).setCell ⟨r, 5, none⟩ v5) :=
  (((((h.setCell hr v0).setCell hr v1).setCell hr v2).setCell hr v3).setCell hr v4).setCell hr v5

theorem Six.far {w : World} {s r o : Nat} {x0 x1 x2 x3 x4 x5 : Value} (t : Six w r x0 x1 x2 x3 x4 x5) (h : s ≠ r) (v : Value) : Six (w.setCell ⟨s, o, none⟩ v) r x0 x1 x2 x3 x4 x5 := by
  have hne : ∀ i, (⟨s, o, none⟩ : Addr) ≠ ⟨r, i, none⟩ := fun i e => h (congrArg Addr.block e)
  have cs : ∀ i, (w.setCell ⟨s, o, none⟩ v).cell? ⟨r, i, none⟩ = w.cell? ⟨r, i, none⟩ := fun i => World.cell?_setCell_other _ _ _ _ (hne i)
  exact ⟨(cs 0).trans t.k0, (cs 1).trans t.k1, (cs 2).trans t.k2, (cs 3).trans t.k3, (cs 4).trans t.k4, (cs 5).trans t.k5, by simpa using t.f0, by simpa using t.f1, by simpa using t.f2, by simpa using t.f3, by simpa using t.f4, by simpa using t.f5⟩

/-- Keys, Masks and Prio were written -/
theorem six_three {w : World} {s : Nat} {x0 x1 x2 x3 x4 x5 : Value} (t : Six w s x0 x1 x2 x3 x4 x5) (v0 v1 v3 : Value) : Six (((w.setCell ⟨s, 0, none⟩ v0).setCell ⟨s, 1, none⟩ v1).setCell ⟨s, 3, none⟩ v3) s v0 v1 x2 v3 x4 x5 := by
  have k0 := t.k0
  have k1 := t.k1
  have k2 := t.k2
  have k3 := t.k3
  have k4 := t.k4
  have k5 := t.k5
  have f0 := t.f0
  have f1 := t.f1
  have f2 := t.f2
  have f3 := t.f3
  have f4 := t.f4
  have f5 := t.f5
  refine ⟨?_, ?_, ?_, ?_, ?_, ?_, by simpa using f0, by simpa using f1, by simpa using f2, by simpa using f3, by simpa using f4, by simpa using f5⟩ <;> simp [go_sem, k0, k1, k2, k3, k4, k5]

theorem six_first {w : World} {s : Nat} {x0 x1 x2 x3 x4 x5 : Value} (t : Six w s x0 x1 x2 x3 x4 x5) (v0 : Value) : Six (w.setCell ⟨s, 0, none⟩ v0) s v0 x1 x2 x3 x4 x5 := by
  have k0 := t.k0
  have k1 := t.k1
  have k2 := t.k2
  have k3 := t.k3
  have k4 := t.k4
  have k5 := t.k5
  have f0 := t.f0
  have f1 := t.f1
  have f2 := t.f2
  have f3 := t.f3
  have f4 := t.f4
  have f5 := t.f5
  refine ⟨?_, ?_, ?_, ?_, ?_, ?_, by simpa using f0, by simpa using f1, by simpa using f2, by simpa using f3, by simpa using f4, by simpa using f5⟩ <;> simp [go_sem, k0, k1, k2, k3, k4, k5]

/-- a list of one number in a new block -/
theorem lst_one (w : World) (x : Int) (h : 0 ≤ x ∧ x < 18446744073709551616) (B : Nat) (hB : B ≤ w.heap.size) : Lst (w.alloc (.cells #[.int .u64 x] 38)) B (some ⟨w.heap.size, 0, none⟩) 1 1 [x] := by
  refine ⟨by simp, Nat.le_refl _, ⟨rfl, by intro n hn; simp at hn; subst hn; exact wf_u64 _ h, .inr ⟨_, _, rfl, by simp, ?_⟩⟩, fun _ => ⟨_, _, rfl, hB, rfl⟩⟩
  intro i hi
  match i, hi with
  | 0, _ => simp

theorem Lst.step {w w' : World} {B : Nat} {a : Option Addr} {n c : Nat} {zs : List Int} (h : Lst w B a n c zs) (hb : Below w.heap.size w w') : Lst w' B a n c zs := h.moved (moved_below hb)

theorem Lst.far {w : World} {B r o : Nat} {a : Option Addr} {n c : Nat} {zs : List Int} (h : Lst w B a n c zs) (hr : r < B) (v : Value) : Lst (w.setCell ⟨r, o, none⟩ v) B a n c zs :=
  ⟨h.1, h.2.1, h.2.2.1.far h.2.2.2 hr v, h.2.2.2⟩

set_option maxHeartbeats 1000000 in
set_option maxRecDepth 20000 in
theorem ownEntry_any {w : World} {ka ma a : Option Addr} {kn kc mn mc n c : Nat} {ln pr ac : Int} {ks ms xs : List Int} (hkn : ka = none → kn = 0 ∧ kc = 0) (hk : Has .u64 w ka kn ks) (hk3 : kn ≤ 1000) (hmn : ma = none → mn = 0 ∧ mc = 0) (hm : Has .u64 w ma mn ms) (hm3 : mn ≤ 1000) (hxn : a = none → n = 0 ∧ c = 0) (hx : Has .u64 w a n xs) (hx3 : n ≤ 1000) :
    Calls Try.prog 28 #[EV ka kn kc ma mn mc ln pr ac a n c] w fun e w' => OwnDone w w' kn mn n ln pr ac ks ms xs e := by
  have hb0 : Below w.heap.size w ((w.alloc (EC ka kn kc ma mn mc ln pr ac a n c)).alloc E0) := bl_alloc (bl_alloc (Below.refl _ _))
  have HO := hid (own_any (ln := ln) (pr := pr) (ac := ac) hkn (hk.step hb0) hk3 hmn (hm.step hb0) hm3 hxn (hx.step hb0) hx3)
  have hR := six_new (w.alloc (EC ka kn kc ma mn mc ln pr ac a n c)) (.slice none 0 0) (.slice none 0 0) (.int .i64 0) (.int .i64 0) (.int .i64 0) (.slice none 0 0) 33
  rw [show (w.alloc (EC ka kn kc ma mn mc ln pr ac a n c)).heap.size = w.heap.size + 1 from by simp] at hR
  have HB0 := hid hb0
  have HR := hid hR
  clear hk hm hx hkn hmn hxn hb0 hR
  go_enter Try.func28, Try.ntmps28
  go_wp2_with fail
  refine HO.out.mono ?_
  rintro e w2 ⟨ak, ck, am, cm, aa, ca, rfl, lk, lm, la, hb2⟩
  have hS0 := HR.out.step hb2
  have hsz : ((w.alloc (EC ka kn kc ma mn mc ln pr ac a n c)).alloc E0).heap.size = w.heap.size + 2 := by simp
  rw [hsz] at lk lm la
  have hS := six_set hS0 (.slice ak kn ck) (.slice am mn cm) (.int .i64 ln) (.int .i64 pr) (.int .i64 ac) (.slice aa n ca)
  have HE : Hid (OwnDone w _ kn mn n ln pr ac ks ms xs (.returned (EV ak kn ck am mn cm ln pr ac aa n ca))) := ⟨ak, ck, am, cm, aa, ca, rfl, lk.set6 (r := w.heap.size + 1) (by omega) (.slice ak kn ck) (.slice am mn cm) (.int .i64 ln) (.int .i64 pr) (.int .i64 ac) (.slice aa n ca) (by omega), lm.set6 (by omega) _ _ _ _ _ _ (by omega), la.set6 (by omega) _ _ _ _ _ _ (by omega), below_six (bl_step HB0.out hb2) (by omega) _ _ _ _ _ _⟩
  obtain ⟨k0, k1, k2, k3, k4, k5, f0, f1, f2, f3, f4, f5⟩ := hS0
  obtain ⟨s0, s1, s2, s3, s4, s5, _, _, _, _, _, _⟩ := hS
  clear lk lm la hb2 HR HB0 HO
  go_wp2
  exact bodyPost_ret (v := EV ak kn ck am mn cm ln pr ac aa n ca) (by simp [results, Try.results28, go_sem, s0, s1, s2, s3, s4, s5]) rfl HE.out

set_option maxHeartbeats 400000 in
set_option maxRecDepth 20000 in
theorem hitOf_any (k m a : Option Addr) (nk ck nm cm na ca : Nat) (x y z : Int) (w : World) :
    Calls Try.prog 12 #[EV k nk ck m nm cm x y z a na ca] w fun e w' => e = .returned (.agg #[.int .i64 z, .slice a na ca]) ∧ Below w.heap.size w w' := by
  go_enter Try.func12, Try.ntmps12
  go_wp2
  exact bodyPost_ret (v := .agg #[.int .i64 z, .slice a na ca]) (by simp [results, Try.results12, go_sem]) rfl ⟨rfl, bl_alloc (bl_alloc (Below.refl _ _))⟩

/-- the first number of a list, or 0 -/
def fst (ks : List Int) : Nat := (ks.getD 0 0).toNat

def OneDone (w w' : World) (n : Nat) (ln ac : Int) (ks xs : List Int) (e : Ending) : Prop :=
  ∃ g off ck aa ca, e = .returned (EV (some ⟨g, off, none⟩) 1 ck none 0 0 ln 0 ac aa n ca) ∧ Lst w' w.heap.size (some ⟨g, off, none⟩) 1 ck [(fst ks : Int)] ∧ Lst w' w.heap.size aa n ca xs ∧ Below w.heap.size w w'

theorem lst_first {w : World} {B : Nat} {b off kn ck : Nat} {ks : List Int} (h : Lst w B (some ⟨b, off, none⟩) kn ck ks) (h0 : 0 < kn) : Lst w B (some ⟨b, off, none⟩) 1 ck [(fst ks : Int)] := by
  obtain ⟨_, h2, h3, f⟩ := h
  obtain ⟨b', off', e, hlt, hc⟩ := h3.some h0
  simp only [Option.some.injEq, Addr.mk.injEq, and_true] at e
  obtain ⟨rfl, rfl⟩ := e
  have hl := h3.1
  have hm : ks.getD 0 0 ∈ ks := by
    rw [List.getD_eq_getElem?_getD, List.getElem?_eq_getElem (by omega)]
    exact List.getElem_mem _
  have hn := h3.nums _ hm
  have e : ((fst ks : Nat) : Int) = ks.getD 0 0 := by unfold fst; omega
  refine ⟨by simp, by omega, ⟨rfl, fun x hx => ?_, .inr ⟨b, off, rfl, hlt, fun i hi => ?_⟩⟩, fun _ => ?_⟩
  · simp only [List.mem_singleton] at hx
    rw [hx, e]
    exact h3.2.1 _ hm
  · have e0 : i = 0 := by omega
    subst e0
    rw [hc 0 h0, ← e]
    rfl
  · obtain ⟨b2, o2, e2, hb⟩ := f h0
    exact ⟨b2, o2, e2, hb⟩

/-- what is left of oneKey -/
theorem one_end {w wd : World} {b off ck : Nat} {aa : Option Addr} {n ca : Nat} {ln ac : Int} {ks xs : List Int} (R : Six wd (w.heap.size + 1) (.slice none 0 0) (.slice none 0 0) (.int .i64 0) (.int .i64 0) (.int .i64 0) (.slice none 0 0))
    (lk : Lst wd (w.heap.size + 2) (some ⟨b, off, none⟩) 1 ck [(fst ks : Int)]) (la : Lst wd (w.heap.size + 2) aa n ca xs) (hB : Below w.heap.size w wd) :
    Six ((((((wd.setCell ⟨w.heap.size + 1, 0, none⟩ (.slice (some ⟨b, off, none⟩) 1 ck)).setCell ⟨w.heap.size + 1, 1, none⟩ (.slice none 0 0)).setCell ⟨w.heap.size + 1, 2, none⟩ (.int .i64 ln)).setCell ⟨w.heap.size + 1, 3, none⟩ (.int .i64 0)).setCell ⟨w.heap.size + 1, 4, none⟩ (.int .i64 ac)).setCell ⟨w.heap.size + 1, 5, none⟩ (.slice aa n ca)) (w.heap.size + 1) (.slice (some ⟨b, off, none⟩) 1 ck) (.slice none 0 0) (.int .i64 ln) (.int .i64 0) (.int .i64 ac) (.slice aa n ca) ∧
    OneDone w ((((((wd.setCell ⟨w.heap.size + 1, 0, none⟩ (.slice (some ⟨b, off, none⟩) 1 ck)).setCell ⟨w.heap.size + 1, 1, none⟩ (.slice none 0 0)).setCell ⟨w.heap.size + 1, 2, none⟩ (.int .i64 ln)).setCell ⟨w.heap.size + 1, 3, none⟩ (.int .i64 0)).setCell ⟨w.heap.size + 1, 4, none⟩ (.int .i64 ac)).setCell ⟨w.heap.size + 1, 5, none⟩ (.slice aa n ca)) n ln ac ks xs (.returned (EV (some ⟨b, off, none⟩) 1 ck none 0 0 ln 0 ac aa n ca)) :=
  ⟨six_set R _ _ _ _ _ _, ⟨b, off, ck, aa, ca, rfl, lk.set6 (by omega) _ _ _ _ _ _ (by omega), la.set6 (by omega) _ _ _ _ _ _ (by omega), below_six hB (by omega) _ _ _ _ _ _⟩⟩

set_option maxHeartbeats 2000000 in
set_option maxRecDepth 20000 in
theorem oneKey_some {w : World} {ka ma a : Option Addr} {kn kc mn mc n c : Nat} {ln pr ac : Int} {ks ms xs : List Int} (hkn : ka = none → kn = 0 ∧ kc = 0) (hk : Has .u64 w ka kn ks) (hk3 : kn ≤ 1000) (hmn : ma = none → mn = 0 ∧ mc = 0) (hm : Has .u64 w ma mn ms) (hm3 : mn ≤ 1000) (hxn : a = none → n = 0 ∧ c = 0) (hx : Has .u64 w a n xs) (hx3 : n ≤ 1000) (h0 : 0 < kn) :
    Calls Try.prog 10 #[EV ka kn kc ma mn mc ln pr ac a n c] w fun e w' => OneDone w w' n ln ac ks xs e := by
  have hb0 : Below w.heap.size w ((w.alloc (EC ka kn kc ma mn mc ln pr ac a n c)).alloc E0) := bl_alloc (bl_alloc (Below.refl _ _))
  have HO := hid (ownEntry_any (ln := ln) (pr := pr) (ac := ac) hkn (hk.step hb0) hk3 hmn (hm.step hb0) hm3 hxn (hx.step hb0) hx3)
  have hT := (six_new w (.slice ka kn kc) (.slice ma mn mc) (.int .i64 ln) (.int .i64 pr) (.int .i64 ac) (.slice a n c) 33).step (bl_alloc (o := E0) (Below.refl _ _))
  have hR := six_new (w.alloc (EC ka kn kc ma mn mc ln pr ac a n c)) (.slice none 0 0) (.slice none 0 0) (.int .i64 0) (.int .i64 0) (.int .i64 0) (.slice none 0 0) 33
  rw [show (w.alloc (EC ka kn kc ma mn mc ln pr ac a n c)).heap.size = w.heap.size + 1 from by simp] at hR
  have HB0 := hid hb0
  have HR := hid hR
  have HT := hid hT
  clear hk hm hx hkn hmn hxn hb0 hR hT
  go_enter Try.func10, Try.ntmps10
  go_wp2_with fail
  refine HO.out.mono ?_
  rintro e w2 ⟨ak, ck, am, cm, aa, ca, rfl, lk, lm, la, hb2⟩
  obtain ⟨b, off, rfl, hbl, hbc⟩ := lk.2.2.1.some h0
  have hck : 1 ≤ ck := by have := lk.2.1; omega
  have hsz : ((w.alloc (EC ka kn kc ma mn mc ln pr ac a n c)).alloc E0).heap.size = w.heap.size + 2 := by simp
  rw [hsz] at lk lm la
  have hT2 := HT.out.step hb2
  have TS := hid (six_set hT2 (.slice (some ⟨b, off, none⟩) kn ck) (.slice am mn cm) (.int .i64 ln) (.int .i64 pr) (.int .i64 ac) (.slice aa n ca))
  have RS := hid (((((((HR.out.step hb2).far (s := w.heap.size) (o := 0) (by omega) (.slice (some ⟨b, off, none⟩) kn ck)).far (s := w.heap.size) (o := 1) (by omega) (.slice am mn cm)).far (s := w.heap.size) (o := 2) (by omega) (.int .i64 ln)).far (s := w.heap.size) (o := 3) (by omega) (.int .i64 pr)).far (s := w.heap.size) (o := 4) (by omega) (.int .i64 ac)).far (s := w.heap.size) (o := 5) (by omega) (.slice aa n ca))
  have LK := hid (lk.set6 (r := w.heap.size) (by omega) (.slice (some ⟨b, off, none⟩) kn ck) (.slice am mn cm) (.int .i64 ln) (.int .i64 pr) (.int .i64 ac) (.slice aa n ca) (Nat.le_refl _))
  have LA := hid (la.set6 (r := w.heap.size) (by omega) (.slice (some ⟨b, off, none⟩) kn ck) (.slice am mn cm) (.int .i64 ln) (.int .i64 pr) (.int .i64 ac) (.slice aa n ca) (Nat.le_refl _))
  have BS := hid (below_six (bl_step HB0.out hb2) (Nat.le_refl _) (.slice (some ⟨b, off, none⟩) kn ck) (.slice am mn cm) (.int .i64 ln) (.int .i64 pr) (.int .i64 ac) (.slice aa n ca))
  obtain ⟨k0, k1, k2, k3, k4, k5, f0, f1, f2, f3, f4, f5⟩ := hT2
  clear lk lm la hb2 hbc HO HR HT HB0
  go_upto_region 2 with fail
  generalize ((((((w2.setCell ⟨w.heap.size, 0, none⟩ (.slice (some ⟨b, off, none⟩) kn ck)).setCell ⟨w.heap.size, 1, none⟩ (.slice am mn cm)).setCell ⟨w.heap.size, 2, none⟩ (.int .i64 ln)).setCell ⟨w.heap.size, 3, none⟩ (.int .i64 pr)).setCell ⟨w.heap.size, 4, none⟩ (.int .i64 ac)).setCell ⟨w.heap.size, 5, none⟩ (.slice aa n ca)) = wc at *
  clear k0 k1 k2 k3 k4 k5 f0 f1 f2 f3 f4 f5 hbl hsz
  obtain ⟨k0, k1, k2, k3, k4, k5, f0, f1, f2, f3, f4, f5⟩ := TS.out
  have hc1 : (1 : Int) ≤ (ck : Int) := by omega
  have hne : ((kn : Int) == 0) = false := by simp; omega
  go_upto_region 6 with fail
  have LK1 := hid (lst_first LK.out h0)
  have TD := hid (six_three TS.out (.slice (some ⟨b, off, none⟩) 1 ck) (.slice none 0 0) (.int .i64 0))
  have RD := hid (((RS.out.far (s := w.heap.size) (o := 0) (by omega) (.slice (some ⟨b, off, none⟩) 1 ck)).far (s := w.heap.size) (o := 1) (by omega) (.slice none 0 0)).far (s := w.heap.size) (o := 3) (by omega) (.int .i64 0))
  have LKD := hid ((((LK1.out).far (r := w.heap.size) (o := 0) (by omega) (.slice (some ⟨b, off, none⟩) 1 ck)).far (r := w.heap.size) (o := 1) (by omega) (.slice none 0 0)).far (r := w.heap.size) (o := 3) (by omega) (.int .i64 0))
  have LAD := hid ((((LA.out).far (r := w.heap.size) (o := 0) (by omega) (.slice (some ⟨b, off, none⟩) 1 ck)).far (r := w.heap.size) (o := 1) (by omega) (.slice none 0 0)).far (r := w.heap.size) (o := 3) (by omega) (.int .i64 0))
  have BD := hid (((BS.out.setCell (p := ⟨w.heap.size, 0, none⟩) (Nat.le_refl _) (.slice (some ⟨b, off, none⟩) 1 ck)).setCell (p := ⟨w.heap.size, 1, none⟩) (Nat.le_refl _) (.slice none 0 0)).setCell (p := ⟨w.heap.size, 3, none⟩) (Nat.le_refl _) (.int .i64 0))
  generalize ((wc.setCell ⟨w.heap.size, 0, none⟩ (.slice (some ⟨b, off, none⟩) 1 ck)).setCell ⟨w.heap.size, 1, none⟩ (.slice none 0 0)).setCell ⟨w.heap.size, 3, none⟩ (.int .i64 0) = wd at *
  clear k0 k1 k2 k3 k4 k5 f0 f1 f2 f3 f4 f5
  obtain ⟨k0, k1, k2, k3, k4, k5, _, _, _, _, _, _⟩ := TD.out
  obtain ⟨r0, r1, r2, r3, r4, r5, g0, g1, g2, g3, g4, g5⟩ := RD.out
  obtain ⟨hS, hE⟩ := one_end (ln := ln) (ac := ac) RD.out LKD.out LAD.out BD.out
  have HE := hid hE
  obtain ⟨s0, s1, s2, s3, s4, s5, _, _, _, _, _, _⟩ := hS
  clear hE TD RD LKD LAD BD TS RS LK LA BS
  go_wp2
  exact bodyPost_ret (v := EV (some ⟨b, off, none⟩) 1 ck none 0 0 ln 0 ac aa n ca) (by simp [results, Try.results10, go_sem, s0, s1, s2, s3, s4, s5]) rfl HE.out

set_option maxHeartbeats 2000000 in
set_option maxRecDepth 20000 in
theorem oneKey_none {w : World} {ka ma a : Option Addr} {kc mn mc n c : Nat} {ln pr ac : Int} {ks ms xs : List Int} (hkn : ka = none → (0 : Nat) = 0 ∧ kc = 0) (hk : Has .u64 w ka 0 ks) (hmn : ma = none → mn = 0 ∧ mc = 0) (hm : Has .u64 w ma mn ms) (hm3 : mn ≤ 1000) (hxn : a = none → n = 0 ∧ c = 0) (hx : Has .u64 w a n xs) (hx3 : n ≤ 1000) :
    Calls Try.prog 10 #[EV ka 0 kc ma mn mc ln pr ac a n c] w fun e w' => OneDone w w' n ln ac ks xs e := by
  have hb0 : Below w.heap.size w ((w.alloc (EC ka 0 kc ma mn mc ln pr ac a n c)).alloc E0) := bl_alloc (bl_alloc (Below.refl _ _))
  have HO := hid (ownEntry_any (ln := ln) (pr := pr) (ac := ac) hkn (hk.step hb0) (by omega) hmn (hm.step hb0) hm3 hxn (hx.step hb0) hx3)
  have hT := (six_new w (.slice ka 0 kc) (.slice ma mn mc) (.int .i64 ln) (.int .i64 pr) (.int .i64 ac) (.slice a n c) 33).step (bl_alloc (o := E0) (Below.refl _ _))
  have hR := six_new (w.alloc (EC ka 0 kc ma mn mc ln pr ac a n c)) (.slice none 0 0) (.slice none 0 0) (.int .i64 0) (.int .i64 0) (.int .i64 0) (.slice none 0 0) 33
  rw [show (w.alloc (EC ka 0 kc ma mn mc ln pr ac a n c)).heap.size = w.heap.size + 1 from by simp] at hR
  have HB0 := hid hb0
  have HR := hid hR
  have HT := hid hT
  have hks : fst ks = 0 := by
    have := hk.1
    rw [List.eq_nil_of_length_eq_zero this]; rfl
  clear hk hm hx hkn hmn hxn hb0 hR hT
  go_enter Try.func10, Try.ntmps10
  go_wp2_with fail
  refine HO.out.mono ?_
  rintro e w2 ⟨ak, ck, am, cm, aa, ca, rfl, lk, lm, la, hb2⟩
  have hsz : ((w.alloc (EC ka 0 kc ma mn mc ln pr ac a n c)).alloc E0).heap.size = w.heap.size + 2 := by simp
  rw [hsz] at lk lm la
  have hT2 := HT.out.step hb2
  have TS := hid (six_set hT2 (.slice ak 0 ck) (.slice am mn cm) (.int .i64 ln) (.int .i64 pr) (.int .i64 ac) (.slice aa n ca))
  have RS := hid (((((((HR.out.step hb2).far (s := w.heap.size) (o := 0) (by omega) (.slice ak 0 ck)).far (s := w.heap.size) (o := 1) (by omega) (.slice am mn cm)).far (s := w.heap.size) (o := 2) (by omega) (.int .i64 ln)).far (s := w.heap.size) (o := 3) (by omega) (.int .i64 pr)).far (s := w.heap.size) (o := 4) (by omega) (.int .i64 ac)).far (s := w.heap.size) (o := 5) (by omega) (.slice aa n ca))
  have LK := hid (lk.set6 (r := w.heap.size) (by omega) (.slice ak 0 ck) (.slice am mn cm) (.int .i64 ln) (.int .i64 pr) (.int .i64 ac) (.slice aa n ca) (Nat.le_refl _))
  have LA := hid (la.set6 (r := w.heap.size) (by omega) (.slice ak 0 ck) (.slice am mn cm) (.int .i64 ln) (.int .i64 pr) (.int .i64 ac) (.slice aa n ca) (Nat.le_refl _))
  have BS := hid (below_six (bl_step HB0.out hb2) (Nat.le_refl _) (.slice ak 0 ck) (.slice am mn cm) (.int .i64 ln) (.int .i64 pr) (.int .i64 ac) (.slice aa n ca))
  obtain ⟨k0, k1, k2, k3, k4, k5, f0, f1, f2, f3, f4, f5⟩ := hT2
  clear lk lm la hb2 HO HR HT HB0
  go_upto_region 2 with fail
  generalize ((((((w2.setCell ⟨w.heap.size, 0, none⟩ (.slice ak 0 ck)).setCell ⟨w.heap.size, 1, none⟩ (.slice am mn cm)).setCell ⟨w.heap.size, 2, none⟩ (.int .i64 ln)).setCell ⟨w.heap.size, 3, none⟩ (.int .i64 pr)).setCell ⟨w.heap.size, 4, none⟩ (.int .i64 ac)).setCell ⟨w.heap.size, 5, none⟩ (.slice aa n ca)) = wc at *
  clear k0 k1 k2 k3 k4 k5 f0 f1 f2 f3 f4 f5 hsz
  obtain ⟨k0, k1, k2, k3, k4, k5, f0, f1, f2, f3, f4, f5⟩ := TS.out
  have hlt := World.block_lt_of_cell? wc _ k0
  go_upto_region 6 with fail
  have hlt2 : w.heap.size + 1 < wc.heap.size := World.block_lt_of_cell? wc _ RS.out.k0
  have hws : ((((wc.setCell ⟨w.heap.size, 0, none⟩ (.slice (some ⟨wc.heap.size, 0, none⟩) 1 1)).setCell ⟨w.heap.size, 0, none⟩ (.slice (some ⟨wc.heap.size, 0, none⟩) 1 1)).setCell ⟨w.heap.size, 1, none⟩ (.slice none 0 0)).setCell ⟨w.heap.size, 3, none⟩ (.int .i64 0)).heap.size = wc.heap.size := by simp [World.setCell]
  have hal : Below ((((wc.setCell ⟨w.heap.size, 0, none⟩ (.slice (some ⟨wc.heap.size, 0, none⟩) 1 1)).setCell ⟨w.heap.size, 0, none⟩ (.slice (some ⟨wc.heap.size, 0, none⟩) 1 1)).setCell ⟨w.heap.size, 1, none⟩ (.slice none 0 0)).setCell ⟨w.heap.size, 3, none⟩ (.int .i64 0)).heap.size ((((wc.setCell ⟨w.heap.size, 0, none⟩ (.slice (some ⟨wc.heap.size, 0, none⟩) 1 1)).setCell ⟨w.heap.size, 0, none⟩ (.slice (some ⟨wc.heap.size, 0, none⟩) 1 1)).setCell ⟨w.heap.size, 1, none⟩ (.slice none 0 0)).setCell ⟨w.heap.size, 3, none⟩ (.int .i64 0)) (((((wc.setCell ⟨w.heap.size, 0, none⟩ (.slice (some ⟨wc.heap.size, 0, none⟩) 1 1)).setCell ⟨w.heap.size, 0, none⟩ (.slice (some ⟨wc.heap.size, 0, none⟩) 1 1)).setCell ⟨w.heap.size, 1, none⟩ (.slice none 0 0)).setCell ⟨w.heap.size, 3, none⟩ (.int .i64 0)).alloc (.cells #[.int .u64 0] 38)) := bl_alloc (Below.refl _ _)
  have TD := hid ((six_three (six_first TS.out (.slice (some ⟨wc.heap.size, 0, none⟩) 1 1)) (.slice (some ⟨wc.heap.size, 0, none⟩) 1 1) (.slice none 0 0) (.int .i64 0)).step hal)
  have RD := hid (((((RS.out.far (s := w.heap.size) (o := 0) (by omega) (.slice (some ⟨wc.heap.size, 0, none⟩) 1 1)).far (s := w.heap.size) (o := 0) (by omega) (.slice (some ⟨wc.heap.size, 0, none⟩) 1 1)).far (s := w.heap.size) (o := 1) (by omega) (.slice none 0 0)).far (s := w.heap.size) (o := 3) (by omega) (.int .i64 0)).step hal)
  have LAD := hid (((((LA.out.far (r := w.heap.size) (o := 0) (by omega) (.slice (some ⟨wc.heap.size, 0, none⟩) 1 1)).far (r := w.heap.size) (o := 0) (by omega) (.slice (some ⟨wc.heap.size, 0, none⟩) 1 1)).far (r := w.heap.size) (o := 1) (by omega) (.slice none 0 0)).far (r := w.heap.size) (o := 3) (by omega) (.int .i64 0)).step hal)
  have hL := lst_one ((((wc.setCell ⟨w.heap.size, 0, none⟩ (.slice (some ⟨wc.heap.size, 0, none⟩) 1 1)).setCell ⟨w.heap.size, 0, none⟩ (.slice (some ⟨wc.heap.size, 0, none⟩) 1 1)).setCell ⟨w.heap.size, 1, none⟩ (.slice none 0 0)).setCell ⟨w.heap.size, 3, none⟩ (.int .i64 0)) 0 (by omega) (w.heap.size + 2) (by omega)
  rw [hws] at hL
  have LKD := hid hL
  have BD := hid (bl_step ((((BS.out.setCell (p := ⟨w.heap.size, 0, none⟩) (Nat.le_refl _) (.slice (some ⟨wc.heap.size, 0, none⟩) 1 1)).setCell (p := ⟨w.heap.size, 0, none⟩) (Nat.le_refl _) (.slice (some ⟨wc.heap.size, 0, none⟩) 1 1)).setCell (p := ⟨w.heap.size, 1, none⟩) (Nat.le_refl _) (.slice none 0 0)).setCell (p := ⟨w.heap.size, 3, none⟩) (Nat.le_refl _) (.int .i64 0)) hal)
  generalize (((((wc.setCell ⟨w.heap.size, 0, none⟩ (.slice (some ⟨wc.heap.size, 0, none⟩) 1 1)).setCell ⟨w.heap.size, 0, none⟩ (.slice (some ⟨wc.heap.size, 0, none⟩) 1 1)).setCell ⟨w.heap.size, 1, none⟩ (.slice none 0 0)).setCell ⟨w.heap.size, 3, none⟩ (.int .i64 0)).alloc (.cells #[.int .u64 0] 38)) = wd at *
  clear k0 k1 k2 k3 k4 k5 f0 f1 f2 f3 f4 f5 hal hL hws hlt hlt2
  generalize wc.heap.size = b at *
  obtain ⟨k0, k1, k2, k3, k4, k5, _, _, _, _, _, _⟩ := TD.out
  obtain ⟨r0, r1, r2, r3, r4, r5, g0, g1, g2, g3, g4, g5⟩ := RD.out
  obtain ⟨hS, hE⟩ := one_end (ln := ln) (ac := ac) (ks := ks) RD.out (by rw [hks]; exact LKD.out) LAD.out BD.out
  have HE := hid hE
  obtain ⟨s0, s1, s2, s3, s4, s5, _, _, _, _, _, _⟩ := hS
  clear hE TD RD LKD LAD BD TS RS LK LA BS
  go_wp2
  exact bodyPost_ret (v := EV (some ⟨b, 0, none⟩) 1 1 none 0 0 ln 0 ac aa n ca) (by simp [results, Try.results10, go_sem, s0, s1, s2, s3, s4, s5]) rfl HE.out

/-- oneKey -/
theorem oneKey_any {w : World} {ka ma a : Option Addr} {kn kc mn mc n c : Nat} {ln pr ac : Int} {ks ms xs : List Int} (hkn : ka = none → kn = 0 ∧ kc = 0) (hk : Has .u64 w ka kn ks) (hk3 : kn ≤ 1000) (hmn : ma = none → mn = 0 ∧ mc = 0) (hm : Has .u64 w ma mn ms) (hm3 : mn ≤ 1000) (hxn : a = none → n = 0 ∧ c = 0) (hx : Has .u64 w a n xs) (hx3 : n ≤ 1000) :
    Calls Try.prog 10 #[EV ka kn kc ma mn mc ln pr ac a n c] w fun e w' => OneDone w w' n ln ac ks xs e := by
  by_cases h0 : 0 < kn
  · exact oneKey_some hkn hk hk3 hmn hm hm3 hxn hx hx3 h0
  · have e : kn = 0 := by omega
    subst e
    exact oneKey_none hkn hk hmn hm hm3 hxn hx hx3
end Go.Proofs.Ytlnkfgdepddmlac
