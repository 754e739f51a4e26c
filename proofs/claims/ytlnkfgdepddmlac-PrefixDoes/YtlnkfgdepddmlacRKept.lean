/- What kept of the document's own table by beginnings does. -/
import Derived.Test.YtlnkfgdepddmlacRMay
namespace Go.Proofs.Ytlnkfgdepddmlac
open Go.RowKit Mth

theorem far_six (w : World) {s r : Nat} (h : s ≠ r) (o : Nat) (v0 v1 v2 v3 v4 v5 : Value) : ((((((w.setCell ⟨s, 0, none⟩ v0).setCell ⟨s, 1, none⟩ v1).setCell ⟨s, 2, none⟩ v2).setCell ⟨s, 3, none⟩ v3).setCell ⟨s, 4, none⟩ v4).setCell ⟨s, 5, none⟩ v5).cell? ⟨r, o, none⟩ = w.cell? ⟨r, o, none⟩ := by
  have hn : ∀ i, (⟨s, i, none⟩ : Addr) ≠ ⟨r, o, none⟩ := fun i e => h (congrArg Addr.block e)
  rw [World.cell?_setCell_other _ _ _ _ (hn _), World.cell?_setCell_other _ _ _ _ (hn _), World.cell?_setCell_other _ _ _ _ (hn _), World.cell?_setCell_other _ _ _ _ (hn _), World.cell?_setCell_other _ _ _ _ (hn _), World.cell?_setCell_other _ _ _ _ (hn _)]

theorem six_two {w : World} {s : Nat} {x0 x1 x2 x3 x4 x5 : Value} (t : Six w s x0 x1 x2 x3 x4 x5) (v1 v3 : Value) : Six ((w.setCell ⟨s, 1, none⟩ v1).setCell ⟨s, 3, none⟩ v3) s x0 v1 x2 v3 x4 x5 := by
  have k0 := t.k0
  have k1 := t.k1
  have k2 := t.k2
  have k3 := t.k3
  have k4 := t.k4
  have k5 := t.k5
  have f0 := t.f0
  have f1 := t.f1
  have f2 := t.f2
  have f3 := t.f3
  have f4 := t.f4
  have f5 := t.f5
  refine ⟨?_, ?_, ?_, ?_, ?_, ?_, by simpa using f0, by simpa using f1, by simpa using f2, by simpa using f3, by simpa using f4, by simpa using f5⟩ <;> simp [go_sem, k0, k1, k2, k3, k4, k5]

set_option maxHeartbeats 2000000 in
set_option maxRecDepth 20000 in
theorem kept_any {w : World} {r : Nat} {wd most : Int} {kg ko kc : Nat} {ln ac : Int} {a : Option Addr} {n c key : Nat} {xs : List Int} (hd : RHead w r wd most) (ha : Arg w kg ko kc a n c key xs) :
    Calls Try.prog 42 #[.pointer (some ⟨r, 0, none⟩), AV kg ko kc ln ac a n c] w fun e w' => OneDone w w' n ln ac [(key : Int)] xs e := by
  have hsm := ha.small
  have h0 : 0 < 1 := by omega
  have hrl : r < w.heap.size := World.block_lt_of_cell? w _ hd.c0
  have hb0 : Below w.heap.size w ((w.alloc (AC kg ko kc ln ac a n c)).alloc E0) := bl_alloc (bl_alloc (Below.refl _ _))
  have HO := hid (own_any (ln := ln) (pr := 0) (ac := ac) ha.lk.1 (ha.step hb0).lk.2.2.1 (by omega) (fun _ => ⟨rfl, rfl⟩) (has_nil _ _) (by omega) ha.la.1 (ha.step hb0).la.2.2.1 (by omega))
  have HDD := hid (hd.step hb0)
  have hT := (six_new w (.slice (some ⟨kg, ko, none⟩) 1 kc) (.slice none 0 0) (.int .i64 ln) (.int .i64 0) (.int .i64 ac) (.slice a n c) 33).step (bl_alloc (o := E0) (Below.refl _ _))
  have hR := six_new (w.alloc (AC kg ko kc ln ac a n c)) (.slice none 0 0) (.slice none 0 0) (.int .i64 0) (.int .i64 0) (.int .i64 0) (.slice none 0 0) 33
  rw [show (w.alloc (AC kg ko kc ln ac a n c)).heap.size = w.heap.size + 1 from by simp] at hR
  have HB0 := hid hb0
  have HR := hid hR
  have HT := hid hT
  clear hd ha hb0 hR hT
  go_enter Try.func42, Try.ntmps42
  go_wp2_with fail
  refine HO.out.mono ?_
  rintro e w2 ⟨ak, ck, am, cm, aa, ca, rfl, lk, lm, la, hb2⟩
  obtain ⟨b, off, rfl, hbl, hbc⟩ := lk.2.2.1.some h0
  have hsz : ((w.alloc (AC kg ko kc ln ac a n c)).alloc E0).heap.size = w.heap.size + 2 := by simp
  rw [hsz] at lk lm la
  have hT2 := HT.out.step hb2
  have TS := hid (six_set hT2 (.slice (some ⟨b, off, none⟩) 1 ck) (.slice am 0 cm) (.int .i64 ln) (.int .i64 0) (.int .i64 ac) (.slice aa n ca))
  have RS := hid (((((((HR.out.step hb2).far (s := w.heap.size) (o := 0) (by omega) (.slice (some ⟨b, off, none⟩) 1 ck)).far (s := w.heap.size) (o := 1) (by omega) (.slice am 0 cm)).far (s := w.heap.size) (o := 2) (by omega) (.int .i64 ln)).far (s := w.heap.size) (o := 3) (by omega) (.int .i64 0)).far (s := w.heap.size) (o := 4) (by omega) (.int .i64 ac)).far (s := w.heap.size) (o := 5) (by omega) (.slice aa n ca))
  have LK := hid (lk.set6 (r := w.heap.size) (by omega) (.slice (some ⟨b, off, none⟩) 1 ck) (.slice am 0 cm) (.int .i64 ln) (.int .i64 0) (.int .i64 ac) (.slice aa n ca) (Nat.le_refl _))
  have LA := hid (la.set6 (r := w.heap.size) (by omega) (.slice (some ⟨b, off, none⟩) 1 ck) (.slice am 0 cm) (.int .i64 ln) (.int .i64 0) (.int .i64 ac) (.slice aa n ca) (Nat.le_refl _))
  have hr0 : (((((((w2.setCell ⟨w.heap.size, 0, none⟩ (.slice (some ⟨b, off, none⟩) 1 ck)).setCell ⟨w.heap.size, 1, none⟩ (.slice am 0 cm)).setCell ⟨w.heap.size, 2, none⟩ (.int .i64 ln)).setCell ⟨w.heap.size, 3, none⟩ (.int .i64 0)).setCell ⟨w.heap.size, 4, none⟩ (.int .i64 ac)).setCell ⟨w.heap.size, 5, none⟩ (.slice aa n ca))).cell? ⟨r, 0, none⟩ = some (.int .i64 2) := (far_six w2 (by omega : w.heap.size ≠ r) 0 _ _ _ _ _ _).trans (HDD.out.step hb2).c0
  have BS := hid (below_six (bl_step HB0.out hb2) (Nat.le_refl _) (.slice (some ⟨b, off, none⟩) 1 ck) (.slice am 0 cm) (.int .i64 ln) (.int .i64 0) (.int .i64 ac) (.slice aa n ca))
  obtain ⟨k0, k1, k2, k3, k4, k5, f0, f1, f2, f3, f4, f5⟩ := hT2
  clear lk lm la hb2 hbc HO HR HT HB0
  go_upto_region 2 with fail
  generalize ((((((w2.setCell ⟨w.heap.size, 0, none⟩ (.slice (some ⟨b, off, none⟩) 1 ck)).setCell ⟨w.heap.size, 1, none⟩ (.slice am 0 cm)).setCell ⟨w.heap.size, 2, none⟩ (.int .i64 ln)).setCell ⟨w.heap.size, 3, none⟩ (.int .i64 0)).setCell ⟨w.heap.size, 4, none⟩ (.int .i64 ac)).setCell ⟨w.heap.size, 5, none⟩ (.slice aa n ca)) = wc at *
  clear k0 k1 k2 k3 k4 k5 f0 f1 f2 f3 f4 f5 hbl hsz
  obtain ⟨k0, k1, k2, k3, k4, k5, f0, f1, f2, f3, f4, f5⟩ := TS.out
  have hne : ¬ w.heap.size = r := by omega
  have hne2 : ¬ r = w.heap.size := by omega
  have hd0 : ((wc.setCell ⟨w.heap.size, 1, none⟩ (.slice none 0 0)).setCell ⟨w.heap.size, 3, none⟩ (.int .i64 0)).cell? ⟨r, 0, none⟩ = some (.int .i64 2) := by
    rw [World.cell?_setCell_other _ _ _ _ (fun e => hne (congrArg Addr.block e)), World.cell?_setCell_other _ _ _ _ (fun e => hne (congrArg Addr.block e))]
    exact hr0
  go_upto_region 6 with fail
  have LK1 := hid (lst_first LK.out h0)
  have TD := hid (six_two TS.out (.slice none 0 0) (.int .i64 0))
  have RD := hid ((RS.out.far (s := w.heap.size) (o := 1) (by omega) (.slice none 0 0)).far (s := w.heap.size) (o := 3) (by omega) (.int .i64 0))
  have LKD := hid (((LK1.out).far (r := w.heap.size) (o := 1) (by omega) (.slice none 0 0)).far (r := w.heap.size) (o := 3) (by omega) (.int .i64 0))
  have LAD := hid (((LA.out).far (r := w.heap.size) (o := 1) (by omega) (.slice none 0 0)).far (r := w.heap.size) (o := 3) (by omega) (.int .i64 0))
  have BD := hid ((BS.out.setCell (p := ⟨w.heap.size, 1, none⟩) (Nat.le_refl _) (.slice none 0 0)).setCell (p := ⟨w.heap.size, 3, none⟩) (Nat.le_refl _) (.int .i64 0))
  generalize (wc.setCell ⟨w.heap.size, 1, none⟩ (.slice none 0 0)).setCell ⟨w.heap.size, 3, none⟩ (.int .i64 0) = wd' at *
  clear k0 k1 k2 k3 k4 k5 f0 f1 f2 f3 f4 f5 hr0
  obtain ⟨k0, k1, k2, k3, k4, k5, _, _, _, _, _, _⟩ := TD.out
  obtain ⟨r0, r1, r2, r3, r4, r5, g0, g1, g2, g3, g4, g5⟩ := RD.out
  obtain ⟨hS, hE⟩ := one_end (ln := ln) (ac := ac) RD.out LKD.out LAD.out BD.out
  have HE := hid hE
  obtain ⟨s0, s1, s2, s3, s4, s5, _, _, _, _, _, _⟩ := hS
  clear hE TD RD LKD LAD BD TS RS LK LA BS hd0
  go_wp2
  exact bodyPost_ret (v := EV (some ⟨b, off, none⟩) 1 ck none 0 0 ln 0 ac aa n ca) (by simp [results, Try.results42, go_sem, s0, s1, s2, s3, s4, s5]) rfl HE.out
end Go.Proofs.Ytlnkfgdepddmlac
