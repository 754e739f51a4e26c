/- A table by masks: New, Len; what Add leaves where it does nothing. -/
import Derived.Test.YtlnkfgdepddmlacMDel
namespace Go.Proofs.Ytlnkfgdepddmlac
open Go.RowKit Mth

namespace Mth
/-- how many stand ahead -/
def cutI (T : List TE) (e : TE) : Nat := T.countP fun x => decide (cmpE x e < 0)

theorem cut_is {T : List TE} {e : TE} {i : Nat} (c : Cut T e i) : cutI T e = i := by
  unfold cutI
  have h1 : (T.take i).countP (fun x => decide (cmpE x e < 0)) = (T.take i).length := by
    rw [List.countP_eq_length]
    intro x hx
    obtain ⟨t, ht, rfl⟩ := List.getElem_of_mem hx
    rw [List.length_take] at ht
    exact decide_eq_true (c.lo t _ (by omega) (by rw [List.getElem_take, List.getElem?_eq_getElem (by omega)]))
  have h2 : (T.drop i).countP (fun x => decide (cmpE x e < 0)) = 0 := by
    rw [List.countP_eq_zero]
    intro x hx
    obtain ⟨t, ht, rfl⟩ := List.getElem_of_mem hx
    rw [List.length_drop] at ht
    simp only [decide_eq_true_eq]
    exact c.hi (i + t) _ (by omega) (by rw [List.getElem_drop, List.getElem?_eq_getElem (by omega)])
  conv => lhs; rw [← List.take_append_drop i T]
  rw [List.countP_append, h1, h2, List.length_take]
  have := c.le
  omega
end Mth


/-- the code of Add -/
def addCM (keys most : Int) (T : List TE) (e : TE) : Int := if GoodM keys e then (if ∃ x ∈ T, SameP x e then 7 else if ClashM T e then 8 else if most ≤ (T.length : Int) then 10 else 0) else 6

/-- what is there then -/
def addTM (keys most : Int) (T : List TE) (e : TE) : List TE := if addCM keys most T e = 0 then T.take (cutI T e) ++ e :: T.drop (cutI T e) else T

/-- the code of Change and Drop -/
def hasCM (keys : Int) (T : List TE) (e : TE) : Int := if GoodM keys e then (if ∃ x ∈ T, SameP x e then 0 else 9) else 6

def dropTM (keys : Int) (T : List TE) (e : TE) : List TE := if hasCM keys T e = 0 then T.eraseIdx (cutI T e) else T

/-- a table behind a turn -/
structure MTo (w w' : World) (B p : Nat) (keys most : Int) (T : List TE) : Prop where
  t : MTab w' B p keys most T
  bel : Below B w w'
  fr : Fr w w' p 2

theorem MTab.small {w : World} {B p : Nat} {keys most : Int} {T : List TE} (t : MTab w B p keys most T) : B ≤ w.heap.size :=
  Nat.le_trans t.base (Nat.le_of_lt (World.block_lt_of_cell? w _ t.c0))

theorem MTo.same {w w' : World} {B p : Nat} {keys most : Int} {T : List TE} (t : MTab w B p keys most T) (hb : Below w.heap.size w w') : MTo w w' B p keys most T := ⟨t.step hb, hb.mono t.small, fr_below hb (World.block_lt_of_cell? w _ t.c0)⟩

def MAddDone (w w' : World) (B p : Nat) (keys most : Int) (T : List TE) (e : TE) (r : Ending) : Prop := r = .returned (.int .i64 (addCM keys most T e)) ∧ MTo w w' B p keys most (addTM keys most T e)

theorem madd_keep {w w' : World} {B p : Nat} {keys most : Int} {T : List TE} {e : TE} {c : Int} (t : MTab w B p keys most T) (hb : Below w.heap.size w w') (hc : addCM keys most T e = c) (h0 : c ≠ 0) : MAddDone w w' B p keys most T e (.returned (.int .i64 c)) := by
  refine ⟨by rw [hc], ?_⟩
  unfold addTM
  rw [if_neg (by rw [hc]; exact h0)]
  exact MTo.same t hb

abbrev TC (keys most : Int) : Obj := .cells #[.int .i64 keys, .int .i64 most, .slice none 0 0] 75

set_option maxHeartbeats 400000 in
set_option maxRecDepth 20000 in
theorem mnew_any (keys most : Int) (w : World) (B : Nat) (hB : B ≤ w.heap.size) :
    Calls Try.prog 27 #[.int .i64 keys, .int .i64 most] w fun r w' => r = .returned (.pointer (some ⟨w.heap.size, 0, none⟩)) ∧ MTab w' B w.heap.size keys most [] ∧ Below w.heap.size w w' := by
  have HT : Hid (MTab (w.alloc (TC keys most)) B w.heap.size keys most []) := ⟨by simp, by simp, by simp, hB, ⟨none, 0, by simp, mrow_nil _ _⟩, okM_nil _ _⟩
  go_enter Try.func27, Try.ntmps27
  go_wp2
  go_ret
  exact ⟨rfl, HT.out, bl_alloc (Below.refl _ _)⟩

set_option maxHeartbeats 1000000 in
set_option maxRecDepth 20000 in
theorem madd_bad {w : World} {B p : Nat} {keys most : Int} {T : List TE} {f : MD} {e : TE} (t : MTab w B p keys most T) (hf : f.good w e) (hg : ¬ GoodM keys e) :
    Calls Try.prog 29 #[.pointer (some ⟨p, 0, none⟩), f.ev] w fun r w' => MAddDone w w' B p keys most T e r := by
  have hb0 := bl_alloc (o := f.ec) (Below.refl w.heap.size w)
  have HI := hid (isEntry_any (t.step hb0).c0 (hf.step hb0))
  have SX : Six (w.alloc f.ec) w.heap.size (.slice f.ka f.kn f.kc) (.slice f.ma f.mn f.mc) (.int .i64 f.ln) (.int .i64 f.pr) (.int .i64 f.ac) (.slice f.a f.n f.c) := six_new w _ _ _ _ _ _ _
  obtain ⟨k0, k1, k2, k3, k4, k5, -, -, -, -, -, -⟩ := SX
  have HT := hid t
  have HG := hid hg
  have HB0 := hid hb0
  clear t hf hg hb0
  go_enter Try.func29, Try.ntmps29
  go_wp2_with fail
  refine HI.out.mono ?_
  rintro r w1 ⟨b, rfl, hb, hg1⟩
  have eb : b = false := by
    cases b with
    | false => rfl
    | true => exact absurd (hb.1 rfl) HG.out
  subst eb
  have HE := hid (madd_keep HT.out (bl_step HB0.out hg1.below) (show addCM keys most T e = 6 by unfold addCM; rw [if_neg HG.out]) (by decide))
  clear hb hg1 HI
  go_wp2
  go_ret
  exact HE.out

set_option maxHeartbeats 4000000 in
set_option maxRecDepth 20000 in
theorem madd_no {w : World} {B p : Nat} {keys most : Int} {T : List TE} {f : MD} {e : TE} (t : MTab w B p keys most T) (hf : f.good w e) (hg : GoodM keys e) (hn : T.length ≤ 100000) (hno : (∃ x ∈ T, SameP x e) ∨ ClashM T e ∨ most ≤ (T.length : Int)) :
    Calls Try.prog 29 #[.pointer (some ⟨p, 0, none⟩), f.ev] w fun r w' => MAddDone w w' B p keys most T e r := by
  have hb0 := bl_alloc (o := f.ec) (Below.refl w.heap.size w)
  have HI := hid (isEntry_any (t.step hb0).c0 (hf.step hb0))
  have SX : Hid (Six (w.alloc f.ec) w.heap.size (.slice f.ka f.kn f.kc) (.slice f.ma f.mn f.mc) (.int .i64 f.ln) (.int .i64 f.pr) (.int .i64 f.ac) (.slice f.a f.n f.c)) := six_new w _ _ _ _ _ _ _
  obtain ⟨k0, k1, k2, k3, k4, k5, -, -, -, -, -, -⟩ := SX.out
  have HT := hid t
  have HG := hid hg
  have HF := hid hf
  have HB0 := hid hb0
  have HNO := hid hno
  clear t hf hg hb0 hno
  go_enter Try.func29, Try.ntmps29
  go_wp2_with fail
  refine HI.out.mono ?_
  rintro r w1 ⟨b, rfl, hb, hg1⟩
  have eb : b = true := hb.2 HG.out
  subst eb
  have B1 := hid (bl_step HB0.out hg1.below)
  have S1 := hid (SX.out.step hg1.below)
  have HP := hid (mplace_any (HT.out.step B1.out) (HF.out.step B1.out) HG.out hn)
  clear hb hg1 HI k0 k1 k2 k3 k4 k5 SX HB0
  obtain ⟨k0, k1, k2, k3, k4, k5, -, -, -, -, -, -⟩ := S1.out
  go_wp2_with fail
  refine HP.out.mono ?_
  rintro r w2 ⟨i, fb, rfl, hcut, hfo, hg2⟩
  have HFO := hid (hfo.trans (cut_found HT.out.ok.srt hcut))
  have B2 := hid (bl_step B1.out hg2.below)
  have S2 := hid (S1.out.step hg2.below)
  clear hcut hfo hg2 HP k0 k1 k2 k3 k4 k5 S1
  cases fb with
  | true =>
    have HE := hid (madd_keep HT.out B2.out (show addCM keys most T e = 7 by unfold addCM; rw [if_pos HG.out, if_pos (HFO.out.1 rfl)]) (by decide))
    clear HFO B2
    go_wp2
    go_ret
    exact HE.out
  | false =>
    have HNS : Hid (¬ ∃ x ∈ T, SameP x e) := fun h => by have := HFO.out.2 h; cases this
    have HC := hid (clashes_any (HT.out.step B2.out) (HF.out.step B2.out) HG.out hn)
    obtain ⟨k0, k1, k2, k3, k4, k5, -, -, -, -, -, -⟩ := S2.out
    go_wp2_with fail
    refine HC.out.mono ?_
    rintro r w3 ⟨b, rfl, hb, hg3⟩
    have B3 := hid (bl_step B2.out hg3.below)
    cases b with
    | true =>
      have HE := hid (madd_keep HT.out B3.out (show addCM keys most T e = 8 by unfold addCM; rw [if_pos HG.out, if_neg HNS.out, if_pos (hb.1 rfl)]) (by decide))
      clear hb hg3 HC
      go_wp2
      go_ret
      exact HE.out
    | false =>
      have HNC : Hid (¬ ClashM T e) := fun h => by have := hb.2 h; cases this
      have hful : most ≤ (T.length : Int) := by
        rcases HNO.out with h | h | h
        · exact absurd h HNS.out
        · exact absurd h HNC.out
        · exact h
      obtain ⟨la, cap, p2, -⟩ := (HT.out.step B3.out).lst
      have p1 := (HT.out.step B3.out).c1
      have HE : Hid (∀ s, MAddDone w (w3.drewN s) B p keys most T e (.returned (.int .i64 10))) := fun s => madd_keep HT.out (below_drewN B3.out s) (show addCM keys most T e = 10 by unfold addCM; rw [if_pos HG.out, if_neg HNS.out, if_neg HNC.out, if_pos hful]) (by decide)
      clear hb hg3 HC k0 k1 k2 k3 k4 k5
      go_wp2_with fail
      go_quiet (fail)
      go_wp2
      go_ret
      exact HE.out _
end Go.Proofs.Ytlnkfgdepddmlac
