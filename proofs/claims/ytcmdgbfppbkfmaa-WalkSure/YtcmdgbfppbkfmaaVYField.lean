/- What a field of a packet on its way has; which headers are there. -/
import Derived.Test.YtcmdgbfppbkfmaaVYGo
namespace Go.Proofs.Ytcmdgbfppbkfmaa
open Go.RowKit

def FieldDone (d : PlanD) (G : GoD) (w : World) (e : Ending) (w' : World) : Prop := ∃ (n : Int) (x : Bool), e = .returned (.int .u64 n) ∧ (Lit.int .u64 n).wf = true ∧ GoAt d { G with gone := x } w' ∧ But G.q w w'

theorem gwidth_in {p : PPlan} {r : RefD} {zs : List Int} (h : p.width r zs ≠ 0) : 0 ≤ r.f ∧ r.f < ((p.fields r.h zs).length : Int) := by
  unfold PPlan.width at h
  by_cases e : r.f < 0 ∨ ((p.fields r.h zs).length : Int) ≤ r.f
  · rw [if_pos e] at h; exact absurd rfl h
  · omega

/-- a cell of the numbers -/
theorem has_at64 {w : World} {a : Option Addr} {n : Nat} {zs : List Int} (h : Has .u64 w a n zs) {i : Nat} (hi : i < n) : ∃ b off, a = some ⟨b, off, none⟩ ∧ w.cell? ⟨b, off + i, none⟩ = some (.int .u64 (zs.getD i 0)) ∧ (Lit.int .u64 (zs.getD i 0)).wf = true := by
  obtain ⟨b, off, e, _, hc⟩ := h.some (by omega)
  refine ⟨b, off, e, hc i hi, h.2.1 _ ?_⟩
  rw [List.getD_eq_getElem?_getD, List.getElem?_eq_getElem (by rw [h.1]; exact hi)]
  exact List.getElem_mem _

set_option maxHeartbeats 8000000 in
set_option maxRecDepth 20000 in
theorem gfield_any {d : PlanD} {G : GoD} {w : World} (hg : GoAt d G w) (hdn : d.p.hs.length = d.heads.n) (r : RefD) (hw : d.p.width r [] ≠ 0) :
    Calls Try.prog 33 #[.pointer (some ⟨G.q, 0, none⟩), .agg #[.int .i64 r.h, .int .i64 r.f], .slice none 0 0] w (FieldDone d G w) := by
  obtain ⟨h, f⟩ := r
  have hin := gwidth_in hw
  simp only at hin
  obtain ⟨W1, hW1⟩ : ∃ W1, W1 = w.alloc (.cells #[.int .i64 h, .int .i64 f] 51) := ⟨_, rfl⟩
  obtain ⟨b, hb⟩ : ∃ b, b = w.heap.size := ⟨_, rfl⟩
  have b1 : Below w.heap.size w W1 := by rw [hW1]; exact bl_alloc (Below.refl _ _)
  have hg1 := hg.step b1
  have hbq : b ≠ G.q := by have := hg.qlt; omega
  have c0 : W1.cell? ⟨b, 0, none⟩ = some (.int .i64 h) := by rw [hW1, hb]; exact (World.cell?_alloc_at _ _ _ _ rfl).trans rfl
  have c1 : W1.cell? ⟨b, 1, none⟩ = some (.int .i64 f) := by rw [hW1, hb]; exact (World.cell?_alloc_at _ _ _ _ rfl).trans rfl
  have hhh : h < 0 ∨ 0 ≤ h ∧ h < (d.heads.n : Int) := by
    by_cases e : h < 0
    · exact .inl e
    · refine .inr ⟨by omega, ?_⟩
      refine Decidable.byContradiction fun hn => ?_
      unfold PPlan.fields at hin
      rw [if_neg (by omega), if_neg (by omega), if_neg (by omega), if_pos (.inr (by rw [hdn]; omega))] at hin
      simp at hin
      omega
  have HU := hid (guse_any hg1 h hhh)
  have EW := hid hW1
  have EB := hid hb
  have HB1 := hid b1
  have HG1 := hid hg1
  have HQ := hid hg.qlt
  clear hg hg1 hW1 hb b1
  go_enter Try.func33, Try.ntmps33
  go_wp2_with fail
  rw [← EW.out, ← EB.out]
  refine HU.out.mono ?_
  rintro e _ ⟨x, rfl, rfl⟩
  obtain ⟨W2, hW2⟩ : ∃ W2, W2 = W1.setCell ⟨G.q, 8, none⟩ (.bool x) := ⟨_, rfl⟩
  rw [← hW2]
  have HG2 : Hid (GoAt d { G with gone := x } W2) := by rw [hW2]; exact HG1.out.setGone x
  have k2 : But G.q W1 W2 := by rw [hW2]; exact set_but
  have d0 := k2.cell hbq c0
  have d1 := k2.cell hbq c1
  have HE : Hid (∀ (n : Int) (w' : World), (Lit.int .u64 n).wf = true → Below W2.heap.size W2 w' → FieldDone d G w (.returned (.int .u64 n)) w') := fun n w' hn h => by
    refine ⟨n, x, rfl, hn, HG2.out.step h, ?_⟩
    have hql := HQ.out
    exact ((But.of HB1.out (by omega)).trans k2).trans (But.of h (by have := HB1.out.size; have := k2.size; omega))
  clear HU EW EB HB1 HG1 HQ c0 c1 hW2 k2
  by_cases e3 : h = -3
  · subst e3
    have q2 := HG2.out.c2
    have HP := hid HG2.out.pf
    clear hin hw hhh HG2
    go_wp2
    go_ret
    exact HE.out _ _ HP.out (Below.refl _ _)
  have k3 : (h == -3) = false := by rw [beq_eq_false_iff_ne]; exact e3
  by_cases e1 : h = -1
  · subst e1
    have hml : f < (G.mt.n : Int) := by
      have := HG2.out.ml
      simp only at this
      unfold PPlan.fields at hin
      rw [if_pos rfl] at hin
      omega
    have hf0 : 0 ≤ f := hin.1
    obtain ⟨mb, mo, ema, cm, wm⟩ := has_at64 HG2.out.hm (i := f.toNat) (show f.toNat < G.mt.n by omega)
    have q5 := HG2.out.c5
    simp only at ema q5 cm wm
    rw [ema] at q5
    have q5' := cell_by q5
    have cm' := cell_by cm
    have d1' := cell_by d1
    have HWM := hid wm
    clear hin hw hhh HG2 wm ema
    go_wp2_with fail
    haveI inhB : ∀ w : World, Inhabited (BelowBy w) := fun w => ⟨⟨w, Below.refl _ _⟩⟩
    refine wp_region_quiet_below (by kernel_rfl) (by kernel_rfl) ?_
    repeat (go_big_quiet_step (fail))
    refine wpQuiet_nil ?_
    intro wq hw'
    obtain ⟨⟨_, hwq⟩, hw''⟩ := hw'
    subst hw''
    have HF := hid (HE.out _ _ HWM.out hwq)
    clear HE hwq
    go_wp2
    go_ret
    exact HF.out
  have k1 : (h == -1) = false := by rw [beq_eq_false_iff_ne]; exact e1
  by_cases e2 : h = -2
  · exfalso
    unfold PPlan.fields at hin
    rw [if_neg e1, if_pos e2] at hin
    simp at hin
    omega
  have k2' : (h == -2) = false := by rw [beq_eq_false_iff_ne]; exact e2
  have hfld : d.p.fields h [] = d.p.hs.getD h.toNat [] ∧ 0 ≤ h ∧ h < (d.heads.n : Int) := by
    unfold PPlan.fields at hin ⊢
    rw [if_neg e1, if_neg e2, if_neg e3] at hin ⊢
    by_cases e4 : h < 0 ∨ (d.p.hs.length : Int) ≤ h
    · rw [if_pos e4] at hin
      simp at hin
      omega
    · rw [if_neg e4]
      exact ⟨rfl, by omega, by omega⟩
  rw [hfld.1] at hin
  have h0 := hfld.2.1
  have h1 := hfld.2.2
  have hvl : h.toNat < G.V.length := by have := HG2.out.vl; simp only at this; omega
  obtain ⟨cv, hz, hl⟩ := HG2.out.vs h.toNat _ (List.getElem?_eq_getElem hvl)
  simp only at cv hz hl
  generalize G.V[h.toNat] = X at *
  have hf0 : 0 ≤ f := hin.1
  have hfl : f < (X.1.n : Int) := by omega
  obtain ⟨xb, xo, exa, cx, wx⟩ := has_at64 hz (i := f.toNat) (by omega)
  have q4 := HG2.out.c4
  have eva := HG2.out.va
  simp only at q4 eva
  rw [eva.1, eva.2 (by omega)] at q4
  rw [exa] at cv
  have q4' := cell_by q4
  have cv' := cell_by cv
  have cx' := cell_by cx
  have d0' := cell_by d0
  have d1' := cell_by d1
  have HWM := hid wx
  clear hin hw hhh HG2 wx exa hz hl eva hfld hvl e1 e2 e3
  go_wp2_with fail
  haveI inhB : ∀ w : World, Inhabited (BelowBy w) := fun w => ⟨⟨w, Below.refl _ _⟩⟩
  refine wp_region_quiet_below (by kernel_rfl) (by kernel_rfl) ?_
  repeat (go_big_quiet_step (fail))
  refine wpQuiet_nil ?_
  intro wq hw'
  obtain ⟨⟨_, hwq⟩, hw''⟩ := hw'
  subst hw''
  have HF := hid (HE.out _ _ HWM.out hwq)
  clear HE hwq
  go_wp2
  go_ret
  exact HF.out

/-- the headers that are there, a bit each -/
def maskL : List Bool → Nat → Nat
  | [], _ => 0
  | b :: l, i => (if b then 2 ^ i else 0) ||| maskL l (i + 1)

theorem maskL_bit : ∀ (l : List Bool) (i k : Nat), (maskL l i).testBit k = (decide (i ≤ k) && l.getD (k - i) false)
  | [], i, k => by simp [maskL]
  | b :: l, i, k => by
    rw [maskL, Nat.testBit_or, maskL_bit l (i + 1) k]
    by_cases h : i = k
    · subst h
      have e : ¬ i + 1 ≤ i := by omega
      cases b <;> simp [Nat.testBit_two_pow_self, e]
    · by_cases h2 : i < k
      · have e : k - i = (k - (i + 1)) + 1 := by omega
        rw [e, List.getD_cons_succ]
        have h1 : i ≤ k := by omega
        have h3 : i + 1 ≤ k := by omega
        cases b with
        | true => simp [h, h1, h3]
        | false => simp [h1, h3]
      · have h1 : ¬ i ≤ k := by omega
        have h3 : ¬ i + 1 ≤ k := by omega
        cases b with
        | true => simp [h, h1, h3]
        | false => simp [h1, h3]

def thereN (T : List Bool) : Nat := maskL T 0

theorem thereN_bit (T : List Bool) (k : Nat) : (thereN T).testBit k = T.getD k false := by
  unfold thereN
  rw [maskL_bit]
  simp

theorem thereN_set {T : List Bool} {i : Nat} (hi : i < T.length) : thereN (T.set i true) = thereN T ||| 2 ^ i := by
  refine Nat.eq_of_testBit_eq fun k => ?_
  rw [Nat.testBit_or, thereN_bit, thereN_bit, Nat.testBit_two_pow, List.getD_eq_getElem?_getD, List.getElem?_set]
  by_cases e : i = k
  · subst e
    simp [hi]
  · simp [e, List.getD_eq_getElem?_getD]

theorem thereN_take {T : List Bool} {i : Nat} {b : Bool} (h : T[i]? = some b) : thereN (T.take (i + 1)) = (if b then thereN (T.take i) ||| 2 ^ i else thereN (T.take i)) := by
  have hi : i < T.length := (List.getElem?_eq_some_iff.1 h).1
  refine Nat.eq_of_testBit_eq fun k => ?_
  have g : ∀ n, (T.take n).getD k false = (decide (k < n) && T.getD k false) := fun n => by
    rw [List.getD_eq_getElem?_getD, List.getElem?_take]
    by_cases e : k < n
    · simp [e, List.getD_eq_getElem?_getD]
    · simp [e]
  rw [thereN_bit, g]
  cases b with
  | true =>
    rw [if_pos rfl, Nat.testBit_or, thereN_bit, g, Nat.testBit_two_pow]
    by_cases e : i = k
    · subst e; simp [h]
    · have : decide (k < i + 1) = decide (k < i) := decide_eq_decide.2 (by omega)
      simp [e, this]
  | false =>
    rw [if_neg (by decide), thereN_bit, g]
    by_cases e : i = k
    · subst e; simp [h]
    · have : decide (k < i + 1) = decide (k < i) := decide_eq_decide.2 (by omega)
      rw [this]

theorem thereN_lt {T : List Bool} (h : T.length ≤ 6) : thereN T < 2 ^ 6 := by
  refine Nat.lt_pow_two_of_testBit _ fun k hk => ?_
  rw [thereN_bit, List.getD_eq_getElem?_getD, List.getElem?_eq_none (by omega)]
  rfl

set_option maxHeartbeats 4000000 in
set_option maxRecDepth 20000 in
theorem gmask_any {d : PlanD} {G : GoD} {w : World} (hg : GoAt d G w) (h6 : d.heads.n ≤ 6) : Calls Try.prog 18 #[.pointer (some ⟨G.q, 0, none⟩)] w fun e w' => e = .returned (.int .u64 (thereN G.T : Nat)) ∧ w' = w := by
  have c3 := hg.c3
  have HTS := hid hg.ts
  have HTL := hid hg.tl
  have HD : Hid (∀ t : Nat, t = thereN G.T → (Ending.returned (.int .u64 (t : Int)) = .returned (.int .u64 (thereN G.T : Nat)))) := fun t h => by rw [h]
  have HLT : Hid (∀ i, thereN (G.T.take i) < 2 ^ 6) := fun i => thereN_lt (by have := hg.tl; rw [List.length_take]; omega)
  clear hg
  go_enter Try.func18, Try.ntmps18
  go_wp2
  go_loop [4, 3] (fun q nv => ∃ i t : Nat, i ≤ d.heads.n ∧ q = .int .i64 i ∧ nv = .int .u64 (t : Int) ∧ Hid (t = thereN (G.T.take i))) (fun q _ => d.heads.n - (intOf q).toNat)
  case atStart => exact ⟨0, 0, Nat.zero_le _, rfl, rfl, rfl⟩
  case round =>
    obtain ⟨i, t, hi, rfl, rfl, HT⟩ := hrel
    by_cases hlt : i < d.heads.n
    · have hii : (i : Int) < (d.heads.n : Int) := by omega
      have hi0 : (0 : Int) ≤ (i : Int) := by omega
      have hil : i < G.T.length := by rw [HTL.out]; exact hlt
      have hx : G.T[i]? = some G.T[i] := List.getElem?_eq_getElem hil
      have ct := HTS.out i _ hx
      have HN := hid (thereN_take hx)
      have htl : t < 2 ^ 64 := by rw [HT.out]; exact few64 (HLT.out i)
      have hbl : bitN (i : Int) = 2 ^ i := by unfold bitN; rw [if_neg (by omega)]; rfl
      have hor := u64or t (bitN (i : Int)) htl (few64 (bitN_six (by omega)))
      have HC := hid (fun w' => rbit_any (i : Int) (by omega) (by omega) w')
      have HBL := hid hbl
      generalize G.T[i] = B at *
      clear hx hil hbl htl
      cases B with
      | true =>
        have HN2 : Hid (t ||| bitN (i : Int) = thereN (G.T.take (i + 1))) := by show _ = _; rw [HN.out, if_pos rfl, HBL.out, HT.out]
        generalize t ||| bitN (i : Int) = R at *
        generalize bitN (i : Int) = N6 at *
        clear HN HT HBL
        go_wp2_with (go_at_call 34; refine (HC.out _).mono ?_; rintro e w' ⟨rfl, rfl⟩)
        go_round
        case rel => exact ⟨i + 1, R, by omega, by go_num, rfl, HN2⟩
        case measure => simp [intOf]; omega
      | false =>
        have HN2 : Hid (t = thereN (G.T.take (i + 1))) := by show _ = _; rw [HN.out, if_neg (by decide), HT.out]
        clear HN HT HBL HC hor
        go_wp2
        go_round
        case rel => exact ⟨i + 1, t, by omega, by go_num, rfl, HN2⟩
        case measure => simp [intOf]; omega
    · have hii : ¬ (i : Int) < (d.heads.n : Int) := by omega
      have HT2 : Hid (t = thereN G.T) := by show _ = _; rw [HT.out, List.take_of_length_le (by rw [HTL.out]; omega)]
      clear HT
      go_wp2
      go_ret
      exact ⟨HD.out t HT2.out, rfl⟩
end Go.Proofs.Ytcmdgbfppbkfmaa
