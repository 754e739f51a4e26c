/- A visit of a state: what is wrong with it; what was taken behind it. -/
import Derived.Test.YtajelgjbgehahaaGreatVWLead
import Derived.Test.YtajelgjbgehahaaGreatVSize
namespace Go.Proofs.YtajelgjbgehahaaGreat
open Go.RowKit

theorem and_bit (m h : Nat) : m &&& 2 ^ h = 0 ↔ m.testBit h = false := by
  constructor
  · intro e
    have := congrArg (Nat.testBit · h) e
    simpa [Nat.testBit_and, Nat.testBit_two_pow_self] using this
  · intro e
    refine Nat.eq_of_testBit_eq fun k => ?_
    rw [Nat.testBit_and, Nat.testBit_two_pow, Nat.zero_testBit]
    by_cases hk : h = k
    · subst hk; simp [e]
    · simp [hk]

theorem andNot_bit (M h : Nat) (hM : M < 18446744073709551616) (hh : h < 64) : 2 ^ h &&& (18446744073709551615 - M) = 0 ↔ M.testBit h = true := by
  have e : 18446744073709551615 - M = 2 ^ 64 - (M + 1) := by omega
  rw [e, Nat.and_comm, and_bit, Nat.testBit_two_pow_sub_succ (by omega)]
  simp [hh]

theorem own_zero (m : Nat) (h : Int) : m &&& bitN h = 0 ↔ ¬ (0 ≤ h ∧ m.testBit h.toNat = true) := by
  unfold bitN
  by_cases e : h < 0
  · rw [if_pos e, Nat.and_zero]
    exact ⟨fun _ h => by omega, fun _ => rfl⟩
  · rw [if_neg e, and_bit]
    constructor
    · rintro h1 ⟨_, h2⟩
      rw [h1] at h2; cases h2
    · intro h1
      cases h2 : m.testBit h.toNat with
      | false => rfl
      | true => exact absurd ⟨by omega, h2⟩ h1

theorem gone_zero (m : Nat) (h r : Int) (hm : m < 2 ^ 6) (hh : h < 6) (hr : r < 6) : bits .andNot .u64 (bitN r : Int) ((m ||| bitN h : Nat) : Int) = 0 ↔ ¬ (0 ≤ r ∧ r ≠ h ∧ m.testBit r.toNat = false) := by
  have hb : ∀ x : Int, x < 6 → bitN x < 2 ^ 6 := fun x hx => by
    unfold bitN
    split
    · decide
    · exact Nat.pow_lt_pow_right (by decide) (by omega)
  have ho : m ||| bitN h < 2 ^ 6 := Nat.or_lt_two_pow hm (hb h hh)
  rw [u64_andNot_nat _ _ (by have := hb r hr; omega) (by omega)]
  by_cases e : r < 0
  · have : bitN r = 0 := by unfold bitN; rw [if_pos e]
    rw [this, Nat.zero_and]
    exact ⟨fun _ h => by omega, fun _ => rfl⟩
  · have er : bitN r = 2 ^ r.toNat := by unfold bitN; rw [if_neg e]
    rw [er]
    have key := andNot_bit (m ||| bitN h) r.toNat (by omega) (by omega)
    rw [Nat.testBit_or] at key
    have hbt : (bitN h).testBit r.toNat = decide (r = h) := by
      unfold bitN
      by_cases eh : h < 0
      · rw [if_pos eh, Nat.zero_testBit]
        exact (decide_eq_false (by omega)).symm
      · rw [if_neg eh, Nat.testBit_two_pow]
        by_cases e2 : r = h
        · subst e2; simp
        · rw [decide_eq_false e2]
          exact decide_eq_false (by omega)
    rw [hbt, Bool.or_eq_true, decide_eq_true_eq] at key
    constructor
    · rintro h0 ⟨_, h1, h2⟩
      rcases key.1 (by omega) with h3 | h3
      · rw [h2] at h3; cases h3
      · exact h1 h3
    · intro h0
      have : m.testBit r.toNat = true ∨ r = h := by
        by_cases e2 : r = h
        · exact .inr e2
        · cases h2 : m.testBit r.toNat with
          | true => exact .inl rfl
          | false => exact absurd ⟨by omega, e2, h2⟩ h0
      have := key.2 this
      omega

/-- the value of a visit -/
@[reducible] def visV (q : Nat) (x : StateD) (s : Wk.Sets) : Value := .agg #[.pointer (some ⟨q, 0, none⟩), .int .i64 x.head, .int .i64 x.r.h, .int .i64 x.r.f, .slice x.cases.a x.cases.n x.cases.c, .int .i64 x.els, .int .u64 (s.must : Int), .int .u64 (s.may : Int), .int .i64 (s.least : Int), .int .i64 (s.most : Int), .bool s.there]
@[reducible] def visB (q : Nat) (x : StateD) (s : Wk.Sets) : Obj := .cells #[.pointer (some ⟨q, 0, none⟩), .int .i64 x.head, .int .i64 x.r.h, .int .i64 x.r.f, .slice x.cases.a x.cases.n x.cases.c, .int .i64 x.els, .int .u64 (s.must : Int), .int .u64 (s.may : Int), .int .i64 (s.least : Int), .int .i64 (s.most : Int), .bool s.there] 215

/-- what of a visit's block is asked -/
structure VisB (q : Nat) (x : StateD) (s : Wk.Sets) (b : Nat) (w : World) : Prop where
  c0 : w.cell? ⟨b, 0, none⟩ = some (.pointer (some ⟨q, 0, none⟩))
  c1 : w.cell? ⟨b, 1, none⟩ = some (.int .i64 x.head)
  c2 : w.cell? ⟨b, 2, none⟩ = some (.int .i64 x.r.h)
  c3 : w.cell? ⟨b, 3, none⟩ = some (.int .i64 x.r.f)
  c4 : w.cell? ⟨b, 4, none⟩ = some (.slice x.cases.a x.cases.n x.cases.c)
  c5 : w.cell? ⟨b, 5, none⟩ = some (.int .i64 x.els)
  c6 : w.cell? ⟨b, 6, none⟩ = some (.int .u64 (s.must : Int))
  c7 : w.cell? ⟨b, 7, none⟩ = some (.int .u64 (s.may : Int))
  c8 : w.cell? ⟨b, 8, none⟩ = some (.int .i64 (s.least : Int))
  c9 : w.cell? ⟨b, 9, none⟩ = some (.int .i64 (s.most : Int))
  c10 : w.cell? ⟨b, 10, none⟩ = some (.bool s.there)

theorem visB_new (q : Nat) (x : StateD) (s : Wk.Sets) (w : World) : VisB q x s w.heap.size (w.alloc (visB q x s)) := by
  refine ⟨?_, ?_, ?_, ?_, ?_, ?_, ?_, ?_, ?_, ?_, ?_⟩ <;> exact (World.cell?_alloc_at _ _ _ _ rfl).trans rfl

theorem VisB.step {q : Nat} {x : StateD} {s : Wk.Sets} {b : Nat} {w w' : World} (h : VisB q x s b w) (k : Below w.heap.size w w') : VisB q x s b w' :=
  ⟨cell_keep h.c0 k, cell_keep h.c1 k, cell_keep h.c2 k, cell_keep h.c3 k, cell_keep h.c4 k, cell_keep h.c5 k, cell_keep h.c6 k, cell_keep h.c7 k, cell_keep h.c8 k, cell_keep h.c9 k, cell_keep h.c10 k⟩
theorem VisB.but {q : Nat} {x : StateD} {s : Wk.Sets} {b g : Nat} {w w' : World} (h : VisB q x s b w) (k : But g w w') (hb : b ≠ g) : VisB q x s b w' :=
  ⟨k.cell hb h.c0, k.cell hb h.c1, k.cell hb h.c2, k.cell hb h.c3, k.cell hb h.c4, k.cell hb h.c5, k.cell hb h.c6, k.cell hb h.c7, k.cell hb h.c8, k.cell hb h.c9, k.cell hb h.c10⟩

set_option maxHeartbeats 8000000 in
set_option maxRecDepth 20000 in
theorem vwrong_any (q : Nat) (x : StateD) (s : Wk.Sets) (w : World) (hs : s.few) (hh : x.head < 6) (hr : 0 < x.cases.n → x.r.h < 6) (hn : x.cs.length = x.cases.n) :
    Calls Tryz.prog 101 #[visV q x s] w fun e w' => e = .returned (.int .i64 (wrongN x.p s)) ∧ Below w.heap.size w w' := by
  have HB : Hid (∀ o, Below w.heap.size w (w.alloc o)) := fun o => bl_alloc (Below.refl _ _)
  have hbl : bitN x.head < 2 ^ 6 := by
    unfold bitN
    split
    · decide
    · exact Nat.pow_lt_pow_right (by decide) (by omega)
  have h1 := u64and s.may (bitN x.head) (few64 hs.ma) (few64 hbl)
  have h2 := u64or s.must (bitN x.head) (few64 hs.mu) (few64 hbl)
  have HO : Hid (∀ w', Calls Tryz.prog 133 #[.int .i64 x.head] w' fun e w'' => e = .returned (.int .u64 (bitN x.head)) ∧ w'' = w') := fun w' => wbit_any x.head hh w'
  have hz := own_zero s.may x.head
  by_cases hA : s.may &&& bitN x.head = 0
  · have hA' := hz.1 hA
    have hd : ((((s.may &&& bitN x.head : Nat) : Int)) != 0) = false := by rw [hA]; rfl
    have hw1 : wrongN x.p s = if 0 < x.cs.length ∧ 0 ≤ x.r.h ∧ x.r.h ≠ x.head ∧ s.must.testBit x.r.h.toNat = false then 12 else 0 := by
      show (if 0 ≤ x.head ∧ s.may.testBit x.head.toNat = true then (7 : Int) else if 0 < x.cs.length ∧ 0 ≤ x.r.h ∧ x.r.h ≠ x.head ∧ s.must.testBit x.r.h.toNat = false then 12 else 0) = _
      rw [if_neg hA']
    by_cases hc : 0 < x.cases.n
    · have hg := gone_zero s.must x.head x.r.h hs.mu hh (hr hc)
      have HR : Hid (∀ w', Calls Tryz.prog 133 #[.int .i64 x.r.h] w' fun e w'' => e = .returned (.int .u64 (bitN x.r.h)) ∧ w'' = w') := fun w' => wbit_any x.r.h (hr hc) w'
      obtain ⟨V, hV⟩ : ∃ V, V = bits .andNot .u64 (bitN x.r.h : Int) ((s.must ||| bitN x.head : Nat) : Int) := ⟨_, rfl⟩
      rw [← hV] at hg
      have HV := hid hV
      have hW : Hid (wrongN x.p s = if V = 0 then 0 else 12) := by
        show _ = _
        rw [hw1]
        by_cases hv : V = 0
        · rw [if_pos hv, if_neg (fun h => hg.1 hv h.2)]
        · rw [if_neg hv, if_pos ⟨by omega, Decidable.byContradiction fun h => hv (hg.2 h)⟩]
      have hci : decide ((0 : Int) < (x.cases.n : Int)) = true := decide_eq_true (by omega)
      have hcn : decide (0 < x.cases.n) = true := decide_eq_true hc
      have hV' := hV.symm
      clear hz hw1 hg hA' hr hn hs hh hbl hV
      generalize ((s.may &&& bitN x.head : Nat) : Int) = M1 at *
      generalize ((s.must ||| bitN x.head : Nat) : Int) = M2 at *
      generalize wrongN x.p s = R at *
      obtain ⟨W1, eW⟩ : ∃ W1, W1 = w.alloc (visB q x s) := ⟨_, rfl⟩
      obtain ⟨b, eb⟩ : ∃ b, b = w.heap.size := ⟨_, rfl⟩
      obtain ⟨c0, c1, c2, c3, c4, c5, c6, c7, c8, c9, c10⟩ : VisB q x s b W1 := by rw [eW, eb]; exact visB_new q x s w
      have HB1 : Hid (Below w.heap.size w W1) := by rw [eW]; exact HB.out _
      have EW := hid eW
      have EB := hid eb
      clear eW eb HB
      have z2 := cell_by c2
      have z4 := cell_by c4
      have z6 := cell_by c6
      go_enter Tryz.func101, Tryz.ntmps101
      go_wp2_with fail
      rw [← EW.out, ← EB.out]
      clear EW EB
      refine (HO.out _).mono ?_
      rintro e w1 ⟨rfl, rfl⟩
      clear HO
      go_wp2_with fail
      haveI inhB : ∀ w : World, Inhabited (BelowBy w) := fun w => ⟨⟨w, Below.refl _ _⟩⟩
      refine wp_region_quiet_below (by kernel_rfl) (by kernel_rfl) ?_
      repeat (go_big_quiet_step (first | (go_at_call 133; exact calls_same _ (HR.out _))))
      refine wpQuiet_nil ?_
      intro _ hw'
      obtain ⟨⟨wq, hwq⟩, hw''⟩ := hw'
      subst hw''
      have HE := hid (bl_step HB1.out hwq)
      clear HB1 hwq HR z2 z4 z6 inhB
      by_cases hv : V = 0
      · rw [hv] at hW
        rw [if_pos rfl] at hW
        subst hv
        go_wp2
        go_ret
        exact ⟨by rw [hW.out]; rfl, HE.out⟩
      · rw [if_neg hv] at hW
        have hvb : (V != 0) = true := by rw [bne_iff_ne]; exact hv
        clear hv
        go_wp2
        go_ret
        exact ⟨by rw [hW.out]; rfl, HE.out⟩
    · have hW : Hid (wrongN x.p s = 0) := by
        show _ = _
        rw [hw1, if_neg (by omega)]
      have hci : decide ((0 : Int) < (x.cases.n : Int)) = false := decide_eq_false (by omega)
      have hcn : decide (0 < x.cases.n) = false := decide_eq_false hc
      clear hz hw1 hA' hr hn hs hh hbl h2 hc
      generalize ((s.may &&& bitN x.head : Nat) : Int) = M1 at *
      generalize wrongN x.p s = R at *
      obtain ⟨W1, eW⟩ : ∃ W1, W1 = w.alloc (visB q x s) := ⟨_, rfl⟩
      obtain ⟨b, eb⟩ : ∃ b, b = w.heap.size := ⟨_, rfl⟩
      obtain ⟨c0, c1, c2, c3, c4, c5, c6, c7, c8, c9, c10⟩ : VisB q x s b W1 := by rw [eW, eb]; exact visB_new q x s w
      have HB1 : Hid (Below w.heap.size w W1) := by rw [eW]; exact HB.out _
      have EW := hid eW
      have EB := hid eb
      clear eW eb HB
      have z4 := cell_by c4
      go_enter Tryz.func101, Tryz.ntmps101
      go_wp2_with fail
      rw [← EW.out, ← EB.out]
      clear EW EB
      refine (HO.out _).mono ?_
      rintro e w1 ⟨rfl, rfl⟩
      clear HO
      go_wp2_with fail
      haveI inhB : ∀ w : World, Inhabited (BelowBy w) := fun w => ⟨⟨w, Below.refl _ _⟩⟩
      refine wp_region_quiet_below (by kernel_rfl) (by kernel_rfl) ?_
      repeat (go_big_quiet_step (fail))
      refine wpQuiet_nil ?_
      intro _ hw'
      obtain ⟨⟨wq, hwq⟩, hw''⟩ := hw'
      subst hw''
      have HE := hid (bl_step HB1.out hwq)
      clear HB1 hwq z4 inhB
      go_wp2
      go_ret
      exact ⟨by rw [hW.out]; rfl, HE.out⟩
  · have hA' : 0 ≤ x.head ∧ s.may.testBit x.head.toNat = true := Decidable.byContradiction fun h => hA (hz.2 h)
    have hd : ((((s.may &&& bitN x.head : Nat) : Int)) != 0) = true := by rw [bne_iff_ne]; omega
    have hW : Hid (wrongN x.p s = 7) := by
      show (if 0 ≤ x.head ∧ s.may.testBit x.head.toNat = true then (7 : Int) else if 0 < x.cs.length ∧ 0 ≤ x.r.h ∧ x.r.h ≠ x.head ∧ s.must.testBit x.r.h.toNat = false then 12 else 0) = 7
      rw [if_pos hA']
    clear hz hA hA' hr hn hs hh hbl h2
    generalize ((s.may &&& bitN x.head : Nat) : Int) = M1 at *
    generalize wrongN x.p s = R at *
    go_enter Tryz.func101, Tryz.ntmps101
    go_wp2_with fail
    refine (HO.out _).mono ?_
    rintro e w1 ⟨rfl, rfl⟩
    clear HO
    go_wp2
    go_ret
    exact ⟨by rw [hW.out]; rfl, HB.out _⟩
end Go.Proofs.YtajelgjbgehahaaGreat
