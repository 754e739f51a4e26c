/- What goes out, fields beside headers, headers: their judges. -/
import Derived.Test.YtajelgjbgehahaaGreatVQFirst
import Derived.Test.YtajelgjbgehahaaGreatVQGreat
import Derived.Test.YtajelgjbgehahaaGreatVSize
namespace Go.Proofs.YtajelgjbgehahaaGreat
open Go.RowKit

/-- where a number stands first; -1: nowhere -/
def IdxIs (L : List Int) (x i : Int) : Prop := (i = -1 ∧ x ∉ L) ∨ (∃ k : Nat, i = k ∧ L[k]? = some x)

set_option maxHeartbeats 2000000 in
set_option maxRecDepth 20000 in
theorem index_any (a : Option Addr) (n c : Nat) (L : List Int) (x : Int) (w : World) (hn : n ≤ 100000) (hL : Has .i64 w a n L) :
    Calls Tryz.prog 118 #[.slice a n c, .int .i64 x] w fun e w' => ∃ i, e = .returned (.int .i64 i) ∧ IdxIs L x i ∧ w' = w := by
  have hlen := hL.1
  have HL := hid hL
  have HN := hid hlen
  obtain ⟨ea, ee⟩ : ∃ ea, a = ea := ⟨_, rfl⟩
  clear hL hlen
  go_enter Tryz.func118, Tryz.ntmps118
  go_wp2
  go_loop [8, 5] (fun q _ => ∃ k : Nat, k ≤ n ∧ q = .int .i64 k ∧ Hid (∀ j : Nat, j < k → L[j]? ≠ some x)) (fun q _ => n - (intOf q).toNat)
  case atStart => exact ⟨0, Nat.zero_le _, rfl, fun j hj => absurd hj (by omega)⟩
  case round =>
    obtain ⟨k, hk, rfl, hz⟩ := hrel
    by_cases hlt : k < n
    · obtain ⟨g, off, y, ea', hy, r0⟩ := int_at (s := ⟨a, n, c⟩) HL.out hlt
      dsimp only at ea'
      subst ea'
      have hki : (k : Int) < (n : Int) := by omega
      by_cases hxy : x = y
      · subst hxy
        have HI : Hid (IdxIs L x k) := .inr ⟨k, rfl, hy⟩
        clear hz hy ee
        go_wp2
        go_ret
        exact ⟨k, rfl, HI.out, rfl⟩
      · have b1 : (x == y) = false := by simpa using hxy
        have HZ : Hid (∀ j : Nat, j < k + 1 → L[j]? ≠ some x) := fun j hj => by
          by_cases ej : j = k
          · subst ej; rw [hy]; intro h; exact hxy (Option.some.inj h).symm
          · exact hz.out j (by omega)
        clear hz hy hxy ee
        go_wp2
        go_round
        case rel => exact ⟨k + 1, by omega, by go_num, HZ⟩
        case measure => simp [intOf]; omega
    · have ek : k = n := by omega
      have HI : Hid (IdxIs L x (-1)) := .inl ⟨rfl, fun h => by
        obtain ⟨i, hi⟩ := List.getElem?_of_mem h
        have := (List.getElem?_eq_some_iff.1 hi).1
        exact hz.out i (by rw [HN.out] at this; omega) hi⟩
      clear hz ee
      subst ek
      go_wp2
      go_ret
      exact ⟨-1, rfl, HI.out, rfl⟩

set_option maxHeartbeats 2000000 in
set_option maxRecDepth 20000 in
theorem contains_any (a : Option Addr) (n c : Nat) (L : List Int) (x : Int) (w : World) (hn : n ≤ 100000) (hL : Has .i64 w a n L) :
    Calls Tryz.prog 88 #[.slice a n c, .int .i64 x] w fun e w' => e = .returned (.bool (decide (x ∈ L))) ∧ w' = w := by
  have HC := hid (index_any a n c L x w hn hL)
  clear hL
  go_enter Tryz.func88, Tryz.ntmps88
  go_wp2_with fail
  refine HC.out.mono ?_
  rintro e w1 ⟨i, rfl, hi, rfl⟩
  rcases hi with ⟨rfl, hx⟩ | ⟨k, rfl, hx⟩
  · have HD := hid (decide_eq_false hx)
    clear HC hx
    go_wp2
    go_ret
    exact ⟨by rw [HD.out]; rfl, rfl⟩
  · have HD := hid (decide_eq_true (List.mem_of_getElem? hx))
    have d0 : decide ((0 : Int) ≤ (k : Int)) = true := decide_eq_true (by omega)
    clear HC hx
    go_wp2
    go_ret
    exact ⟨by rw [HD.out]; rfl, rfl⟩

theorem has_take {w : World} {a : Option Addr} {n k : Nat} {L : List Int} (h : Has .i64 w a n L) (hk : k ≤ n) : Has .i64 w a k (L.take k) := by
  refine ⟨by rw [List.length_take, h.1]; omega, fun x hx => h.2.1 x (List.mem_of_mem_take hx), ?_⟩
  by_cases h0 : k = 0
  · subst h0; exact .inl (by simp)
  · obtain ⟨g, off, e, hg, hc⟩ := h.some (by omega)
    refine .inr ⟨g, off, e, hg, fun i hi => ?_⟩
    rw [hc i (by omega)]
    simp only [List.getD_eq_getElem?_getD, List.getElem?_take, if_pos hi]

set_option maxHeartbeats 8000000 in
set_option maxRecDepth 20000 in
theorem out_any (d : PlanD) (w : World) (hl : d.lie w) (hn : d.out.n ≤ 100000) (k : Nat) (hk : k < d.out.n) :
    Calls Tryz.prog 99 #[d.v, .int .i64 k] w fun e w' => e = .returned (.int .i64 (outC d.p k)) ∧ Below w.heap.size w w' := by
  obtain ⟨g, off, x, ea, hx, c0⟩ := int_at hl.os hk
  have ehs : d.p.hs.length = d.heads.n := by simp [PlanD.p, hl.hs.1]
  have eos : d.p.os.getD k 0 = x := by simp only [PlanD.p, List.getD_eq_getElem?_getD, hx, Option.getD_some]
  have HRES : Hid (outC d.p k = if 0 ≤ x ∧ x < (d.heads.n : Int) then (if x ∈ d.os.take k then 7 else 0) else 1) := by
    show outC d.p k = _
    unfold outC
    rw [eos, ehs]
    rfl
  have HI : Hid (∀ w', Calls Tryz.prog 121 #[.slice d.heads.a d.heads.n d.heads.c, .int .i64 x] w' fun e w'' => e = .returned (.bool (decide (0 ≤ x ∧ x < (d.heads.n : Int)))) ∧ w'' = w') := fun w' => isOfH_any _ _ _ _ w'
  have HCO : Hid (∀ w', Below w.heap.size w w' → Calls Tryz.prog 88 #[.slice (some ⟨g, off, none⟩) k d.out.c, .int .i64 x] w' fun e w'' => e = .returned (.bool (decide (x ∈ d.os.take k))) ∧ w'' = w') := fun w' h => contains_any _ k _ _ x w' (by omega) (by rw [← ea]; exact has_take (hl.os.step h) (by omega))
  obtain ⟨W1, hW⟩ : ∃ W1, W1 = w.alloc (.cells #[.slice d.heads.a d.heads.n d.heads.c, .slice d.mta.a d.mta.n d.mta.c, .slice d.states.a d.states.n d.states.c, .slice d.acts.a d.acts.n d.acts.c, .slice d.tabs.a d.tabs.n d.tabs.c, .slice d.nodes.a d.nodes.n d.nodes.c, .slice (some ⟨g, off, none⟩) d.out.n d.out.c] 209) := ⟨_, rfl⟩
  obtain ⟨b0, h0⟩ : ∃ b0, b0 = w.heap.size := ⟨_, rfl⟩
  have z0 : W1.cell? ⟨b0, 0, none⟩ = some (.slice d.heads.a d.heads.n d.heads.c) := by rw [hW, h0]; exact (World.cell?_alloc_at _ _ _ _ rfl).trans rfl
  have z6 : W1.cell? ⟨b0, 6, none⟩ = some (.slice (some ⟨g, off, none⟩) d.out.n d.out.c) := by rw [hW, h0]; exact (World.cell?_alloc_at _ _ _ _ rfl).trans rfl
  have HB : Hid (Below w.heap.size w W1) := by rw [hW]; exact bl_alloc (Below.refl _ _)
  have c1 := cell_keep c0 HB.out
  have z0' := cell_by z0
  have z6' := cell_by z6
  have c1' := cell_by c1
  have E1 := hid hW
  have E0 := hid h0
  have hki : (k : Int) < (d.out.n : Int) := by omega
  have hkl : (k : Int) ≤ (d.out.n : Int) := by omega
  have hcap : (d.out.n : Int) ≤ (d.out.c : Int) := by have := hl.oc; omega
  clear hW h0 hl hx c0 ehs eos
  by_cases hH : 0 ≤ x ∧ x < (d.heads.n : Int)
  · rw [if_pos hH] at HRES
    rw [decide_eq_true hH] at HI
    clear hH
    go_enter Tryz.func99, Tryz.ntmps99
    go_wp2_with fail
    rw [← E1.out, ← E0.out]
    clear E1 E0
    haveI inhB : ∀ w : World, Inhabited (BelowBy w) := fun w => ⟨⟨w, Below.refl _ _⟩⟩
    refine wp_region_quiet_below (by kernel_rfl) (by kernel_rfl) ?_
    repeat (go_big_quiet_step (first | (go_at_call 121; exact calls_same _ (HI.out _))))
    refine wpQuiet_nil ?_
    intro wq hw'
    obtain ⟨⟨_, hwq⟩, hw''⟩ := hw'
    subst hw''
    have HB2 := hid (bl_step HB.out hwq)
    have z0 := cell_keep z0 hwq
    have z6 := cell_keep z6 hwq
    have c1 := cell_keep c1 hwq
    clear z0' z6' c1' hwq HB
    have z0' := cell_by z0
    have z6' := cell_by z6
    have c1' := cell_by c1
    have HCO : Hid (∀ p : BelowBy wq, Calls Tryz.prog 88 #[.slice (some ⟨g, off, none⟩) k d.out.c, .int .i64 x] p.to fun e w'' => e = .returned (.bool (decide (x ∈ d.os.take k))) ∧ w'' = p.to) := fun p => HCO.out p.to (bl_step HB2.out p.h)
    by_cases hM : x ∈ d.os.take k
    · rw [if_pos hM] at HRES
      rw [decide_eq_true hM] at HCO
      clear hM HI
      go_wp2_with fail
      haveI inhB : ∀ w : World, Inhabited (BelowBy w) := fun w => ⟨⟨w, Below.refl _ _⟩⟩
      refine wp_region_quiet_below (by kernel_rfl) (by kernel_rfl) ?_
      repeat (go_big_quiet_step (first | (go_at_call 88; exact calls_same _ (HCO.out _))))
      refine wpQuiet_nil ?_
      intro wr hw'
      obtain ⟨⟨_, hwr⟩, hw''⟩ := hw'
      subst hw''
      have HE := hid (bl_step HB2.out hwr)
      clear HB2 hwr HCO
      go_wp2
      go_ret
      exact ⟨by rw [HRES.out]; rfl, HE.out⟩
    · rw [if_neg hM] at HRES
      rw [decide_eq_false hM] at HCO
      clear hM HI
      go_wp2_with fail
      haveI inhB : ∀ w : World, Inhabited (BelowBy w) := fun w => ⟨⟨w, Below.refl _ _⟩⟩
      refine wp_region_quiet_below (by kernel_rfl) (by kernel_rfl) ?_
      repeat (go_big_quiet_step (first | (go_at_call 88; exact calls_same _ (HCO.out _))))
      refine wpQuiet_nil ?_
      intro wr hw'
      obtain ⟨⟨_, hwr⟩, hw''⟩ := hw'
      subst hw''
      have HE := hid (bl_step HB2.out hwr)
      clear HB2 hwr HCO
      go_wp2
      go_ret
      exact ⟨by rw [HRES.out]; rfl, HE.out⟩
  · rw [if_neg hH] at HRES
    rw [decide_eq_false hH] at HI
    clear hH HCO
    go_enter Tryz.func99, Tryz.ntmps99
    go_wp2_with fail
    rw [← E1.out, ← E0.out]
    clear E1 E0
    haveI inhB : ∀ w : World, Inhabited (BelowBy w) := fun w => ⟨⟨w, Below.refl _ _⟩⟩
    refine wp_region_quiet_below (by kernel_rfl) (by kernel_rfl) ?_
    repeat (go_big_quiet_step (first | (go_at_call 121; exact calls_same _ (HI.out _))))
    refine wpQuiet_nil ?_
    intro wq hw'
    obtain ⟨⟨_, hwq⟩, hw''⟩ := hw'
    subst hw''
    have HE := hid (bl_step HB.out hwq)
    clear HB hwq
    go_wp2
    go_ret
    exact ⟨by rw [HRES.out]; rfl, HE.out⟩
end Go.Proofs.YtajelgjbgehahaaGreat
