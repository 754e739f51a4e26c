/- BitsJoins answers true. -/
import Derived.Test.YtllnedikfikgiaaPart
namespace Go.Proofs.Ytllnedikfikgiaa
open Go.RowKit

theorem first_bad (P : Nat → Prop) (m : Nat) : (∀ j, j < m → P j) ∨ ∃ i, i < m ∧ ¬ P i ∧ ∀ j, j < i → P j := by
  induction m with
  | zero => exact .inl (fun j hj => absurd hj (Nat.not_lt_zero _))
  | succ m ih =>
    rcases ih with h | ⟨i, hi, h1, h2⟩
    · by_cases hp : P m
      · refine .inl (fun j hj => ?_)
        by_cases e : j = m
        · subst e; exact hp
        · exact h j (by omega)
      · exact .inr ⟨m, Nat.lt_succ_self _, hp, h⟩
    · exact .inr ⟨i, by omega, h1, h2⟩

theorem joined_code (ws : List Int) (m j : Nat) (hj : j < m) (hgood : ∀ j, j < m → Mth.Wide ws j) : codeOf ((Mth.off ws m + 7) / 8) ((0 : Int) + (Mth.off ws j : Int)) (ws.getD j 0) = 0 := by
  have h1 := hgood j hj
  have h2 := Mth.off_mono ws (j + 1) m (by omega)
  unfold Mth.Wide at h1
  simp only [Mth.off] at h2
  unfold codeOf
  rw [if_neg (by omega), if_neg (by omega)]

theorem joined_num (ls ws : List Int) (m j : Nat) (hj : j < m) (hgood : ∀ j, j < m → Mth.Wide ws j) (hl : 0 ≤ ls.getD j 0 ∧ ls.getD j 0 < 18446744073709551616) :
    ((Mth.parts (Mth.jn ls ws ((Mth.off ws m + 7) / 8) m) 0 ws m).getD j 0 != bits BinOp.and IntKind.u64 (ls.getD j 0) (maskN (ws.getD j 0))) = false := by
  rw [Mth.parts_at _ _ _ _ _ hj, and_mask _ _ hl (hgood j hj), Int.zero_add, Int.toNat_natCast, Mth.rd_jn _ _ _ _ _ hj (by omega)]
  simp

set_option maxHeartbeats 400000 in
theorem joins_long1 (a b : Option Addr) (n c m d : Nat) (w : World) (h : (100 : Int) < (n : Int)) :
    Calls Try.prog 5 #[.slice a n c, .slice b m d] w fun e w' => e = .returned (.bool true) ∧ Below w.heap.size w w' := by
  go_enter Try.func5, Try.ntmps5
  go_wp2_with fail
  refine (begun _).mono ?_
  rintro e w1 ⟨rfl, hb1⟩
  go_wp2
  go_ret
  exact ⟨rfl, hb1⟩

set_option maxHeartbeats 400000 in
theorem joins_long2 (a b : Option Addr) (n c m d : Nat) (w : World) (h0 : (n : Int) ≤ 100) (h : (100 : Int) < (m : Int)) :
    Calls Try.prog 5 #[.slice a n c, .slice b m d] w fun e w' => e = .returned (.bool true) ∧ Below w.heap.size w w' := by
  go_enter Try.func5, Try.ntmps5
  go_wp2_with fail
  refine (begun _).mono ?_
  rintro e w1 ⟨rfl, hb1⟩
  go_wp2
  go_ret
  exact ⟨rfl, hb1⟩

set_option maxHeartbeats 400000 in
theorem joins_many (a b : Option Addr) (n c m d : Nat) (w : World) (h0 : (n : Int) ≤ 100) (h1 : (m : Int) ≤ 100) (h : n ≠ m) :
    Calls Try.prog 5 #[.slice a n c, .slice b m d] w fun e w' => e = .returned (.bool true) ∧ Below w.heap.size w w' := by
  go_enter Try.func5, Try.ntmps5
  go_wp2_with fail
  refine (begun _).mono ?_
  rintro e w1 ⟨rfl, hb1⟩
  go_wp2_with fail
  refine (join_many _ _ _ _ _ _ _ h).mono ?_
  rintro e w2 ⟨rfl, hb2⟩
  go_wp2
  go_ret
  exact ⟨rfl, bl_alloc (bl_step hb1 hb2)⟩

set_option maxHeartbeats 400000 in
theorem joins_width (a b : Option Addr) (m c d i : Nat) (ws : List Int) (w : World) (h1 : (m : Int) ≤ 100) (hw : Has .i64 w b m ws) (hi : i < m) (hgood : ∀ j, j < i → Mth.Wide ws j) (hbad : ¬ Mth.Wide ws i) :
    Calls Try.prog 5 #[.slice a m c, .slice b m d] w fun e w' => e = .returned (.bool true) ∧ Below w.heap.size w w' := by
  have HG : Hid (∀ j, j < i → Mth.Wide ws j) := hgood
  have HB : Hid (¬ Mth.Wide ws i) := hbad
  clear hgood hbad
  go_enter Try.func5, Try.ntmps5
  go_wp2_with fail
  refine (begun _).mono ?_
  rintro e w1 ⟨rfl, hb1⟩
  go_wp2_with fail
  refine (join_width _ _ _ _ _ i ws _ (by omega) (hw.step hb1) hi HG.out HB.out).mono ?_
  rintro e w2 ⟨rfl, hb2⟩
  go_wp2
  go_ret
  exact ⟨rfl, bl_alloc (bl_step hb1 hb2)⟩

set_option maxHeartbeats 2000000 in
theorem joins_good (a b : Option Addr) (m c d : Nat) (ls ws : List Int) (w : World) (h1 : (m : Int) ≤ 100) (hv : Has .u64 w a m ls) (hw : Has .i64 w b m ws) (hgood : ∀ j, j < m → Mth.Wide ws j) :
    Calls Try.prog 5 #[.slice a m c, .slice b m d] w fun e w' => e = .returned (.bool true) ∧ Below w.heap.size w w' := by
  have HG : Hid (∀ j, j < m → Mth.Wide ws j) := hgood
  have ho := Mth.off_le ws m hgood
  have HN : Hid (∀ j, j < m → ((Mth.parts (Mth.jn ls ws ((Mth.off ws m + 7) / 8) m) 0 ws m).getD j 0 != bits BinOp.and IntKind.u64 (ls.getD j 0) (maskN (ws.getD j 0))) = false) := fun j hj => joined_num ls ws m j hj hgood (hv.num j)
  have HC : Hid (∀ j, j < m → codeOf ((Mth.off ws m + 7) / 8) ((0 : Int) + (Mth.off ws j : Int)) (ws.getD j 0) = 0) := fun j hj => joined_code ws m j hj hgood
  clear hgood
  go_enter Try.func5, Try.ntmps5
  go_wp2_with fail
  refine (begun _).mono ?_
  rintro e w1 ⟨rfl, hb1⟩
  go_wp2_with fail
  refine (join_good _ _ _ _ _ ls ws _ (by omega) (hv.step hb1) (hw.step hb1) HG.out).mono ?_
  rintro e w2 ⟨g2, cp2, rfl, hz2, hb2⟩
  have hb2' := bl_step hb1 hb2
  have hN : (Mth.off ws m + 7) / 8 ≤ 100000 := by omega
  generalize (Mth.off ws m + 7) / 8 = N at *
  go_wp2_with fail
  refine (part_good _ _ _ _ _ _ 0 _ ws _ (by omega) (by omega) hz2.alloc (hw.step (bl_alloc hb2')) HC.out).mono ?_
  rintro e w3 ⟨g3, cp3, rfl, hz3, hb3⟩
  have hb3' := bl_alloc (o := F0) (bl_step (bl_alloc hb2') hb3)
  have y3 := hz3.alloc (o := F0)
  have yv := hv.step hb3'
  have yw := hw.step hb3'
  clear hz2 hz3 hb3 hb2 hb2' hb1 HC HG hv hw
  generalize Mth.parts (Mth.jn ls ws N m) 0 ws m = ps at *
  go_wp2
  go_loopw [9] (fun q wr => ∃ k : Nat, k ≤ m ∧ q = .int .i64 k ∧ Hid (∃ s, wr = (w3.alloc F0).drewN s)) (fun q _ => m - (intOf q).toNat)
  case atStart => exact ⟨0, Nat.zero_le _, rfl, 0, rfl⟩
  case round =>
    obtain ⟨k, hk, rfl, hq⟩ := hrel
    by_cases hlt : k < m
    · obtain ⟨p1, o1, rfl, hp1, hc1⟩ := y3.some (by omega)
      obtain ⟨p2, o2, rfl, hp2, hc2⟩ := yv.some (by omega)
      obtain ⟨p3, o3, rfl, hp3, hc3⟩ := yw.some (by omega)
      have q1 : wr.cell? ⟨p1, o1 + k, none⟩ = some (.int .u64 (ps.getD k 0)) := by obtain ⟨s, e⟩ := hq; rw [e]; exact hc1 k hlt
      have q2 : wr.cell? ⟨p2, o2 + k, none⟩ = some (.int .u64 (ls.getD k 0)) := by obtain ⟨s, e⟩ := hq; rw [e]; exact hc2 k hlt
      have q3 : wr.cell? ⟨p3, o3 + k, none⟩ = some (.int .i64 (ws.getD k 0)) := by obtain ⟨s, e⟩ := hq; rw [e]; exact hc3 k hlt
      have hnum := HN.out k hlt
      clear hc1 hc2 hc3 hp1 hp2 hp3
      have hki : (k : Int) < (m : Int) := by omega
      simp only [List.getD_eq_getElem?_getD] at q1 q2 q3 hnum
      generalize ps[k]?.getD 0 = x at *
      generalize ls[k]?.getD 0 = y at *
      generalize ws[k]?.getD 0 = z at *
      go_wp2
      go_big_quiet ((go_at_call 16; exact Calls.quiet_of_same (mask_int _ _)))
      go_wp2
      go_roundw
      case rel => exact ⟨k + 1, by omega, by go_num, by obtain ⟨s, e⟩ := hq; rw [e]; exact ⟨_, World.drewN_drewN _ _ _⟩⟩
      case measure => simp [intOf]; omega
    · go_wp2
      go_ret
      exact ⟨rfl, by obtain ⟨s, e⟩ := hq; rw [e]; exact below_drewN hb3' s⟩
end Go.Proofs.Ytllnedikfikgiaa
