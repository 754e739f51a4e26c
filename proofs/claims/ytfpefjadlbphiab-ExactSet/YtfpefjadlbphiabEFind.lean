/- What Find does. -/
import Derived.Test.YtfpefjadlbphiabEWith
namespace Go.Proofs.Ytfpefjadlbphiab
open Go.RowKit Go.Maps

/-- what is said of a block that two values lie in -/
def Lies (w : World) (r : Nat) (h : Int × List Int) : Prop :=
  ∃ y a n c, w.cell? ⟨r, 0, none⟩ = some (.int .i64 y) ∧ w.cell? ⟨r, 1, none⟩ = some (.slice a n c) ∧ w.frozen? ⟨r, 0, none⟩ = false ∧ w.frozen? ⟨r, 1, none⟩ = false ∧ Says w (.agg #[.int .i64 y, .slice a n c]) h

theorem put_cells {X : World} {f : Nat} {x y : Value} (c0 : X.cell? ⟨f, 0, none⟩ = some x) (c1 : X.cell? ⟨f, 1, none⟩ = some y) (u v : Value) :
    ((X.setCell ⟨f, 0, none⟩ u).setCell ⟨f, 1, none⟩ v).cell? ⟨f, 0, none⟩ = some u ∧ ((X.setCell ⟨f, 0, none⟩ u).setCell ⟨f, 1, none⟩ v).cell? ⟨f, 1, none⟩ = some v := by
  have e1 : (X.setCell ⟨f, 0, none⟩ u).cell? ⟨f, 1, none⟩ = some y := (World.cell?_setCell_other _ _ _ _ (by simp)).trans c1
  refine ⟨?_, World.cell?_setCell_same _ _ _ e1⟩
  rw [World.cell?_setCell_other _ _ _ _ (by simp)]
  exact World.cell?_setCell_same _ _ _ c0

/-- numbers stay where a value that is none of them lay -/
theorem Has.over {w : World} {a : Option Addr} {len : Nat} {zs : List Int} (h : Has .u64 w a len zs) {p : Addr} {u : Value} (hp : w.cell? p = .some u) (hu : ∀ x, u ≠ .int .u64 x) (v : Value) : Has .u64 (w.setCell p v) a len zs := by
  refine ⟨h.1, h.2.1, ?_⟩
  rcases h.2.2 with h | ⟨b, off, rfl, hlt, hc⟩
  · exact .inl h
  · refine .inr ⟨b, off, rfl, by simpa [World.setCell] using hlt, fun i hi => ?_⟩
    rw [World.cell?_setCell_other]
    · exact hc i hi
    · intro e
      have := hc i hi
      rw [← e, hp] at this
      exact hu _ (by simpa using this)

theorem Says.over {w : World} {v : Value} {h : Int × List Int} (s : Says w v h) {r : Nat} {y : Int} {a : Option Addr} {n c : Nat} (c0 : w.cell? ⟨r, 0, none⟩ = some (.int .i64 y)) (c1 : w.cell? ⟨r, 1, none⟩ = some (.slice a n c)) (x z : Value) :
    Says ((w.setCell ⟨r, 0, none⟩ x).setCell ⟨r, 1, none⟩ z) v h := by
  obtain ⟨d, m, e, hv, hn, hm, hh⟩ := s
  have e1 : (w.setCell ⟨r, 0, none⟩ x).cell? ⟨r, 1, none⟩ = some (.slice a n c) := (World.cell?_setCell_other _ _ _ _ (by simp)).trans c1
  exact ⟨d, m, e, hv, hn, hm, (hh.over c0 (by intro _ h; cases h) x).over e1 (by intro _ h; cases h) z⟩

theorem new_two (w : World) (x y : Value) (t : TypeId) :
    (w.alloc (.cells #[x, y] t)).cell? ⟨w.heap.size, 0, none⟩ = some x ∧ (w.alloc (.cells #[x, y] t)).cell? ⟨w.heap.size, 1, none⟩ = some y ∧
    (w.alloc (.cells #[x, y] t)).frozen? ⟨w.heap.size, 0, none⟩ = false ∧ (w.alloc (.cells #[x, y] t)).frozen? ⟨w.heap.size, 1, none⟩ = false :=
  ⟨by simp, by simp, by simp, by simp⟩

theorem third_block (w : World) (o1 o2 : Obj) (x y : Value) (t : TypeId) :
    (((w.alloc o1).alloc o2).alloc (.cells #[x, y] t)).cell? ⟨w.heap.size + 2, 0, none⟩ = some x ∧ (((w.alloc o1).alloc o2).alloc (.cells #[x, y] t)).cell? ⟨w.heap.size + 2, 1, none⟩ = some y ∧
    (((w.alloc o1).alloc o2).alloc (.cells #[x, y] t)).frozen? ⟨w.heap.size + 2, 0, none⟩ = false ∧ (((w.alloc o1).alloc o2).alloc (.cells #[x, y] t)).frozen? ⟨w.heap.size + 2, 1, none⟩ = false := by
  have e : w.heap.size + 2 = ((w.alloc o1).alloc o2).heap.size := by simp
  rw [e]
  exact new_two _ _ _ _

theorem first_block (w : World) (o2 o3 : Obj) (x : Value) (t : TypeId) : (((w.alloc (.cells #[x] t)).alloc o2).alloc o3).cell? ⟨w.heap.size, 0, none⟩ = some x := by
  have h : (w.alloc (.cells #[x] t)).cell? ⟨w.heap.size, 0, none⟩ = some x := by simp
  exact (grew_below (bl_alloc (bl_alloc (Below.refl _ _)))).cell h

set_option maxHeartbeats 400000 in
theorem find1_any {w : World} {p b q r K M : Nat} {C : List UInt8 → Option (Int × List Int)} {ss : List (List UInt8)} {x : List UInt8} {y : Int} {a : Option Addr} {n c : Nat} (t : Tab w p b K M C ss) (hl : x.length ≤ 1000000) (hq : w.cell? ⟨q, 0, none⟩ = some (.pointer (some ⟨p, 0, none⟩)))
    (r0 : w.cell? ⟨r, 0, none⟩ = some (.int .i64 y)) (r1 : w.cell? ⟨r, 1, none⟩ = some (.slice a n c)) (f0 : w.frozen? ⟨r, 0, none⟩ = false) (f1 : w.frozen? ⟨r, 1, none⟩ = false) :
    Calls Try.prog 56 #[.string ⟨x.toArray⟩, .pointer (some ⟨q, 0, none⟩), .pointer (some ⟨r, 0, none⟩)] w fun e w' => e = .returned (.tuple #[]) ∧ Lies w' r ((C x).getD (0, [])) ∧ Below r w w' := by
  obtain ⟨D, hD⟩ := t.map
  have c2 := t.c2
  obtain ⟨y1, a1, k1, d1, hrun, hs⟩ := look_at hD _ hl
  have hr := World.block_lt_of_cell? w _ r0
  have HS := hid hs
  have R0 := hid r0
  have R1 := hid r1
  have F0' := hid f0
  have F1' := hid f1
  clear t hD hs r0 r1 f0 f1
  go_enter Try.func56, Try.ntmps56
  go_wp2_with (go_at_call 52; refine (copied_any HS.out).mono ?_; rintro e w1 ⟨u, rfl, hsu, hb1⟩; have hsu' := hsu; obtain ⟨a2, k2, d2, rfl, _⟩ := hsu; have g0 := ((hb1.cell (p := ⟨r, 0, none⟩) hr).trans R0.out); have g1 := ((hb1.cell (p := ⟨r, 1, none⟩) hr).trans R1.out); have g2 := ((hb1.frozen (p := ⟨r, 0, none⟩) hr).trans F0'.out); have g3 := ((hb1.frozen (p := ⟨r, 1, none⟩) hr).trans F1'.out))
  go_end0
  have hp := put_cells g0 g1 (.int .i64 ((C x).getD (0, [])).1) (.slice a2 k2 d2)
  exact ⟨rfl, ⟨_, _, _, _, hp.1, hp.2, by simpa using g2, by simpa using g3, hsu'.over g0 g1 _ _⟩, ((hb1.mono (Nat.le_of_lt hr)).setCell (Nat.le_refl _) _).setCell (Nat.le_refl _) _⟩

set_option maxHeartbeats 400000 in
theorem with_find {w : World} {p b q r K M c : Nat} {C : List UInt8 → Option (Int × List Int)} {ss : List (List UInt8)} {a : Option Addr} {ks : List Int} {y : Int} {d : Option Addr} {n e : Nat} (t : Tab w p b K M C ss) (hK : K ≤ 1000) (hk : Has .u64 w a K ks) (hC : (C (Mth.nm ks)).isSome = true) (hq : w.cell? ⟨q, 0, none⟩ = some (.pointer (some ⟨p, 0, none⟩)))
    (r0 : w.cell? ⟨r, 0, none⟩ = some (.int .i64 y)) (r1 : w.cell? ⟨r, 1, none⟩ = some (.slice d n e)) (f0 : w.frozen? ⟨r, 0, none⟩ = false) (f1 : w.frozen? ⟨r, 1, none⟩ = false) :
    Calls Try.prog 49 #[.pointer (some ⟨p, 0, none⟩), .slice a K c, .func (.func 56) #[] #[.pointer (some ⟨q, 0, none⟩), .pointer (some ⟨r, 0, none⟩)]] w fun e w' => e = .returned (.int .i64 0) ∧ Lies w' r ((C (Mth.nm ks)).getD (0, [])) ∧ Below r w w' := by
  have c0 := t.c0
  have hne : ((K : Int) != (K : Int)) = false := by simp
  have hl : (Mth.nm ks).length ≤ 1000000 := by rw [Mth.nm_length, hk.1]; omega
  have hr := World.block_lt_of_cell? w _ r0
  have HT := hid t
  have HK := hid hk
  have HQ := hid hq
  have R0 := hid r0
  have R1 := hid r1
  have G0 := hid f0
  have G1 := hid f1
  clear t hk hq r0 r1 f0 f1
  go_enter Try.func49, Try.ntmps49
  go_wp2_with fail
  refine (name_any _ _ _ ks _ hK HK.out).mono ?_
  rintro e w1 ⟨rfl, hb1⟩
  have t1 := HT.out.step hb1
  obtain ⟨D, hD⟩ := t1.map
  obtain ⟨y1, a1, k1, d1, hrun, hs⟩ := look_ok hD _ hl
  rw [hC] at hrun
  have c2 := t1.c2
  have T2 := hid (t1.step (bl_alloc (o := HC y1 a1 k1 d1) (Below.refl w1.heap.size w1)))
  have B2 := bl_alloc (o := HC y1 a1 k1 d1) hb1
  have GR := grew_below B2
  have Q2 := hid (GR.cell HQ.out)
  have S0 := hid (GR.cell R0.out)
  have S1 := hid (GR.cell R1.out)
  have P0 := hid ((GR.frozen R0.out).trans G0.out)
  have P1 := hid ((GR.frozen R1.out).trans G1.out)
  clear t1 hD hs hC HT HK HQ c0 hb1 R0 R1 G0 G1 GR
  go_wp2_with (go_at_call 56; refine (find1_any T2.out hl Q2.out S0.out S1.out P0.out P1.out).mono ?_; rintro e w3 ⟨rfl, hl3, hb3⟩)
  go_ret
  exact ⟨rfl, hl3, (B2.mono (Nat.le_of_lt hr)).trans hb3⟩

/-- what is found -/
def found (C : List UInt8 → Option (Int × List Int)) (K m : Nat) (ks : List Int) : Option (Int × List Int) := if m = K then C (Mth.nm ks) else none

theorem Lies.below {w w' : World} {r : Nat} {h : Int × List Int} (l : Lies w r h) (hb : Below w.heap.size w w') : Lies w' r h := by
  obtain ⟨y, a, n, c, c0, c1, f0, f1, s⟩ := l
  have G := grew_below hb
  exact ⟨y, a, n, c, G.cell c0, G.cell c1, (G.frozen c0).trans f0, (G.frozen c1).trans f1, s.grew G⟩

theorem mid_cells {w w1 : World} {o1 : Obj} {x y : Int} {a d : Option Addr} {n c m e : Nat} (hb : Below (w.heap.size + 2) (((w.alloc o1).alloc (HC x a n c)).alloc (HC y d m e)) w1) :
    w1.cell? ⟨w.heap.size + 1, 0, none⟩ = some (.int .i64 x) ∧ w1.cell? ⟨w.heap.size + 1, 1, none⟩ = some (.slice a n c) ∧ w1.frozen? ⟨w.heap.size + 1, 0, none⟩ = false ∧ w1.frozen? ⟨w.heap.size + 1, 1, none⟩ = false := by
  have hh := new_two (w.alloc o1) (.int .i64 x) (.slice a n c) 59
  have e1 : (w.alloc o1).heap.size = w.heap.size + 1 := by simp
  rw [e1] at hh
  obtain ⟨g0, g1, g2, g3⟩ := hh
  have G := grew_below (bl_alloc (o := HC y d m e) (Below.refl ((w.alloc o1).alloc (HC x a n c)).heap.size ((w.alloc o1).alloc (HC x a n c))))
  exact ⟨(hb.cell (p := ⟨w.heap.size + 1, 0, none⟩) (by simp)).trans (G.cell g0), (hb.cell (p := ⟨w.heap.size + 1, 1, none⟩) (by simp)).trans (G.cell g1),
    (hb.frozen (p := ⟨w.heap.size + 1, 0, none⟩) (by simp)).trans ((G.frozen g0).trans g2), (hb.frozen (p := ⟨w.heap.size + 1, 1, none⟩) (by simp)).trans ((G.frozen g1).trans g3)⟩

set_option maxHeartbeats 1000000 in
theorem find_any {w : World} {p b K M m c : Nat} {C : List UInt8 → Option (Int × List Int)} {ss : List (List UInt8)} {a : Option Addr} {ks : List Int} (t : Tab w p b K M C ss) (hK : K ≤ 1000) (hk : Has .u64 w a m ks) :
    Calls Try.prog 33 #[.pointer (some ⟨p, 0, none⟩), .slice a m c] w fun e w' => ∃ v, e = .returned (.tuple #[v, .bool (found C K m ks).isSome]) ∧ Says w' v ((found C K m ks).getD (0, [])) ∧ Below w.heap.size w w' := by
  have B0 := bl_alloc (o := HC 0 none 0 0) (bl_alloc (o := HC 0 none 0 0) (bl_alloc (o := PC p) (Below.refl w.heap.size w)))
  have T0 := t.step B0
  have K0 : Has .u64 (((w.alloc (PC p)).alloc (HC 0 none 0 0)).alloc (HC 0 none 0 0)) a m ks := hk.alloc.alloc.alloc
  have L0 : Lies (((w.alloc (PC p)).alloc (HC 0 none 0 0)).alloc (HC 0 none 0 0)) (w.heap.size + 2) (0, []) := ⟨0, none, 0, 0, (third_block _ _ _ _ _ _).1, (third_block _ _ _ _ _ _).2.1, (third_block _ _ _ _ _ _).2.2.1, (third_block _ _ _ _ _ _).2.2.2, says_none _⟩
  have hin : Calls Try.prog 49 #[.pointer (some ⟨p, 0, none⟩), .slice a m c, .func (.func 56) #[] #[.pointer (some ⟨w.heap.size, 0, none⟩), .pointer (some ⟨w.heap.size + 2, 0, none⟩)]] (((w.alloc (PC p)).alloc (HC 0 none 0 0)).alloc (HC 0 none 0 0))
      fun e w' => ∃ x : Int, e = .returned (.int .i64 x) ∧ (x == 0) = (found C K m ks).isSome ∧ Lies w' (w.heap.size + 2) ((found C K m ks).getD (0, [])) ∧ Below (w.heap.size + 2) (((w.alloc (PC p)).alloc (HC 0 none 0 0)).alloc (HC 0 none 0 0)) w' := by
    unfold found
    by_cases hm : m = K
    · subst hm
      rw [if_pos rfl]
      cases hC : (C (Mth.nm ks)).isSome with
      | true => exact (with_find T0 hK K0 hC (first_block _ _ _ _ _) (third_block _ _ _ _ _ _).1 (third_block _ _ _ _ _ _).2.1 (third_block _ _ _ _ _ _).2.2.1 (third_block _ _ _ _ _ _).2.2.2).mono fun e w' ⟨he, hl, hb⟩ => ⟨_, he, rfl, hl, hb⟩
      | false =>
        have e : C (Mth.nm ks) = none := by cases h : C (Mth.nm ks) with
          | none => rfl
          | some _ => rw [h] at hC; cases hC
        rw [e]
        exact (with_none T0 hK K0 hC).mono fun e w' ⟨he, hb⟩ => ⟨_, he, rfl, L0.below hb, hb.mono (by simp)⟩
    · rw [if_neg hm]
      exact (with_many T0 hm).mono fun e w' ⟨he, hw⟩ => ⟨_, he, rfl, by rw [hw]; exact L0, by rw [hw]; exact Below.refl _ _⟩
  have HI := hid hin
  clear hin t hk B0 T0 K0 L0
  go_enter Try.func33, Try.ntmps33
  go_wp2_with (go_at_call 49; refine HI.out.mono ?_; rintro e w1 ⟨x, rfl, hx, hl1, hb1⟩; obtain ⟨y, d, n, k, c0, c1, _, _, hs1⟩ := hl1; obtain ⟨g0, g1, g2, g3⟩ := mid_cells hb1)
  have HS := hid (hs1.over g0 g1 (.int .i64 y) (.slice d n k))
  have hB : Below w.heap.size w w1 := (bl_alloc (bl_alloc (bl_alloc (Below.refl w.heap.size w)))).trans (hb1.mono (by omega))
  exact bodyPost_ret (v := .tuple #[.agg #[.int .i64 y, .slice d n k], .bool (found C K m ks).isSome]) (by simp [results, Try.results33, go_sem, g0, g1]) rfl ⟨_, rfl, HS.out, (hB.setCell (by simp) _).setCell (by simp) _⟩
end Go.Proofs.Ytfpefjadlbphiab
