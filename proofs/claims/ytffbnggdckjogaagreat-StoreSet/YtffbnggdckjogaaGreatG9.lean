/- Texts of one chain, joined: ExFind, ExChg. -/
import Derived.Test.YtffbnggdckjogaaGreatG7
import Derived.Test.YtffbnggdckjogaaGreatG8
namespace Go.Proofs.YtffbnggdckjogaaGreat.Ex
open Go.RowKit Go.Maps
def Lies (w : World) (r : Nat) (h : Int × List Int) : Prop :=
  ∃ y a n c, w.cell? ⟨r, 0, none⟩ = some (.int .i64 y) ∧ w.cell? ⟨r, 1, none⟩ = some (.slice a n c) ∧ w.frozen? ⟨r, 0, none⟩ = false ∧ w.frozen? ⟨r, 1, none⟩ = false ∧ Says w (.agg #[.int .i64 y, .slice a n c]) h
theorem put_cells {X : World} {f : Nat} {x y : Value} (c0 : X.cell? ⟨f, 0, none⟩ = some x) (c1 : X.cell? ⟨f, 1, none⟩ = some y) (u v : Value) :
    ((X.setCell ⟨f, 0, none⟩ u).setCell ⟨f, 1, none⟩ v).cell? ⟨f, 0, none⟩ = some u ∧ ((X.setCell ⟨f, 0, none⟩ u).setCell ⟨f, 1, none⟩ v).cell? ⟨f, 1, none⟩ = some v := by
  have e1 : (X.setCell ⟨f, 0, none⟩ u).cell? ⟨f, 1, none⟩ = some y := (World.cell?_setCell_other _ _ _ _ (by simp)).trans c1
  refine ⟨?_, World.cell?_setCell_same _ _ _ e1⟩
  rw [World.cell?_setCell_other _ _ _ _ (by simp)]
  exact World.cell?_setCell_same _ _ _ c0
theorem Says.over {w : World} {v : Value} {h : Int × List Int} (s : Says w v h) {r : Nat} {y : Int} {a : Option Addr} {n c : Nat} (c0 : w.cell? ⟨r, 0, none⟩ = some (.int .i64 y)) (c1 : w.cell? ⟨r, 1, none⟩ = some (.slice a n c)) (x z : Value) :
    Says ((w.setCell ⟨r, 0, none⟩ x).setCell ⟨r, 1, none⟩ z) v h := by
  obtain ⟨d, m, e, hv, hn, hm, hh⟩ := s
  have e1 : (w.setCell ⟨r, 0, none⟩ x).cell? ⟨r, 1, none⟩ = some (.slice a n c) := (World.cell?_setCell_other _ _ _ _ (by simp)).trans c1
  exact ⟨d, m, e, hv, hn, hm, (hh.over c0 (by intro _ h; cases h) x).over e1 (by intro _ h; cases h) z⟩
theorem new_two (w : World) (x y : Value) (t : TypeId) :
    (w.alloc (.cells #[x, y] t)).cell? ⟨w.heap.size, 0, none⟩ = some x ∧ (w.alloc (.cells #[x, y] t)).cell? ⟨w.heap.size, 1, none⟩ = some y ∧
    (w.alloc (.cells #[x, y] t)).frozen? ⟨w.heap.size, 0, none⟩ = false ∧ (w.alloc (.cells #[x, y] t)).frozen? ⟨w.heap.size, 1, none⟩ = false :=
  ⟨by simp, by simp, by simp, by simp⟩
theorem third_block (w : World) (o1 o2 : Obj) (x y : Value) (t : TypeId) :
    (((w.alloc o1).alloc o2).alloc (.cells #[x, y] t)).cell? ⟨w.heap.size + 2, 0, none⟩ = some x ∧ (((w.alloc o1).alloc o2).alloc (.cells #[x, y] t)).cell? ⟨w.heap.size + 2, 1, none⟩ = some y ∧
    (((w.alloc o1).alloc o2).alloc (.cells #[x, y] t)).frozen? ⟨w.heap.size + 2, 0, none⟩ = false ∧ (((w.alloc o1).alloc o2).alloc (.cells #[x, y] t)).frozen? ⟨w.heap.size + 2, 1, none⟩ = false := by
  have e : w.heap.size + 2 = ((w.alloc o1).alloc o2).heap.size := by simp
  rw [e]
  exact new_two _ _ _ _
theorem first_block (w : World) (o2 o3 : Obj) (x : Value) (t : TypeId) : (((w.alloc (.cells #[x] t)).alloc o2).alloc o3).cell? ⟨w.heap.size, 0, none⟩ = some x := by
  have h : (w.alloc (.cells #[x] t)).cell? ⟨w.heap.size, 0, none⟩ = some x := by simp
  exact (grew_below (bl_alloc (bl_alloc (Below.refl _ _)))).cell h
set_option maxHeartbeats 400000 in
set_option maxRecDepth 20000 in
theorem find1_any {w : World} {p b q r K M : Nat} {C : List UInt8 → Option (Int × List Int)} {ss : List (List UInt8)} {x : List UInt8} {y : Int} {a : Option Addr} {n c : Nat} (t : Tab w p b K M C ss) (hl : x.length ≤ 1000000) (hq : w.cell? ⟨q, 0, none⟩ = some (.pointer (some ⟨p, 0, none⟩)))
    (r0 : w.cell? ⟨r, 0, none⟩ = some (.int .i64 y)) (r1 : w.cell? ⟨r, 1, none⟩ = some (.slice a n c)) (f0 : w.frozen? ⟨r, 0, none⟩ = false) (f1 : w.frozen? ⟨r, 1, none⟩ = false) :
    Calls Tryz.prog 68 #[.string ⟨x.toArray⟩, .pointer (some ⟨q, 0, none⟩), .pointer (some ⟨r, 0, none⟩)] w fun e w' => e = .returned (.tuple #[]) ∧ Lies w' r ((C x).getD (0, [])) ∧ Below r w w' := by
  obtain ⟨D, hD⟩ := t.map
  have c2 := t.c2
  obtain ⟨y1, a1, k1, d1, hrun, hs⟩ := look_at hD _ hl
  have hr := World.block_lt_of_cell? w _ r0
  have HS := hid hs
  have R0 := hid r0
  have R1 := hid r1
  have F0' := hid f0
  have F1' := hid f1
  clear t hD hs r0 r1 f0 f1
  go_enter Tryz.func68, Tryz.ntmps68
  go_wp2_with (go_at_call 61; refine (copied_any HS.out).mono ?_; rintro e w1 ⟨u, rfl, hsu, hb1⟩; have hsu' := hsu; obtain ⟨a2, k2, d2, rfl, _⟩ := hsu; have g0 := ((hb1.cell (p := ⟨r, 0, none⟩) hr).trans R0.out); have g1 := ((hb1.cell (p := ⟨r, 1, none⟩) hr).trans R1.out); have g2 := ((hb1.frozen (p := ⟨r, 0, none⟩) hr).trans F0'.out); have g3 := ((hb1.frozen (p := ⟨r, 1, none⟩) hr).trans F1'.out))
  go_end0
  have hp := put_cells g0 g1 (.int .i64 ((C x).getD (0, [])).1) (.slice a2 k2 d2)
  exact ⟨rfl, ⟨_, _, _, _, hp.1, hp.2, by simpa using g2, by simpa using g3, hsu'.over g0 g1 _ _⟩, ((hb1.mono (Nat.le_of_lt hr)).setCell (Nat.le_refl _) _).setCell (Nat.le_refl _) _⟩
set_option maxHeartbeats 400000 in
set_option maxRecDepth 20000 in
theorem with_find {w : World} {p b q r K M c : Nat} {C : List UInt8 → Option (Int × List Int)} {ss : List (List UInt8)} {a : Option Addr} {ks : List Int} {y : Int} {d : Option Addr} {n e : Nat} (t : Tab w p b K M C ss) (hK : K ≤ 1000) (hk : Has .u64 w a K ks) (hC : (C (Mth.nm ks)).isSome = true) (hq : w.cell? ⟨q, 0, none⟩ = some (.pointer (some ⟨p, 0, none⟩)))
    (r0 : w.cell? ⟨r, 0, none⟩ = some (.int .i64 y)) (r1 : w.cell? ⟨r, 1, none⟩ = some (.slice d n e)) (f0 : w.frozen? ⟨r, 0, none⟩ = false) (f1 : w.frozen? ⟨r, 1, none⟩ = false) :
    Calls Tryz.prog 65 #[.pointer (some ⟨p, 0, none⟩), .slice a K c, .func (.func 68) #[] #[.pointer (some ⟨q, 0, none⟩), .pointer (some ⟨r, 0, none⟩)]] w fun e w' => e = .returned (.int .i64 0) ∧ Lies w' r ((C (Mth.nm ks)).getD (0, [])) ∧ Below r w w' := by
  have c0 := t.c0
  have hne : ((K : Int) != (K : Int)) = false := by simp
  have hl : (Mth.nm ks).length ≤ 1000000 := by rw [Mth.nm_length, hk.1]; omega
  have hr := World.block_lt_of_cell? w _ r0
  have HT := hid t
  have HK := hid hk
  have HQ := hid hq
  have R0 := hid r0
  have R1 := hid r1
  have G0 := hid f0
  have G1 := hid f1
  clear t hk hq r0 r1 f0 f1
  go_enter Tryz.func65, Tryz.ntmps65
  go_wp2_with fail
  refine (name_any _ _ _ ks _ hK HK.out).mono ?_
  rintro e w1 ⟨rfl, hb1⟩
  have t1 := HT.out.step hb1
  obtain ⟨D, hD⟩ := t1.map
  obtain ⟨y1, a1, k1, d1, hrun, hs⟩ := look_ok hD _ hl
  rw [hC] at hrun
  have c2 := t1.c2
  have T2 := hid (t1.step (bl_alloc (o := HC y1 a1 k1 d1) (Below.refl w1.heap.size w1)))
  have B2 := bl_alloc (o := HC y1 a1 k1 d1) hb1
  have GR := grew_below B2
  have Q2 := hid (GR.cell HQ.out)
  have S0 := hid (GR.cell R0.out)
  have S1 := hid (GR.cell R1.out)
  have P0 := hid ((GR.frozen R0.out).trans G0.out)
  have P1 := hid ((GR.frozen R1.out).trans G1.out)
  clear t1 hD hs hC HT HK HQ c0 hb1 R0 R1 G0 G1 GR
  go_wp2_with (go_at_call 68; refine (find1_any T2.out hl Q2.out S0.out S1.out P0.out P1.out).mono ?_; rintro e w3 ⟨rfl, hl3, hb3⟩)
  go_ret
  exact ⟨rfl, hl3, (B2.mono (Nat.le_of_lt hr)).trans hb3⟩
def found (C : List UInt8 → Option (Int × List Int)) (K m : Nat) (ks : List Int) : Option (Int × List Int) := if m = K then C (Mth.nm ks) else none
theorem Lies.below {w w' : World} {r : Nat} {h : Int × List Int} (l : Lies w r h) (hb : Below w.heap.size w w') : Lies w' r h := by
  obtain ⟨y, a, n, c, c0, c1, f0, f1, s⟩ := l
  have G := grew_below hb
  exact ⟨y, a, n, c, G.cell c0, G.cell c1, (G.frozen c0).trans f0, (G.frozen c1).trans f1, s.grew G⟩
theorem mid_cells {w w1 : World} {o1 : Obj} {x y : Int} {a d : Option Addr} {n c m e : Nat} (hb : Below (w.heap.size + 2) (((w.alloc o1).alloc (HC x a n c)).alloc (HC y d m e)) w1) :
    w1.cell? ⟨w.heap.size + 1, 0, none⟩ = some (.int .i64 x) ∧ w1.cell? ⟨w.heap.size + 1, 1, none⟩ = some (.slice a n c) ∧ w1.frozen? ⟨w.heap.size + 1, 0, none⟩ = false ∧ w1.frozen? ⟨w.heap.size + 1, 1, none⟩ = false := by
  have hh := new_two (w.alloc o1) (.int .i64 x) (.slice a n c) 50
  have e1 : (w.alloc o1).heap.size = w.heap.size + 1 := by simp
  rw [e1] at hh
  obtain ⟨g0, g1, g2, g3⟩ := hh
  have G := grew_below (bl_alloc (o := HC y d m e) (Below.refl ((w.alloc o1).alloc (HC x a n c)).heap.size ((w.alloc o1).alloc (HC x a n c))))
  exact ⟨(hb.cell (p := ⟨w.heap.size + 1, 0, none⟩) (by simp)).trans (G.cell g0), (hb.cell (p := ⟨w.heap.size + 1, 1, none⟩) (by simp)).trans (G.cell g1),
    (hb.frozen (p := ⟨w.heap.size + 1, 0, none⟩) (by simp)).trans ((G.frozen g0).trans g2), (hb.frozen (p := ⟨w.heap.size + 1, 1, none⟩) (by simp)).trans ((G.frozen g1).trans g3)⟩
set_option maxHeartbeats 1000000 in
set_option maxRecDepth 20000 in
theorem find_any {w : World} {p b K M m c : Nat} {C : List UInt8 → Option (Int × List Int)} {ss : List (List UInt8)} {a : Option Addr} {ks : List Int} (t : Tab w p b K M C ss) (hK : K ≤ 1000) (hk : Has .u64 w a m ks) :
    Calls Tryz.prog 58 #[.pointer (some ⟨p, 0, none⟩), .slice a m c] w fun e w' => ∃ v, e = .returned (.tuple #[v, .bool (found C K m ks).isSome]) ∧ Says w' v ((found C K m ks).getD (0, [])) ∧ Below w.heap.size w w' := by
  have B0 := bl_alloc (o := HC 0 none 0 0) (bl_alloc (o := HC 0 none 0 0) (bl_alloc (o := PC p) (Below.refl w.heap.size w)))
  have T0 := t.step B0
  have K0 : Has .u64 (((w.alloc (PC p)).alloc (HC 0 none 0 0)).alloc (HC 0 none 0 0)) a m ks := hk.alloc.alloc.alloc
  have L0 : Lies (((w.alloc (PC p)).alloc (HC 0 none 0 0)).alloc (HC 0 none 0 0)) (w.heap.size + 2) (0, []) := ⟨0, none, 0, 0, (third_block _ _ _ _ _ _).1, (third_block _ _ _ _ _ _).2.1, (third_block _ _ _ _ _ _).2.2.1, (third_block _ _ _ _ _ _).2.2.2, says_none _⟩
  have hin : Calls Tryz.prog 65 #[.pointer (some ⟨p, 0, none⟩), .slice a m c, .func (.func 68) #[] #[.pointer (some ⟨w.heap.size, 0, none⟩), .pointer (some ⟨w.heap.size + 2, 0, none⟩)]] (((w.alloc (PC p)).alloc (HC 0 none 0 0)).alloc (HC 0 none 0 0))
      fun e w' => ∃ x : Int, e = .returned (.int .i64 x) ∧ (x == 0) = (found C K m ks).isSome ∧ Lies w' (w.heap.size + 2) ((found C K m ks).getD (0, [])) ∧ Below (w.heap.size + 2) (((w.alloc (PC p)).alloc (HC 0 none 0 0)).alloc (HC 0 none 0 0)) w' := by
    unfold found
    by_cases hm : m = K
    · subst hm
      rw [if_pos rfl]
      cases hC : (C (Mth.nm ks)).isSome with
      | true => exact (with_find T0 hK K0 hC (first_block _ _ _ _ _) (third_block _ _ _ _ _ _).1 (third_block _ _ _ _ _ _).2.1 (third_block _ _ _ _ _ _).2.2.1 (third_block _ _ _ _ _ _).2.2.2).mono fun e w' ⟨he, hl, hb⟩ => ⟨_, he, rfl, hl, hb⟩
      | false =>
        have e : C (Mth.nm ks) = none := by cases h : C (Mth.nm ks) with
          | none => rfl
          | some _ => rw [h] at hC; cases hC
        rw [e]
        exact (with_none T0 hK K0 hC).mono fun e w' ⟨he, hb⟩ => ⟨_, he, rfl, L0.below hb, hb.mono (by simp)⟩
    · rw [if_neg hm]
      exact (with_many T0 hm).mono fun e w' ⟨he, hw⟩ => ⟨_, he, rfl, by rw [hw]; exact L0, by rw [hw]; exact Below.refl _ _⟩
  have HI := hid hin
  clear hin t hk B0 T0 K0 L0
  go_enter Tryz.func58, Tryz.ntmps58
  go_wp2_with (go_at_call 65; refine HI.out.mono ?_; rintro e w1 ⟨x, rfl, hx, hl1, hb1⟩; obtain ⟨y, d, n, k, c0, c1, _, _, hs1⟩ := hl1; obtain ⟨g0, g1, g2, g3⟩ := mid_cells hb1)
  have HS := hid (hs1.over g0 g1 (.int .i64 y) (.slice d n k))
  have hB : Below w.heap.size w w1 := (bl_alloc (bl_alloc (bl_alloc (Below.refl w.heap.size w)))).trans (hb1.mono (by omega))
  exact bodyPost_ret (v := .tuple #[.agg #[.int .i64 y, .slice d n k], .bool (found C K m ks).isSome]) (by simp [results, Tryz.results58, go_sem, g0, g1]) rfl ⟨_, rfl, HS.out, (hB.setCell (by simp) _).setCell (by simp) _⟩
end Go.Proofs.YtffbnggdckjogaaGreat.Ex

namespace Go.Proofs.YtffbnggdckjogaaGreat.Ex
open Go.RowKit Go.Maps
theorem Tab.set {w w' : World} {p b K M : Nat} {C : List UInt8 → Option (Int × List Int)} {ss : List (List UInt8)} {D : DataW Value} {x : List UInt8} {v : Value} {h : Int × List Int} (t : Tab w p b K M C ss) (hD : Holding w b C ss.length D)
    (hC : (C x).isSome = true) (hs : Says w v h) (hown : w'.ownsMap Tryz.prog 9 rv b (ss.length + 1) (D.put (.string x) (.held v))) (g : w.grownBy w' (some b)) :
    Tab w' p b K M (upd C x (some h)) ss := by
  have G := t.grew_own g
  have H := hD.put G hown hs
  have mem : ∀ y, y ∈ ss ↔ (upd C x (some h) y).isSome = true := fun y => by
    unfold upd
    by_cases e : y = x
    · subst e
      rw [if_pos rfl]
      exact ⟨fun _ => rfl, fun _ => (t.mem y).2 hC⟩
    · rw [if_neg e]
      exact t.mem y
  exact ⟨G.cell t.c0, G.cell t.c1, G.cell t.c2, t.nd, mem, t.len, t.most, D.put (.string x) (.held v), owns_tight H.1 (Nat.le_of_eq (H.size t.nd mem).2), H.2⟩
set_option maxHeartbeats 1000000 in
set_option maxRecDepth 20000 in
theorem chg1_any {w : World} {p b q r K M : Nat} {C : List UInt8 → Option (Int × List Int)} {ss : List (List UInt8)} {x : List UInt8} {y : Int} {a : Option Addr} {n c : Nat} {h : Int × List Int} (t : Tab w p b K M C ss) (hM : M ≤ 100000) (hl : x.length ≤ 1000000) (hC : (C x).isSome = true) (hq : w.cell? ⟨q, 0, none⟩ = some (.pointer (some ⟨p, 0, none⟩)))
    (h0 : w.cell? ⟨r, 0, none⟩ = some (.int .i64 y)) (h1 : w.cell? ⟨r, 1, none⟩ = some (.slice a n c)) (hs : Says w (.agg #[.int .i64 y, .slice a n c]) h) :
    Calls Tryz.prog 66 #[.string ⟨x.toArray⟩, .pointer (some ⟨r, 0, none⟩), .pointer (some ⟨q, 0, none⟩)] w fun e w' => e = .returned (.tuple #[]) ∧ Tab w' p b K M (upd C x (some h)) ss ∧ w.grownBy w' (some b) := by
  have c2 := t.c2
  have hpl : p < w.heap.size := World.block_lt_of_cell? w _ c2
  have hql : q < w.heap.size := World.block_lt_of_cell? w _ hq
  have hrl : r < w.heap.size := World.block_lt_of_cell? w _ h0
  have TB := hid t.drew
  have SB := hid hs.drew
  have HC := hid hC
  have HM := hid hM
  have BD := hid ((Below.refl w.heap.size w).drew)
  clear t hs hC hM
  go_enter Tryz.func66, Tryz.ntmps66
  go_wp2_with fail
  go_region_with (go_at_call 61; refine (copied_any SB.out).mono ?_; rintro e3 w3 ⟨u, rfl, hsu, hb3⟩; have T3 := TB.out.step hb3; obtain ⟨D3, hD3⟩ := T3.map; obtain ⟨w4, hst, hown4, hturn4⟩ := hD3.1.store keyLaw Tryz.underlying94 (by have := T3.most; have := HM.out; unfold maxLen; omega) (key_str _ hl) (show rv u = some (.held u, []) from rfl); have c2' := T3.c2; have hq3 := (grew_below (bl_step BD.out hb3)).cell hq; have HR := hid (And.intro (T3.set hD3 HC.out hsu hown4 hturn4.grown) (Grew.andThen (bl_step BD.out hb3) hturn4.grown)); clear T3 hD3 hown4 hturn4 hsu hb3)
  all_goals
    go_wp2
    go_end0
    exact ⟨rfl, HR.out⟩
set_option maxHeartbeats 400000 in
set_option maxRecDepth 20000 in
theorem with_chg {w : World} {p b q r K M c : Nat} {C : List UInt8 → Option (Int × List Int)} {ss : List (List UInt8)} {a : Option Addr} {ks : List Int} {y : Int} {d : Option Addr} {n e : Nat} {h : Int × List Int} (t : Tab w p b K M C ss) (hK : K ≤ 1000) (hM : M ≤ 100000) (hk : Has .u64 w a K ks) (hC : (C (Mth.nm ks)).isSome = true) (hq : w.cell? ⟨q, 0, none⟩ = some (.pointer (some ⟨p, 0, none⟩)))
    (h0 : w.cell? ⟨r, 0, none⟩ = some (.int .i64 y)) (h1 : w.cell? ⟨r, 1, none⟩ = some (.slice d n e)) (hs : Says w (.agg #[.int .i64 y, .slice d n e]) h) :
    Calls Tryz.prog 65 #[.pointer (some ⟨p, 0, none⟩), .slice a K c, .func (.func 66) #[] #[.pointer (some ⟨r, 0, none⟩), .pointer (some ⟨q, 0, none⟩)]] w fun e w' => e = .returned (.int .i64 0) ∧ Tab w' p b K M (upd C (Mth.nm ks) (some h)) ss ∧ w.grownBy w' (some b) := by
  have c0 := t.c0
  have hne : ((K : Int) != (K : Int)) = false := by simp
  have hl : (Mth.nm ks).length ≤ 1000000 := by rw [Mth.nm_length, hk.1]; omega
  have HT := hid t
  have HK := hid hk
  have HQ := hid hq
  have H0 := hid h0
  have H1 := hid h1
  have HS := hid hs
  have HCC := hid hC
  clear t hk hq h0 h1 hs
  go_enter Tryz.func65, Tryz.ntmps65
  go_wp2_with fail
  refine (name_any _ _ _ ks _ hK HK.out).mono ?_
  rintro e w1 ⟨rfl, hb1⟩
  have t1 := HT.out.step hb1
  obtain ⟨D, hD⟩ := t1.map
  obtain ⟨y1, a1, k1, d1, hrun, hs1⟩ := look_ok hD _ hl
  rw [hC] at hrun
  have c2 := t1.c2
  have T2 := hid (t1.step (bl_alloc (o := HC y1 a1 k1 d1) (Below.refl w1.heap.size w1)))
  have B2 := bl_alloc (o := HC y1 a1 k1 d1) hb1
  have HD1 := hid (chg1_any T2.out hM hl HCC.out ((grew_below B2).cell HQ.out) ((grew_below B2).cell H0.out) ((grew_below B2).cell H1.out) (HS.out.grew (grew_below B2)))
  clear t1 hD hs1 hC HT HK HQ c0 hb1 H0 H1 HS T2
  go_wp2_with (go_at_call 66; refine HD1.out.mono ?_; rintro e w3 ⟨rfl, t3, hg3⟩)
  go_ret
  exact ⟨rfl, t3, Grew.andThen B2 hg3⟩
def hasCode (C : List UInt8 → Option (Int × List Int)) (K m : Nat) (x : List UInt8) : Int := if m ≠ K then 2 else if (C x).isSome = true then 0 else 9
structure XTo (w w' : World) (p b K M : Nat) (C : List UInt8 → Option (Int × List Int)) (ss : List (List UInt8)) (code : Int) : Prop where
  t : Tab w' p b K M C ss
  g : w.grownBy w' (some b)
  still : code ≠ 0 → Below w.heap.size w w'
theorem XTo.same {w w' : World} {p b K M : Nat} {C : List UInt8 → Option (Int × List Int)} {ss : List (List UInt8)} {code : Int} (t : Tab w p b K M C ss) (h : Below w.heap.size w w') : XTo w w' p b K M C ss code := ⟨t.step h, grown_of_below h, fun _ => h⟩
def addXC (C : List UInt8 → Option (Int × List Int)) (ss : List (List UInt8)) (K M m : Nat) (x : List UInt8) (h : Int × List Int) : List UInt8 → Option (Int × List Int) := if addCode C ss K M m x = 0 then upd C x (some h) else C
def addXS (C : List UInt8 → Option (Int × List Int)) (ss : List (List UInt8)) (K M m : Nat) (x : List UInt8) : List (List UInt8) := if addCode C ss K M m x = 0 then ss ++ [x] else ss
def dropXC (C : List UInt8 → Option (Int × List Int)) (K m : Nat) (x : List UInt8) : List UInt8 → Option (Int × List Int) := if hasCode C K m x = 0 then upd C x none else C
def dropXS (C : List UInt8 → Option (Int × List Int)) (ss : List (List UInt8)) (K m : Nat) (x : List UInt8) : List (List UInt8) := if hasCode C K m x = 0 then sans ss x else ss
def chgXC (C : List UInt8 → Option (Int × List Int)) (K m : Nat) (x : List UInt8) (h : Int × List Int) : List UInt8 → Option (Int × List Int) := if hasCode C K m x = 0 then upd C x (some h) else C
theorem xadd_any {w : World} {p b K M m c : Nat} {C : List UInt8 → Option (Int × List Int)} {ss : List (List UInt8)} {a : Option Addr} {v : Value} {h : Int × List Int} {ks : List Int} (t : Tab w p b K M C ss) (hK : K ≤ 1000) (hM0 : M ≤ 100000) (hk : Has .u64 w a m ks) (hs : Says w v h) :
    Calls Tryz.prog 54 #[.pointer (some ⟨p, 0, none⟩), .slice a m c, v] w fun e w' => e = .returned (.int .i64 (addCode C ss K M m (Mth.nm ks))) ∧ XTo w w' p b K M (addXC C ss K M m (Mth.nm ks) h) (addXS C ss K M m (Mth.nm ks)) (addCode C ss K M m (Mth.nm ks)) := by
  have hs' := hs
  obtain ⟨d, n, e, rfl, _⟩ := hs
  by_cases hm : m = K
  · subst hm
    cases hC : (C (Mth.nm ks)).isSome with
    | true =>
      have hc : addCode C ss m M m (Mth.nm ks) = 7 := by unfold addCode; rw [if_neg (by simp), if_pos hC]
      unfold addXC addXS
      rw [hc, if_neg (by decide), if_neg (by decide)]
      exact (add_twice t hK hk hC).mono fun e w' ⟨he, hb⟩ => ⟨he, XTo.same t hb⟩
    | false =>
      by_cases hM : M ≤ ss.length
      · have hc : addCode C ss m M m (Mth.nm ks) = 10 := by unfold addCode; rw [if_neg (by simp), if_neg (by rw [hC]; decide), if_pos hM]
        unfold addXC addXS
        rw [hc, if_neg (by decide), if_neg (by decide)]
        exact (add_full t hK hk hC hM).mono fun e w' ⟨he, hb⟩ => ⟨he, XTo.same t hb⟩
      · have hc : addCode C ss m M m (Mth.nm ks) = 0 := by unfold addCode; rw [if_neg (by simp), if_neg (by rw [hC]; decide), if_neg hM]
        unfold addXC addXS
        rw [hc, if_pos rfl, if_pos rfl]
        exact (add_good t hK hM0 hk hC (by omega) hs').mono fun e w' ⟨he, ht, hb⟩ => ⟨he, ht, hb, fun h => absurd rfl h⟩
  · have hc : addCode C ss K M m (Mth.nm ks) = 2 := by unfold addCode; rw [if_pos hm]
    unfold addXC addXS
    rw [hc, if_neg (by decide), if_neg (by decide)]
    exact (add_many t hm).mono fun e w' ⟨he, hb⟩ => ⟨he, XTo.same t hb⟩
set_option maxHeartbeats 400000 in
set_option maxRecDepth 20000 in
theorem xdrop_any {w : World} {p b K M m c : Nat} {C : List UInt8 → Option (Int × List Int)} {ss : List (List UInt8)} {a : Option Addr} {ks : List Int} (t : Tab w p b K M C ss) (hK : K ≤ 1000) (hk : Has .u64 w a m ks) :
    Calls Tryz.prog 57 #[.pointer (some ⟨p, 0, none⟩), .slice a m c] w fun e w' => e = .returned (.int .i64 (hasCode C K m (Mth.nm ks))) ∧ XTo w w' p b K M (dropXC C K m (Mth.nm ks)) (dropXS C ss K m (Mth.nm ks)) (hasCode C K m (Mth.nm ks)) := by
  have B0 := bl_alloc (o := PC p) (Below.refl w.heap.size w)
  have hin : Calls Tryz.prog 65 #[.pointer (some ⟨p, 0, none⟩), .slice a m c, .func (.func 67) #[] #[.pointer (some ⟨w.heap.size, 0, none⟩)]] (w.alloc (PC p)) fun e w' => e = .returned (.int .i64 (hasCode C K m (Mth.nm ks))) ∧ XTo w w' p b K M (dropXC C K m (Mth.nm ks)) (dropXS C ss K m (Mth.nm ks)) (hasCode C K m (Mth.nm ks)) := by
    by_cases hm : m = K
    · subst hm
      cases hC : (C (Mth.nm ks)).isSome with
      | true =>
        have hc : hasCode C m m (Mth.nm ks) = 0 := by unfold hasCode; rw [if_neg (by simp), if_pos hC]
        unfold dropXC dropXS
        rw [hc, if_pos rfl, if_pos rfl]
        exact (with_drop (t.step B0) hK hk.alloc hC (by simp)).mono fun e w' ⟨he, ht, hg⟩ => ⟨he, ht, Grew.andThen B0 hg, fun h => absurd rfl h⟩
      | false =>
        have hc : hasCode C m m (Mth.nm ks) = 9 := by unfold hasCode; rw [if_neg (by simp), if_neg (by rw [hC]; decide)]
        unfold dropXC dropXS
        rw [hc, if_neg (by decide), if_neg (by decide)]
        exact (with_none (t.step B0) hK hk.alloc hC).mono fun e w' ⟨he, hb⟩ => ⟨he, XTo.same t (bl_step B0 hb)⟩
    · have hc : hasCode C K m (Mth.nm ks) = 2 := by unfold hasCode; rw [if_pos hm]
      unfold dropXC dropXS
      rw [hc, if_neg (by decide), if_neg (by decide)]
      exact (with_many (t.step B0) hm).mono fun e w' ⟨he, hw⟩ => ⟨he, by rw [hw]; exact XTo.same t B0⟩
  have HI := hid hin
  generalize hasCode C K m (Mth.nm ks) = code at *
  clear hin t hk B0
  go_enter Tryz.func57, Tryz.ntmps57
  go_wp2_with (go_at_call 65; refine HI.out.mono ?_; rintro e w1 ⟨rfl, t1⟩)
  go_ret
  exact ⟨rfl, t1⟩
set_option maxHeartbeats 400000 in
set_option maxRecDepth 20000 in
theorem xchg_any {w : World} {p b K M m c : Nat} {C : List UInt8 → Option (Int × List Int)} {ss : List (List UInt8)} {a : Option Addr} {v : Value} {h : Int × List Int} {ks : List Int} (t : Tab w p b K M C ss) (hK : K ≤ 1000) (hM0 : M ≤ 100000) (hk : Has .u64 w a m ks) (hs : Says w v h) :
    Calls Tryz.prog 56 #[.pointer (some ⟨p, 0, none⟩), .slice a m c, v] w fun e w' => e = .returned (.int .i64 (hasCode C K m (Mth.nm ks))) ∧ XTo w w' p b K M (chgXC C K m (Mth.nm ks) h) ss (hasCode C K m (Mth.nm ks)) := by
  have hs' := hs
  obtain ⟨d, n, e, rfl, _⟩ := hs
  have B0 := bl_alloc (o := HC h.1 d n e) (bl_alloc (o := PC p) (Below.refl w.heap.size w))
  have hin : Calls Tryz.prog 65 #[.pointer (some ⟨p, 0, none⟩), .slice a m c, .func (.func 66) #[] #[.pointer (some ⟨w.heap.size + 1, 0, none⟩), .pointer (some ⟨w.heap.size, 0, none⟩)]] ((w.alloc (PC p)).alloc (HC h.1 d n e)) fun e w' => e = .returned (.int .i64 (hasCode C K m (Mth.nm ks))) ∧ XTo w w' p b K M (chgXC C K m (Mth.nm ks) h) ss (hasCode C K m (Mth.nm ks)) := by
    by_cases hm : m = K
    · subst hm
      cases hC : (C (Mth.nm ks)).isSome with
      | true =>
        have hc : hasCode C m m (Mth.nm ks) = 0 := by unfold hasCode; rw [if_neg (by simp), if_pos hC]
        unfold chgXC
        rw [hc, if_pos rfl]
        exact (with_chg (t.step B0) hK hM0 hk.alloc.alloc hC (by simp) (by simp) (by simp) (hs'.grew (grew_below B0))).mono fun e w' ⟨he, ht, hg⟩ => ⟨he, ht, Grew.andThen B0 hg, fun h => absurd rfl h⟩
      | false =>
        have hc : hasCode C m m (Mth.nm ks) = 9 := by unfold hasCode; rw [if_neg (by simp), if_neg (by rw [hC]; decide)]
        unfold chgXC
        rw [hc, if_neg (by decide)]
        exact (with_none (t.step B0) hK hk.alloc.alloc hC).mono fun e w' ⟨he, hb⟩ => ⟨he, XTo.same t (bl_step B0 hb)⟩
    · have hc : hasCode C K m (Mth.nm ks) = 2 := by unfold hasCode; rw [if_pos hm]
      unfold chgXC
      rw [hc, if_neg (by decide)]
      exact (with_many (t.step B0) hm).mono fun e w' ⟨he, hw⟩ => ⟨he, by rw [hw]; exact XTo.same t B0⟩
  have HI := hid hin
  generalize hasCode C K m (Mth.nm ks) = code at *
  clear hin t hk B0 hs'
  go_enter Tryz.func56, Tryz.ntmps56
  go_wp2_with (go_at_call 65; refine HI.out.mono ?_; rintro e w1 ⟨rfl, t1⟩)
  go_ret
  exact ⟨rfl, t1⟩
end Go.Proofs.YtffbnggdckjogaaGreat.Ex
