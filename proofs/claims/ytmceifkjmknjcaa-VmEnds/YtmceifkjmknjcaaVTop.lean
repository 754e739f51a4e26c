/- vm.haveShapes without tables and with none, wrongStart, Run. -/
import Derived.Test.YtmceifkjmknjcaaVFit
namespace Go.Proofs.Ytmceifkjmknjcaa
open Go.RowKit

set_option maxHeartbeats 1000000 in
set_option maxRecDepth 20000 in
theorem vshapes_nil (sa : Option Addr) (sn sc : Nat) (w : World) : Calls Try.prog 12 #[.slice none 0 0, .slice sa sn sc] w (TellB (decide (sn = 0)) w) := by
  by_cases h : sn = 0
  · subst h
    rw [decide_eq_true rfl]
    go_enter Try.func12, Try.ntmps12
    go_wp2
    go_loopw [14, 5, 6] (fun q _ _ wr => q = .int .i64 0 ∧ wr = w) (fun _ _ _ _ => 0)
    case atStart => exact ⟨rfl, rfl⟩
    case round =>
      obtain ⟨rfl, rfl⟩ := hrel
      go_wp2
      go_ret
      exact ⟨rfl, Below.refl _ _⟩
  · rw [decide_eq_false h]
    have hb : ((0 : Int) != (sn : Int)) = true := by
      rw [bne_iff_ne]
      omega
    go_enter Try.func12, Try.ntmps12
    go_wp2
    go_ret
    exact ⟨rfl, Below.refl _ _⟩

set_option maxHeartbeats 1000000 in
set_option maxRecDepth 20000 in
theorem vshapes_one {tg : Nat} {w : World} (hc : w.cell? ⟨tg, 0, none⟩ = some (.pointer none)) (sa : Option Addr) (sn sc : Nat) : Calls Try.prog 12 #[.slice (some ⟨tg, 0, none⟩) 1 1, .slice sa sn sc] w (TellB false w) := by
  have hl : tg < w.heap.size := World.block_lt_of_cell? _ _ hc
  by_cases h : sn = 1
  · subst h
    go_enter Try.func12, Try.ntmps12
    go_wp2
    go_loopw [14, 5, 6] (fun q _ _ wr => q = .int .i64 0 ∧ wr = w) (fun _ _ _ _ => 0)
    case atStart => exact ⟨rfl, rfl⟩
    case round =>
      obtain ⟨rfl, rfl⟩ := hrel
      haveI inhB : ∀ w : World, Inhabited (BelowBy w) := fun w => ⟨⟨w, Below.refl _ _⟩⟩
      go_wp2_with fail
      refine wp_region_quiet_below (by kernel_rfl) (by kernel_rfl) ?_
      repeat (go_big_quiet_step (fail))
      refine wpQuiet_nil ?_
      intro wq hw'
      obtain ⟨⟨_, hwq⟩, hw''⟩ := hw'
      subst hw''
      have HF := hid hwq
      clear hwq
      go_wp2
      go_ret
      exact ⟨rfl, HF.out⟩
  · have hb : ((1 : Int) != (sn : Int)) = true := by
      rw [bne_iff_ne]
      omega
    go_enter Try.func12, Try.ntmps12
    go_wp2
    go_ret
    exact ⟨rfl, Below.refl _ _⟩

/-- what keeps a run from its first instruction; H: are the tables as the program has them? -/
def startV (d : ProgD) (H : Bool) (n : Nat) (port : Int) : Int × Int :=
  if (chkW d.slots d.ts d.cs).1 ≠ 0 then chkW d.slots d.ts d.cs else if H = false then (2, -1) else if 600 < n then (14, -1) else if port < 0 ∨ 65535 < port then (1, -1) else (0, 0)

set_option maxHeartbeats 2000000 in
set_option maxRecDepth 20000 in
theorem vstart (d : ProgD) (tv : Value) (H : Bool) (pa : Option Addr) (pn pc : Nat) (port : Int) (w : World) (hl : d.lie w) (hs : d.small) (HSH : ∀ w', Below w.heap.size w w' → Calls Try.prog 12 #[tv, .slice d.tabs.a d.tabs.n d.tabs.c] w' (TellB H w')) :
    Calls Try.prog 8 #[d.v, tv, .slice pa pn pc, .int .i64 port] w (TellF (startV d H pn port) w) := by
  obtain ⟨W1, hW1⟩ : ∃ W1, W1 = (w.alloc (.cells #[.int .i64 d.slots, .slice d.tabs.a d.tabs.n d.tabs.c, .slice d.code.a d.code.n d.code.c] 25)).alloc (.cells #[.int .i64 0, .int .i64 0] 32) := ⟨_, rfl⟩
  obtain ⟨pb, hpb⟩ : ∃ b, b = w.heap.size := ⟨_, rfl⟩
  obtain ⟨fb, hfb⟩ : ∃ b, b = w.heap.size + 1 := ⟨_, rfl⟩
  have b1 : Below w.heap.size w W1 := by rw [hW1]; exact bl_alloc (bl_alloc (Below.refl _ _))
  have PB : Hid (PBox d W1 pb) := by rw [hW1, hpb]; exact (pbox_new d w).step (bl_alloc (Below.refl _ _))
  have FB : Hid (W1.cell? ⟨fb, 0, none⟩ = some (.int .i64 0) ∧ W1.cell? ⟨fb, 1, none⟩ = some (.int .i64 0) ∧ W1.frozen? ⟨fb, 0, none⟩ = false ∧ W1.frozen? ⟨fb, 1, none⟩ = false ∧ w.heap.size ≤ fb) := by
    show _ ∧ _
    rw [hW1, hfb]
    refine ⟨by simp, by simp, by simp, by simp, by omega⟩
  have HCK := hid (gcheck d W1 (hl.step b1) hs)
  have HB := hid b1
  have HS : Hid _ := HSH
  have EW := hid hW1
  have EP := hid hpb
  have EF := hid hfb
  dsimp only [ProgD.v] at HCK ⊢
  obtain ⟨S, hS⟩ : ∃ S, S = startV d H pn port := ⟨_, rfl⟩
  rw [← hS]
  unfold startV at hS
  have fin : ∀ (f : Int × Int) (w' : World), S = f → Below w.heap.size w w' → TellF S w (.returned (.agg #[.int .i64 f.1, .int .i64 f.2])) w' := fun f w' e h => ⟨by rw [e], h⟩
  have FIN := hid fin
  generalize chkW d.slots d.ts d.cs = K at *
  obtain ⟨kc, ka⟩ := K
  dsimp only [TellF] at hS HCK
  have HSE := hid hS
  clear hl hs HSH hW1 hpb hfb b1 fin hS
  go_enter Try.func8, Try.ntmps8
  go_upto_region 1 with fail
  rw [← EW.out, ← EF.out, ← EP.out]
  obtain ⟨p0, p1, p2⟩ := PB.out
  have hpl : pb < W1.heap.size := World.block_lt_of_cell? _ _ p0
  go_wp2_with fail
  refine HCK.out.mono ?_
  rintro e w2 ⟨rfl, hb2⟩
  clear HCK EW EP EF p0 p1 p2 hpl
  obtain ⟨W3, hW3⟩ : ∃ W3, W3 = w2.alloc (.cells #[.int .i64 kc, .int .i64 ka] 32) := ⟨_, rfl⟩
  obtain ⟨qb, hqb⟩ : ∃ b, b = w2.heap.size := ⟨_, rfl⟩
  have b3 : Below W1.heap.size W1 W3 := by rw [hW3]; exact bl_alloc hb2
  have q0 : W3.cell? ⟨qb, 0, none⟩ = some (.int .i64 kc) := by rw [hW3, hqb]; simp
  have q1 : W3.cell? ⟨qb, 1, none⟩ = some (.int .i64 ka) := by rw [hW3, hqb]; simp
  have hql : qb < W3.heap.size := World.block_lt_of_cell? _ _ q0
  obtain ⟨f0, f1, f2, f3, f4⟩ := FB.out
  have y0 := cell_keep f0 b3
  have y1 := cell_keep f1 b3
  have y2 := (b3.frozen (p := ⟨fb, 0, none⟩) (World.block_lt_of_cell? _ _ f0)).trans f2
  have y3 := (b3.frozen (p := ⟨fb, 1, none⟩) (World.block_lt_of_cell? _ _ f1)).trans f3
  have yl : fb < W3.heap.size := World.block_lt_of_cell? _ _ y0
  have p1 := (PB.out.step b3).c1
  have hpl : pb < W3.heap.size := World.block_lt_of_cell? _ _ p1
  have HB3 := hid (bl_step HB.out b3)
  have HF4 := hid f4
  have E3 := hid hW3
  have EQ := hid hqb
  have HFB : Hid (∀ w4, Below W3.heap.size W3 w4 → ∀ u v, Below w.heap.size w ((w4.setCell ⟨fb, 0, none⟩ u).setCell ⟨fb, 1, none⟩ v)) := fun w4 hb u v => ((bl_step (bl_step HB.out b3) hb).setCell (p := ⟨fb, 0, none⟩) f4 _).setCell (p := ⟨fb, 1, none⟩) f4 _
  have HFC : Hid (∀ w4, Below W3.heap.size W3 w4 → w4.cell? ⟨fb, 0, none⟩ = some (.int .i64 0) ∧ w4.cell? ⟨fb, 1, none⟩ = some (.int .i64 0) ∧ w4.frozen? ⟨fb, 0, none⟩ = false ∧ w4.frozen? ⟨fb, 1, none⟩ = false ∧ fb < w4.heap.size) := fun w4 hb => ⟨cell_keep y0 hb, cell_keep y1 hb, (hb.frozen (p := ⟨fb, 0, none⟩) yl).trans y2, (hb.frozen (p := ⟨fb, 1, none⟩) yl).trans y3, Nat.lt_of_lt_of_le yl hb.size⟩
  clear hb2 hW3 hqb b3 f0 f1 f2 f3 f4
  by_cases hk : kc = 0
  · subst hk
    have HS3 := hid (HS.out W3 HB3.out)
    go_upto_region 2 with fail
    rw [← E3.out, ← EQ.out]
    clear E3 EQ
    go_wp2_with fail
    refine HS3.out.mono ?_
    rintro e w4 ⟨rfl, hb4⟩
    obtain ⟨z0, z1, z2, z3, zl⟩ := HFC.out w4 hb4
    have HFW := hid (HFB.out w4 hb4)
    clear HS3 HS q0 q1 hql y0 y1 y2 y3 yl p1 hpl hb4 HFC HFB
    have hS := HSE.out
    rw [if_neg (by decide)] at hS
    clear HSE
    cases H with
    | false =>
      rw [if_pos rfl] at hS
      have HE := hid hS
      clear hS
      go_wp2
      exact bodyPost_ret (v := .agg #[.int .i64 2, .int .i64 (-1)]) (by simp [results, Try.results8, go_sem, *]) rfl (FIN.out (2, -1) _ HE.out (HFW.out _ _))
    | true =>
      rw [if_neg (by decide)] at hS
      by_cases hn : 600 < pn
      · rw [if_pos hn] at hS
        have hni : (600 : Int) < (pn : Int) := by omega
        have HE := hid hS
        clear hS
        go_wp2
        exact bodyPost_ret (v := .agg #[.int .i64 14, .int .i64 (-1)]) (by simp [results, Try.results8, go_sem, *]) rfl (FIN.out (14, -1) _ HE.out (HFW.out _ _))
      rw [if_neg hn] at hS
      have hni : ¬ (600 : Int) < (pn : Int) := by omega
      by_cases hp : port < 0 ∨ 65535 < port
      · rw [if_pos hp] at hS
        have HE := hid hS
        clear hS
        by_cases hp1 : port < 0
        · have d1 := decide_eq_true hp1
          go_wp2
          exact bodyPost_ret (v := .agg #[.int .i64 1, .int .i64 (-1)]) (by simp [results, Try.results8, go_sem, *]) rfl (FIN.out (1, -1) _ HE.out (HFW.out _ _))
        · have d1 := decide_eq_false hp1
          have hp2 : 65535 < port := hp.resolve_left hp1
          have d2 := decide_eq_true hp2
          go_wp2
          exact bodyPost_ret (v := .agg #[.int .i64 1, .int .i64 (-1)]) (by simp [results, Try.results8, go_sem, *]) rfl (FIN.out (1, -1) _ HE.out (HFW.out _ _))
      · rw [if_neg hp] at hS
        have hp1 : ¬ port < 0 := fun h => hp (.inl h)
        have hp2 : ¬ 65535 < port := fun h => hp (.inr h)
        have d1 := decide_eq_false hp1
        have d2 := decide_eq_false hp2
        have HE := hid hS
        clear hS hp
        go_wp2
        exact bodyPost_ret (v := .agg #[.int .i64 0, .int .i64 0]) (by simp [results, Try.results8, go_sem, *]) rfl (FIN.out (0, 0) _ HE.out (HFW.out _ _))
  · have hS := HSE.out
    rw [if_pos hk] at hS
    clear HSE
    have hkb : (kc != 0) = true := by simpa using hk
    have HE := hid hS
    have HFW := hid (HFB.out W3 (Below.refl _ _))
    clear hS HS
    go_upto_region 2 with fail
    rw [← E3.out, ← EQ.out]
    clear E3 EQ
    go_wp2
    exact bodyPost_ret (v := .agg #[.int .i64 kc, .int .i64 ka]) (by simp [results, Try.results8, go_sem, *]) rfl (FIN.out (kc, ka) _ HE.out (HFW.out _ _))
end Go.Proofs.Ytmceifkjmknjcaa
