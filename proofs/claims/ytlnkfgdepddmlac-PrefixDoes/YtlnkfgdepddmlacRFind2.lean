/- What Find of the document's own table by beginnings does where the key fits. -/
import Derived.Test.YtlnkfgdepddmlacRFind
namespace Go.Proofs.Ytlnkfgdepddmlac
open Go.RowKit Mth

theorem grow_below (w : World) (q : Nat) (os : Array Obj) : Below w.heap.size w (Sort.grow (w.drewN q) os) :=
  ⟨rfl, rfl, rfl, by simp only [Sort.size_grow]; exact Nat.le_add_right _ _, fun k hk => Sort.heap_grow_old (w.drewN q) os hk⟩

set_option maxHeartbeats 8000000 in
set_option maxRecDepth 20000 in
theorem rfind_in {w : World} {B S r W key kb ko kc : Nat} {most : Int} {C : Told2} {es : List (Nat × Nat)} (t : Rws w B S r W most C es) (mem : ∀ n v, (n, v) ∈ es ↔ (C n v).isSome = true) (rng : ∀ n v, (C n v).isSome = true → n ≤ W) (hl : es.length ≤ 100000) (h1 : 1 ≤ W) (hW : W ≤ 64) (hk : key < 2 ^ W) (hkc : w.cell? ⟨kb, ko, none⟩ = some (.int .u64 (key : Int))) :
    Calls Try.prog 19 #[.pointer (some ⟨r, 0, none⟩), .slice (some ⟨kb, ko, none⟩) 1 kc] w fun e w' => FindDone w w' (best C W key (W + 1)) e := by
  have hwid : wid (W : Int) = W := by unfold wid; rw [if_pos (by omega)]; rfl
  have hb0 := bl_alloc (o := HC 0 none 0 0) (Below.refl w.heap.size w)
  have hd0 := t.hd.step hb0
  have c0 := hd0.c0
  have c1 := hd0.c1
  have c2 := hd0.c2
  have kk := (hb0.cell (p := ⟨kb, ko, none⟩) (show kb < w.heap.size from World.block_lt_of_cell? w _ hkc)).trans hkc
  have HX := hid (new_two w (.int .i64 0) (.slice none 0 0) 40)
  have HT := hid (t.step hb0)
  have HB0 := hid hb0
  have hmk := mask_all W h1 hW
  have hno : decide (maskN (W : Int) < (key : Int)) = false := by rw [hmk]; apply decide_eq_false; have : 1 ≤ 2 ^ W := Nat.one_le_two_pow; omega
  have HKW := hid hk
  have HMEM := hid mem
  have HRNG := hid rng
  clear t hd0 hb0 hkc hmk hk mem rng
  generalize hR : best C W key (W + 1) = R
  have HR := hid hR
  clear hR
  go_enter Try.func19, Try.ntmps19
  go_upto_region 1 with fail
  generalize w.alloc (HC 0 none 0 0) = w0 at *
  have HW := hid (fun s => (wide_any (key : Int) (W : Int) (w0.drewN s)))
  rw [hno] at HW
  clear hno
  have g1 : ¬ (W : Int) < 1 := by omega
  have g2 : ¬ 64 < (W : Int) := by omega
  go_quiet ((go_at_call 45; exact Calls.quiet_of_same (HW.out _)))
  clear HW c0 c1 c2
  have HT1 := hid (HT.out.step (drew_below w0 nq))
  have K1 := hid (show (w0.drewN nq).cell? ⟨kb, ko, none⟩ = some (.int .u64 (key : Int)) from kk)
  have HX1 : Hid ((w0.drewN nq).cell? ⟨w.heap.size, 0, none⟩ = some (.int .i64 0) ∧ (w0.drewN nq).cell? ⟨w.heap.size, 1, none⟩ = some (.slice none 0 0) ∧ (w0.drewN nq).frozen? ⟨w.heap.size, 0, none⟩ = false ∧ (w0.drewN nq).frozen? ⟨w.heap.size, 1, none⟩ = false) := HX.out
  have HB1 := hid (below_drewN HB0.out nq)
  clear HT kk HX HB0
  generalize w0.drewN nq = w2 at *
  go_wp2_with fail
  go_loopw [7, 8] (fun x q wr => ∃ (i : Nat) (b : Int), i ≤ es.length ∧ q = .int .i64 i ∧ x = .int .i64 b ∧ BestOf es W key i b ∧ Hid (Below w2.heap.size w2 wr)) (fun _ q _ => es.length - (intOf q).toNat)
  case atStart => exact ⟨0, -1, Nat.zero_le _, rfl, rfl, bestOf_zero _ _ _, Below.refl _ _⟩
  case round =>
    obtain ⟨i, b, hi, rfl, rfl, hbest, hB⟩ := hrel
    have TR := hid (HT1.out.step hB.out)
    by_cases hlt : i < es.length
    · have hx : es[i]? = some (es[i]'hlt) := List.getElem?_eq_getElem _
      have hxm : es[i]'hlt ∈ es := List.getElem_mem _
      generalize es[i]'hlt = x at *
      obtain ⟨m, v⟩ := x
      have hm := HRNG.out m v ((HMEM.out m v).1 hxm)
      obtain ⟨g, cap, ka, kc', ea, en, ec, r4, c0, c1, c2, c3, c4, c5, hka, _⟩ := TR.out.entry hx
      simp only at c2 c4 hka
      rw [hwid] at hka
      have kkr := (hB.out.cell (p := ⟨kb, ko, none⟩) (show kb < w2.heap.size from World.block_lt_of_cell? w2 _ K1.out)).trans K1.out
      have HF := fun q os => fits_any (w := Sort.grow (wr.drewN q) os) (kc := kc') (aa := ea) (an := en) (ac := ec) (x := ((C m v).getD (0, [])).1) (kn := 1) (kcap := kc) (TR.out.hd.step (grow_below wr q os)) h1 hm hW HKW.out (hka.step (grow_below wr q os)) (((grow_below wr q os).cell (p := ⟨kb, ko, none⟩) (show kb < wr.heap.size from World.block_lt_of_cell? wr _ kkr)).trans kkr) (by omega)
      have hrl : r < wr.heap.size := World.block_lt_of_cell? wr _ r4
      have hgl : g < wr.heap.size := World.block_lt_of_cell? wr _ c0
      have R4 := cell_grown (a := ⟨r, 4, none⟩) hrl r4
      have E0 := cell_grown (a := ⟨g, i * 6, none⟩) hgl c0
      have E1 := cell_grown (a := ⟨g, i * 6 + 1, none⟩) hgl c1
      have E2 := cell_grown (a := ⟨g, i * 6 + 2, none⟩) hgl c2
      have E3 := cell_grown (a := ⟨g, i * 6 + 3, none⟩) hgl c3
      have E4 := cell_grown (a := ⟨g, i * 6 + 4, none⟩) hgl c4
      have E5 := cell_grown (a := ⟨g, i * 6 + 5, none⟩) hgl c5
      have HX' := hid hx
      have HBS := hid hbest
      have hii : (i : Int) < (es.length : Int) := by omega
      clear hx hxm hka kkr hbest
      by_cases hhad : Had W key (m, v)
      · rw [decide_eq_true hhad] at HF
        have HF := hid HF
        have HBS2 := hid HBS.out
        rcases HBS2.out with ⟨rfl, _⟩ | ⟨k', z, rfl, hk', hz, _, _⟩
        · have HNX := hid (bestOf_first HBS.out HX'.out hhad)
          clear HBS HBS2 hhad HX' TR
          go_wp2_with fail
          refine wp_region_quiet_grown (by kernel_rfl) (by kernel_rfl) ?_
          repeat (go_big_quiet_step ((go_at_call 46; exact Calls.grown_of (HF.out _ _))))
          refine wpQuiet_nil ?_
          intro _ hw'
          obtain ⟨⟨nq, osq⟩, hw''⟩ := hw'
          subst hw''
          have HB2 := hid (bl_step hB.out (grow_below wr nq osq))
          clear HF
          go_wp2
          go_roundw
          case rel => exact ⟨i + 1, _, by omega, by go_num, rfl, HNX.out, HB2.out⟩
          case measure => simp [intOf]; omega
        · obtain ⟨mz, vz⟩ := z
          obtain ⟨g2, cap2, _, _, _, _, _, r42, _, _, z2, z3, _⟩ := TR.out.entry hz
          have eg : g = g2 := by rw [r4] at r42; simp only [Option.some.injEq, Value.slice.injEq, Addr.mk.injEq, and_true, true_and] at r42; exact r42.1
          subst eg
          simp only at z2
          have Z2 := cell_grown (a := ⟨g, k' * 6 + 2, none⟩) hgl z2
          have Z3 := cell_grown (a := ⟨g, k' * 6 + 3, none⟩) hgl z3
          have hk0 : ¬ (k' : Int) < 0 := by omega
          have hk0d : decide ((k' : Int) < 0) = false := decide_eq_false hk0
          have hki : (k' : Int) < (es.length : Int) := by omega
          by_cases hmore : mz < m
          · have HNX := hid (bestOf_more HBS.out hz HX'.out hhad hmore)
            have hmi : (mz : Int) < (m : Int) := by omega
            have hmd : decide ((mz : Int) < (m : Int)) = true := decide_eq_true hmi
            clear HBS HBS2 hhad HX' TR hz r42 hmore
            go_wp2_with fail
            refine wp_region_quiet_grown (by kernel_rfl) (by kernel_rfl) ?_
            repeat (go_big_quiet_step ((go_at_call 46; exact Calls.grown_of (HF.out _ _))))
            refine wpQuiet_nil ?_
            intro _ hw'
            obtain ⟨⟨nq, osq⟩, hw''⟩ := hw'
            subst hw''
            have HB2 := hid (bl_step hB.out (grow_below wr nq osq))
            clear HF
            go_wp2
            go_roundw
            case rel => exact ⟨i + 1, _, by omega, by go_num, rfl, HNX.out, HB2.out⟩
            case measure => simp [intOf]; omega
          · have HNX := hid (bestOf_less HBS.out hz HX'.out (by simp only; omega))
            have hmi : ¬ (mz : Int) < (m : Int) := by omega
            have hmd : decide ((mz : Int) < (m : Int)) = false := decide_eq_false hmi
            clear HBS HBS2 hhad HX' TR hz r42 hmore
            clear hmi c2 z2
            generalize (mz : Int) = MZ at *
            generalize (m : Int) = MM at *
            go_wp2_with fail
            refine wp_region_quiet_grown (by kernel_rfl) (by kernel_rfl) ?_
            repeat (go_big_quiet_step ((go_at_call 46; exact Calls.grown_of (HF.out _ _))))
            refine wpQuiet_nil ?_
            intro _ hw'
            obtain ⟨⟨nq, osq⟩, hw''⟩ := hw'
            subst hw''
            have HB2 := hid (bl_step hB.out (grow_below wr nq osq))
            clear HF
            go_wp2
            go_roundw
            case rel => exact ⟨i + 1, _, by omega, by go_num, rfl, HNX.out, HB2.out⟩
            case measure => simp [intOf]; omega
      · rw [decide_eq_false hhad] at HF
        have HF := hid HF
        have HNX := hid (bestOf_skip HBS.out HX'.out hhad)
        clear HBS hhad HX' TR
        go_wp2_with fail
        refine wp_region_quiet_grown (by kernel_rfl) (by kernel_rfl) ?_
        repeat (go_big_quiet_step ((go_at_call 46; exact Calls.grown_of (HF.out _ _))))
        refine wpQuiet_nil ?_
        intro _ hw'
        obtain ⟨⟨nq, osq⟩, hw''⟩ := hw'
        subst hw''
        have HB2 := hid (bl_step hB.out (grow_below wr nq osq))
        clear HF
        go_wp2
        go_roundw
        case rel => exact ⟨i + 1, _, by omega, by go_num, rfl, HNX.out, HB2.out⟩
        case measure => simp [intOf]; omega
    · have ei : i = es.length := by omega
      subst ei
      have X0 := (hB.out.cell (p := ⟨w.heap.size, 0, none⟩) (show w.heap.size < w2.heap.size from World.block_lt_of_cell? w2 _ HX1.out.1)).trans HX1.out.1
      have X1 := (hB.out.cell (p := ⟨w.heap.size, 1, none⟩) (show w.heap.size < w2.heap.size from World.block_lt_of_cell? w2 _ HX1.out.1)).trans HX1.out.2.1
      have F0 := (hB.out.frozen (p := ⟨w.heap.size, 0, none⟩) (show w.heap.size < w2.heap.size from World.block_lt_of_cell? w2 _ HX1.out.1)).trans HX1.out.2.2.1
      have F1 := (hB.out.frozen (p := ⟨w.heap.size, 1, none⟩) (show w.heap.size < w2.heap.size from World.block_lt_of_cell? w2 _ HX1.out.1)).trans HX1.out.2.2.2
      have BW := hid (bl_step HB1.out hB.out)
      rcases hbest with ⟨rfl, hno'⟩ | ⟨k', y, rfl, hk', hy, hmy, hmax⟩
      · have hRn : R = none := by
          rw [← HR.out]
          exact none_had HMEM.out fun x hx => by
            obtain ⟨j, hj, rfl⟩ := List.getElem_of_mem hx
            exact hno' j (by omega) _ (List.getElem?_eq_getElem hj)
        subst hRn
        obtain ⟨la, cap, r4, _⟩ := TR.out.lst
        clear TR HT1 HR hno' HMEM HRNG HX1 hB
        go_wp2
        exact bodyPost_ret (v := .tuple #[NoHit, .int .i64 0, .bool false]) (by simp [results, Try.results19, go_sem, X0, X1]) rfl ⟨_, rfl, says_none _, (BW.out.setCell (by simp) _).setCell (by simp) _⟩
      · have hym : y ∈ es := List.mem_of_getElem? hy
        have hRs := long_had HMEM.out HRNG.out hym hmy (fun x hx hmx => by
          obtain ⟨j, hj, rfl⟩ := List.getElem_of_mem hx
          exact hmax j (by omega) _ (List.getElem?_eq_getElem hj) hmx)
        rw [HR.out] at hRs
        subst hRs
        obtain ⟨m, v⟩ := y
        obtain ⟨g, cap, ka, kc', ea, en, ec, r4, c0, c1, c2, c3, c4, c5, hka, hfa, hen, hel, heh, hef⟩ := TR.out.entry hy
        simp only at c2 c4 hka heh
        have hki : (k' : Int) < (es.length : Int) := by omega
        have hk0 : ¬ (k' : Int) < 0 := by omega
        have hkan : ka = none → (1 : Nat) = 0 ∧ kc' = 0 := fun e => by
          obtain ⟨b, off, e2, _⟩ := hka.some (by omega)
          rw [e] at e2; cases e2
        have HOWN := hid (own_any (ln := (m : Int)) (pr := 0) (ac := ((C m v).getD (0, [])).1) hkan hka (by omega) (fun _ => ⟨rfl, rfl⟩) (has_nil _ _) (by omega) hen heh hel)
        clear TR HT1 HR hmax HMEM HRNG HX1 hka hfa hen heh hef hy hym hmy hB
        generalize hh : (C m v).getD (0, []) = h at *
        have HHH := hid hh
        clear hh
        go_wp2_with fail
        refine HOWN.out.mono ?_
        rintro e w3 ⟨ak, ck, am, cm, oa, oc, rfl, -, -, lo, hb3⟩
        have hws : w.heap.size < wr.heap.size := World.block_lt_of_cell? wr _ X0
        have hal : Below w3.heap.size w3 (w3.alloc (EC ak 1 ck am 0 cm (m : Int) 0 h.1 oa en oc)) := bl_alloc (Below.refl _ _)
        have hb4 := bl_step hb3 hal
        have Y0 := (hb4.cell (p := ⟨w.heap.size, 0, none⟩) hws).trans X0
        have Y1 := (hb4.cell (p := ⟨w.heap.size, 1, none⟩) hws).trans X1
        have G0 := (hb4.frozen (p := ⟨w.heap.size, 0, none⟩) hws).trans F0
        have G1 := (hb4.frozen (p := ⟨w.heap.size, 1, none⟩) hws).trans F1
        have SX := hid (six_new w3 (.slice ak 1 ck) (.slice am 0 cm) (.int .i64 (m : Int)) (.int .i64 0) (.int .i64 h.1) (.slice oa en oc) 33)
        have SY : Hid (Says (w3.alloc (EC ak 1 ck am 0 cm (m : Int) 0 h.1 oa en oc)) (.agg #[.int .i64 h.1, .slice oa en oc]) h) := ⟨oa, en, oc, rfl, lo.1, hel, (lo.step hal).2.2.1⟩
        have BB := hid (bl_step BW.out hb4)
        have hne1 : ¬ w3.heap.size = w.heap.size := by have := hb3.size; omega
        have hne2 : ¬ w.heap.size = w3.heap.size := by have := hb3.size; omega
        clear HOWN lo hb3 hal hb4 X0 X1 F0 F1 BW c0 c1 c2 c3 c4 c5 r4
        go_upto_region 12 with fail
        generalize w3.alloc (EC ak 1 ck am 0 cm (m : Int) 0 h.1 oa en oc) = w4 at *
        generalize w3.heap.size = eb at *
        obtain ⟨-, -, s2, -, s4, s5, -, -, -, -, -, -⟩ := SX.out
        have HEND : Hid (FindDone w ((w4.drew.setCell ⟨w.heap.size, 0, none⟩ (.int .i64 h.1)).setCell ⟨w.heap.size, 1, none⟩ (.slice oa en oc)) (some (h, m)) (.returned (.tuple #[.agg #[.int .i64 h.1, .slice oa en oc], .int .i64 (m : Int), .bool true]))) := ⟨_, rfl, (SY.out.moved (moved_below (Below.refl w4.heap.size w4).drew)).over Y0 Y1 _ _, (BB.out.drew.setCell (by simp) _).setCell (by simp) _⟩
        go_region
        all_goals
          have d0 : w4.cell? ⟨w.heap.size, 0, none⟩ = some (.int .i64 0) := Y0
          go_wp2
          exact bodyPost_ret (v := .tuple #[.agg #[.int .i64 h.1, .slice oa en oc], .int .i64 (m : Int), .bool true]) (by simp [results, Try.results19, go_sem, Y0, Y1]) rfl (by rw [HHH.out]; exact HEND.out)

theorem rfind_any {w : World} {B S r kb ko kc key : Nat} {wd most : Int} {C : Told2} {es : List (Nat × Nat)} (t : Rws w B S r wd most C es) (mem : ∀ n v, (n, v) ∈ es ↔ (C n v).isSome = true) (rng : ∀ n v, (C n v).isSome = true → n ≤ wid wd) (hl : es.length ≤ 100000) (hkc : w.cell? ⟨kb, ko, none⟩ = some (.int .u64 (key : Int))) :
    Calls Try.prog 19 #[.pointer (some ⟨r, 0, none⟩), .slice (some ⟨kb, ko, none⟩) 1 kc] w fun e w' => FindDone w w' (foundIn C wd key) e := by
  unfold foundIn
  by_cases h : 1 ≤ wd ∧ wd ≤ 64 ∧ key < 2 ^ wd.toNat
  · rw [if_pos h]
    obtain ⟨W, rfl⟩ := Int.eq_ofNat_of_zero_le (show 0 ≤ wd by omega)
    have hw : wid (W : Int) = W := by unfold wid; rw [if_pos ⟨h.1, h.2.1⟩]; rfl
    rw [hw] at rng
    rw [Int.toNat_natCast] at h ⊢
    exact rfind_in t mem rng hl (by omega) (by omega) h.2.2 hkc
  · rw [if_neg h]
    exact rfind_out t.hd hkc h
end Go.Proofs.Ytlnkfgdepddmlac
