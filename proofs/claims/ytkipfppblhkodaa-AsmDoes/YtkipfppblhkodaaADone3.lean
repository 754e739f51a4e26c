/- The document's Done of an Asm. -/
import Derived.Test.YtkipfppblhkodaaADone2
import Derived.Test.YtkipfppblhkodaaGRefA
namespace Go.Proofs.Ytkipfppblhkodaa
open Go.RowKit

theorem rfields_t (op : Int) (w : World) : Calls Try.prog 22 #[.int .i64 op] w fun e w' => ∃ b0 b1 b2 b4 ok, e = .returned (.tuple #[.agg #[.bool b0, .bool b1, .bool b2, .bool (hasT op), .bool b4], .bool ok]) ∧ Below w.heap.size w w' :=
  (rfields op w).mono fun _ _ h => ⟨_, _, _, _, _, h.1, h.2⟩

set_option maxHeartbeats 8000000 in
set_option maxRecDepth 20000 in
theorem rdone {B : Nat} {d : LabD} {w : World} (h : LabAt 31 B d w) (hcs : d.cs.length ≤ 60000) (slots : Int) (hs : gwfI slots) {s : QSl} {ts : List ShapeD} (hr : QRow 3 ShapeD.lie w s ts) (hn : s.nil0) (hsm : s.n ≤ 300) : Calls Try.prog 12 #[lptr d.p, .int .i64 slots, .slice s.a s.n s.c] w (DoneIs d.ms slots ts d.cs w) := by
  obtain ⟨W2, hW2⟩ : ∃ W2, W2 = ((w.alloc (.cells #[.int .i64 0, .slice none 0 0, .slice none 0 0] 41)).alloc (.cells #[.int .i64 0, .int .i64 0] 43)) := ⟨_, rfl⟩
  obtain ⟨rb, hrb⟩ : ∃ b, b = w.heap.size := ⟨_, rfl⟩
  obtain ⟨fb, hfb⟩ : ∃ b, b = w.heap.size + 1 := ⟨_, rfl⟩
  have b2 : Below w.heap.size w W2 := by rw [hW2]; exact bl_alloc (bl_alloc (Below.refl _ _))
  have HB := hid b2
  have HRES : Hid (ResAt w W2 rb fb W2) := by
    refine ⟨?_, ?_, by omega, by omega, by omega, ?_, ?_⟩
    · rw [hW2, hrb]
      rw [Below.heap_alloc _ _ _ (by simp)]
      exact galloc_at _ _ _
    · rw [hW2, hfb]
      have := galloc_at (w.alloc (.cells #[.int .i64 0, .slice none 0 0, .slice none 0 0] 41)) #[.int .i64 0, .int .i64 0] 43
      simpa using this
    · rw [hW2, hrb]; simp; omega
    · rw [hW2, hfb]; simp
  have HL := hid (h.step b2)
  have hrow := (h.step b2).row
  have HOW : Hid (Calls Try.prog 21 #[.agg #[.int .i64 slots, .slice s.a s.n s.c, .slice d.la d.cs.length d.lc]] W2 (OwnIs2 ⟨slots, s, ts, ⟨d.la, d.cs.length, d.lc⟩, d.cs⟩ W2)) := rown2 ⟨slots, s, ts, ⟨d.la, d.cs.length, d.lc⟩, d.cs⟩ W2 ⟨hs, hn, hrow.2, hr.step ShapeD.keeps b2, hrow.1⟩ ⟨hsm, by show d.cs.length ≤ 65535; omega⟩
  have HWM := hid h.wm
  have HNT : Hid (ts.length = s.n) := hr.1
  have HFA := hid (fun x y w => fault_any x y w)
  have EW := hid hW2
  have ER := hid hrb
  have EF := hid hfb
  obtain ⟨c0, c1, z0, z1, l0⟩ := (h.step b2).lbox
  clear h hr hn hs hW2 hrb hfb b2 hrow
  go_enter Try.func12, Try.ntmps12
  go_upto_region 1 with fail
  rw [← EW.out, ← EF.out, ← ER.out]
  go_wp2_with fail
  refine HOW.out.mono ?_
  rintro e w3 ⟨⟨qs, ⟨ta, tn, tc⟩, qts, ⟨qa, qn, qc⟩, qcs⟩, rfl, e1, e2, e3, hlie, hsmall, hb3, hown⟩
  dsimp only at e1 e2 e3
  subst e1 e2 e3
  have HD : Hid (DonAt W2 w3.heap.size ⟨qs, ⟨ta, tn, tc⟩, qts, ⟨qa, qn, qc⟩, d.cs⟩ (w3.alloc (.cells #[.int .i64 qs, .slice ta tn tc, .slice qa qn qc] 41))) := ⟨bl_alloc hb3, galloc_at _ _ _, hb3.size, hlie.step (bl_alloc (Below.refl _ _)), hown.step (bl_alloc (Below.refl _ _))⟩
  have hqn : d.cs.length = qn := hlie.c.1
  have htn : qts.length = tn := hlie.t.1
  have HQN := hid hqn
  have HTN := hid htn
  have hql : qn ≤ 60000 := by omega
  obtain ⟨W4, hW4⟩ : ∃ W4, W4 = w3.alloc (.cells #[.int .i64 qs, .slice ta tn tc, .slice qa qn qc] 41) := ⟨_, rfl⟩
  obtain ⟨pb, hpb⟩ : ∃ b, b = w3.heap.size := ⟨_, rfl⟩
  rw [← hW4, ← hpb] at HD
  have E4 := hid hW4
  have E5 := hid hpb
  clear hlie hsmall hb3 hown hqn htn hW4 hpb HOW c0 c1 z0 z1 l0 EW ER EF
  go_upto_region 2 with fail
  rw [← E4.out, ← E5.out]
  clear E4 E5
  go_wp2
  go_loopw [9, 10, 11, 12] (fun k _ _ _ wr => ∃ i : Nat, i ≤ qn ∧ k = .int .i64 i ∧ Hid (DonAt W2 pb (ProgD.withC ⟨qs, ⟨ta, tn, tc⟩, qts, ⟨qa, qn, qc⟩, d.cs⟩ (upL d.ms d.cs i)) wr ∧ ∀ (k : Nat) t, k < i → d.cs[k]? = some t → codeAt d.ms k t = 0)) (fun k _ _ _ _ => qn - (intOf k).toNat)
  case atStart => exact ⟨0, Nat.zero_le _, rfl, HD.out, fun k t hk => absurd hk (by omega)⟩
  case round =>
    obtain ⟨i, hi, rfl, J⟩ := hrel
    obtain ⟨JD, JC⟩ := J.out
    have HJ := hid JD
    have HJC := hid JC
    obtain ⟨r0, r1, r2, r3, r4, r5, rl⟩ := pz_cells (HRES.out.step JD.bel).r
    have hfbx := (HRES.out.step JD.bel).f
    have s0 := (gbox_cell hfbx 0).trans (rfl : _ = some (Value.int .i64 0))
    have s1 := (gbox_cell hfbx 1).trans (rfl : _ = some (Value.int .i64 0))
    have s2 : wr.frozen? ⟨fb, 0, none⟩ = false := by simp [World.frozen?, hfbx]
    have s3 : wr.frozen? ⟨fb, 1, none⟩ = false := by simp [World.frozen?, hfbx]
    have sl := (Array.getElem?_eq_some_iff.1 hfbx).1
    have hne := HRES.out.ne
    have hne' : ¬ fb = rb := fun e => hne e.symm
    have q0 := (gbox_cell JD.box 0).trans (rfl : _ = some (Value.int .i64 qs))
    have q1 := (gbox_cell JD.box 1).trans (rfl : _ = some (Value.slice ta tn tc))
    have q2 := (gbox_cell JD.box 2).trans (rfl : _ = some (Value.slice qa qn qc))
    have hpl := (Array.getElem?_eq_some_iff.1 JD.box).1
    clear hfbx HD
    by_cases hlt : i < qn
    · have hki : (i : Int) < (qn : Int) := by omega
      obtain ⟨x, hx⟩ : ∃ x, d.cs[i]? = some x := ⟨_, List.getElem?_eq_getElem (by rw [HQN.out]; exact hlt)⟩
      obtain ⟨g, off, y, ea, hy, hlie⟩ := grow_at JD.lie.c (show i < qn from hlt)
      have hy : (upL d.ms d.cs i)[i]? = some y := hy
      rw [upL_now hx] at hy
      obtain rfl := Option.some.inj hy
      have ea : qa = some ⟨g, off, none⟩ := ea
      subst ea
      obtain ⟨⟨x0, _⟩, _, _, _, ⟨x4, _⟩, _⟩ := hlie
      have HX := hid hx
      clear hx hy JD JC J
      go_wp2_with fail
      refine (rfields_t _ _).mono ?_
      rintro e w5 ⟨b0, b1, b2, b4, ok, rfl, b5⟩
      have HJ5 := hid (HJ.out.step b5)
      have JD := HJ5.out
      have fz4 : w5.frozen? ⟨g, off + i * 6 + 4, none⟩ = false := by
        obtain ⟨⟨cur, hc⟩, _⟩ := JD.own.1 ⟨g, off, none⟩ rfl
        have hc : w5.heap[g]? = some (.cells cur 34 (0, 0)) := hc
        simp [World.frozen?, hc]
      have x4 := cell_keep x4 b5
      have gl := World.block_lt_of_cell? _ _ x4
      obtain ⟨r0, r1, r2, r3, r4, r5, rl⟩ := pz_cells (HRES.out.step JD.bel).r
      have hfbx := (HRES.out.step JD.bel).f
      have s0 := (gbox_cell hfbx 0).trans (rfl : _ = some (Value.int .i64 0))
      have s1 := (gbox_cell hfbx 1).trans (rfl : _ = some (Value.int .i64 0))
      have s2 : w5.frozen? ⟨fb, 0, none⟩ = false := by simp [World.frozen?, hfbx]
      have s3 : w5.frozen? ⟨fb, 1, none⟩ = false := by simp [World.frozen?, hfbx]
      have sl := (Array.getElem?_eq_some_iff.1 hfbx).1
      have q2 := (gbox_cell JD.box 2).trans (rfl : _ = some (Value.slice (some ⟨g, off, none⟩) qn qc))
      have hpl := (Array.getElem?_eq_some_iff.1 JD.box).1
      have HL5 := hid (HL.out.step JD.bel)
      obtain ⟨c0, c1, z0, z1, l0⟩ := HL5.out.lbox
      clear JD hfbx b5
      by_cases hT : hasT x.op = true
      · rw [hT]
        have HT := hid hT
        clear hT
        by_cases h0 : x.to < 0
        · have E : Hid (toN d.ms i x.to = (0, 9)) := by show _ = _; unfold toN; rw [if_pos (.inl h0)]
          have HE := hid (done_code (slots := qs) (ts := qts) HJC.out HX.out HT.out (by rw [E.out]; decide))
          rw [E.out] at HE
          go_wp2_with fail
          refine (HFA.out _ _ _).mono ?_
          rintro e w6 ⟨rfl, b6⟩
          have B6 := hid (bl_step (bl_alloc HJ5.out.bel) b6)
          have HR6 := hid (HRES.out.step B6.out)
          obtain ⟨r0, r1, r2, r3, r4, r5, rl⟩ := pz_cells HR6.out.r
          have hfbx := HR6.out.f
          have s0 := (gbox_cell hfbx 0).trans (rfl : _ = some (Value.int .i64 0))
          have s1 := (gbox_cell hfbx 1).trans (rfl : _ = some (Value.int .i64 0))
          have s2 : w6.frozen? ⟨fb, 0, none⟩ = false := by simp [World.frozen?, hfbx]
          have s3 : w6.frozen? ⟨fb, 1, none⟩ = false := by simp [World.frozen?, hfbx]
          have sl := (Array.getElem?_eq_some_iff.1 hfbx).1
          have HRB := hid (res_bel HR6.out (bl_step HB.out B6.out))
          clear hfbx b6
          go_wp2
          exact bodyPost_ret (v := .tuple #[.agg #[.int .i64 0, .slice none 0 0, .slice none 0 0], .agg #[.int .i64 9, .int .i64 (i : Int)]]) (by simp [results, Try.results12, go_sem, *]) rfl (done_bad HE.out (by decide) (HRB.out _ _ _ _ _))
        by_cases h1 : (d.ms.length : Int) ≤ x.to
        · have E : Hid (toN d.ms i x.to = (0, 9)) := by show _ = _; unfold toN; rw [if_pos (.inr (.inl h1))]
          have HE := hid (done_code (slots := qs) (ts := qts) HJC.out HX.out HT.out (by rw [E.out]; decide))
          rw [E.out] at HE
          go_wp2_with fail
          refine (HFA.out _ _ _).mono ?_
          rintro e w6 ⟨rfl, b6⟩
          have B6 := hid (bl_step (bl_alloc HJ5.out.bel) b6)
          have HR6 := hid (HRES.out.step B6.out)
          obtain ⟨r0, r1, r2, r3, r4, r5, rl⟩ := pz_cells HR6.out.r
          have hfbx := HR6.out.f
          have s0 := (gbox_cell hfbx 0).trans (rfl : _ = some (Value.int .i64 0))
          have s1 := (gbox_cell hfbx 1).trans (rfl : _ = some (Value.int .i64 0))
          have s2 : w6.frozen? ⟨fb, 0, none⟩ = false := by simp [World.frozen?, hfbx]
          have s3 : w6.frozen? ⟨fb, 1, none⟩ = false := by simp [World.frozen?, hfbx]
          have sl := (Array.getElem?_eq_some_iff.1 hfbx).1
          have HRB := hid (res_bel HR6.out (bl_step HB.out B6.out))
          clear hfbx b6
          go_wp2
          exact bodyPost_ret (v := .tuple #[.agg #[.int .i64 0, .slice none 0 0, .slice none 0 0], .agg #[.int .i64 9, .int .i64 (i : Int)]]) (by simp [results, Try.results12, go_sem, *]) rfl (done_bad HE.out (by decide) (HRB.out _ _ _ _ _))
        obtain ⟨n, hto⟩ : ∃ n : Nat, x.to = (n : Int) := ⟨x.to.toNat, by omega⟩
        have hl : n < d.ms.length := by omega
        obtain ⟨mg, hmg, cl, mfz, mgl⟩ := lab_at HL5.out hl
        have hi0 : ¬ (n : Int) < 0 := by omega
        have hi1 : (n : Int) < (d.ms.length : Int) := by omega
        have hin : ((n : Int)).toNat = n := by omega
        have hwm : -1 ≤ d.ms.getD n 0 ∧ d.ms.getD n 0 ≤ (d.cs.length : Int) := by
          rw [List.getD_eq_getElem?_getD, List.getElem?_eq_getElem hl, Option.getD_some]
          exact HWM.out _ (List.getElem_mem _)
        have ET : Hid (toN d.ms i x.to = if d.ms.getD n 0 = -1 then (0, 9) else if d.ms.getD n 0 ≤ (i : Int) then (0, 11) else (d.ms.getD n 0 - i - 1, 0)) := by
          show _ = _
          rw [hto]
          unfold toN
          rw [hin]
          by_cases hm : d.ms.getD n 0 = -1
          · rw [if_pos (.inr (.inr hm)), if_pos hm]
          · rw [if_neg (by omega), if_neg hm]
        rw [hto] at x4
        rw [hmg] at c1
        have HTO := hid hto
        have HMG := hid hmg
        clear hto hmg h0 h1
        generalize d.ms.getD n 0 = mm at *
        have hmx : mm ≤ 60000 := by omega
        by_cases hm : mm < 0
        · have E : Hid (toN d.ms i x.to = (0, 9)) := by rw [ET.out, if_pos (by omega)]; exact rfl
          clear ET hwm
          have HE := hid (done_code (slots := qs) (ts := qts) HJC.out HX.out HT.out (by rw [E.out]; decide))
          rw [E.out] at HE
          go_wp2_with fail
          refine (HFA.out _ _ _).mono ?_
          rintro e w6 ⟨rfl, b6⟩
          have B6 := hid (bl_step (bl_alloc HJ5.out.bel) b6)
          have HR6 := hid (HRES.out.step B6.out)
          obtain ⟨r0, r1, r2, r3, r4, r5, rl⟩ := pz_cells HR6.out.r
          have hfbx := HR6.out.f
          have s0 := (gbox_cell hfbx 0).trans (rfl : _ = some (Value.int .i64 0))
          have s1 := (gbox_cell hfbx 1).trans (rfl : _ = some (Value.int .i64 0))
          have s2 : w6.frozen? ⟨fb, 0, none⟩ = false := by simp [World.frozen?, hfbx]
          have s3 : w6.frozen? ⟨fb, 1, none⟩ = false := by simp [World.frozen?, hfbx]
          have sl := (Array.getElem?_eq_some_iff.1 hfbx).1
          have HRB := hid (res_bel HR6.out (bl_step HB.out B6.out))
          clear hfbx b6
          go_wp2
          exact bodyPost_ret (v := .tuple #[.agg #[.int .i64 0, .slice none 0 0, .slice none 0 0], .agg #[.int .i64 9, .int .i64 (i : Int)]]) (by simp [results, Try.results12, go_sem, *]) rfl (done_bad HE.out (by decide) (HRB.out _ _ _ _ _))
        by_cases hle : mm ≤ (i : Int)
        · have E : Hid (toN d.ms i x.to = (0, 11)) := by rw [ET.out, if_neg (by omega), if_pos hle]; exact rfl
          clear ET hwm
          have HE := hid (done_code (slots := qs) (ts := qts) HJC.out HX.out HT.out (by rw [E.out]; decide))
          rw [E.out] at HE
          go_wp2_with fail
          refine (HFA.out _ _ _).mono ?_
          rintro e w6 ⟨rfl, b6⟩
          have B6 := hid (bl_step (bl_alloc HJ5.out.bel) b6)
          have HR6 := hid (HRES.out.step B6.out)
          obtain ⟨r0, r1, r2, r3, r4, r5, rl⟩ := pz_cells HR6.out.r
          have hfbx := HR6.out.f
          have s0 := (gbox_cell hfbx 0).trans (rfl : _ = some (Value.int .i64 0))
          have s1 := (gbox_cell hfbx 1).trans (rfl : _ = some (Value.int .i64 0))
          have s2 : w6.frozen? ⟨fb, 0, none⟩ = false := by simp [World.frozen?, hfbx]
          have s3 : w6.frozen? ⟨fb, 1, none⟩ = false := by simp [World.frozen?, hfbx]
          have sl := (Array.getElem?_eq_some_iff.1 hfbx).1
          have HRB := hid (res_bel HR6.out (bl_step HB.out B6.out))
          clear hfbx b6
          go_wp2
          exact bodyPost_ret (v := .tuple #[.agg #[.int .i64 0, .slice none 0 0, .slice none 0 0], .agg #[.int .i64 11, .int .i64 (i : Int)]]) (by simp [results, Try.results12, go_sem, *]) rfl (done_bad HE.out (by decide) (HRB.out _ _ _ _ _))
        have E : toN d.ms i x.to = (mm - i - 1, 0) := by rw [ET.out, if_neg (by omega), if_neg hle]
        have HC0 : Hid (codeAt d.ms i x = 0) := by show codeAt d.ms i x = 0; unfold codeAt; rw [HT.out, if_pos rfl, E]
        have hto := fix_to (ms := d.ms) (i := i) HT.out
        have hw : gwfI (toN d.ms i x.to).1 := toN_wf HWM.out (by omega)
        rw [E] at hto hw
        obtain ⟨m1, rfl⟩ : ∃ m1 : Nat, mm = ((m1 + i + 1 : Nat) : Int) := ⟨(mm - i - 1).toNat, by omega⟩
        have e1 : ((m1 + i + 1 : Nat) : Int) - (i : Int) - 1 = (m1 : Int) := by omega
        rw [e1] at hto hw
        generalize hu : ((m1 + i + 1 : Nat) : Int) = u at *
        have HFX := hid hto
        have HP := hid (HJ5.out.put (upL_now HX.out) rfl (m1 : Int) hw)
        have w1 : IntKind.i64.wrap (u - (i : Int)) = (m1 : Int) + 1 := by rw [wrap_small _ (by omega) (by omega)]; omega
        have w2 : IntKind.i64.wrap ((m1 : Int) + 1 - 1) = (m1 : Int) := by rw [wrap_small _ (by omega) (by omega)]; omega
        have w3 : IntKind.i64.wrap (m1 : Int) = (m1 : Int) := wrap_small _ (by omega) (by omega)
        have HU := hid hu
        clear hu e1 E ET hwm hto hw
        go_wp2_with fail
        go_region
        all_goals
          go_wp2
          go_roundw
          case rel =>
            refine ⟨i + 1, by omega, by go_num, ?_, codes_next HJC.out HX.out HC0.out⟩
            rw [upL_next HX.out, HFX.out]
            exact (HP.out.step (bl_alloc (Below.refl _ _))).step (Below.refl _ _).drew
          case measure => simp [intOf]; omega
      · have hTf : hasT x.op = false := by simpa using hT
        rw [hTf]
        have HT := hid hTf
        clear hT hTf
        go_wp2
        go_roundw
        case rel =>
          refine ⟨i + 1, by omega, by go_num, ?_, codes_next HJC.out HX.out (by unfold codeAt; rw [HT.out, if_neg (by decide)])⟩
          rw [upL_same HX.out HT.out]
          exact HJ5.out.step (bl_alloc (Below.refl _ _))
        case measure => simp [intOf]; omega
    · have hki : ¬ (i : Int) < (qn : Int) := by omega
      obtain rfl : i = qn := by omega
      have e4 : upL d.ms d.cs i = fixL d.ms d.cs 0 := by rw [← upL_all, HQN.out]
      rw [e4] at JD
      have p0 := (gbox_cell JD.box 0).trans (rfl : _ = some (Value.int .i64 qs))
      have p1 := (gbox_cell JD.box 1).trans (rfl : _ = some (Value.slice ta tn tc))
      have p2 := (gbox_cell JD.box 2).trans (rfl : _ = some (Value.slice qa i qc))
      have hpl := (Array.getElem?_eq_some_iff.1 JD.box).1
      have HCK : Hid (Calls Try.prog 24 #[.agg #[.int .i64 qs, .slice ta tn tc, .slice qa i qc]] wr (TellF (chkW qs qts (fixL d.ms d.cs 0)) wr))   := rfault (ProgD.withC ⟨qs, ⟨ta, tn, tc⟩, qts, ⟨qa, i, qc⟩, d.cs⟩ (fixL d.ms d.cs 0)) wr JD.lie ⟨by show tn ≤ 300; have := HTN.out; have := HNT.out; omega, by show i ≤ 65535; omega⟩
      have HSM : Hid (ProgD.small (ProgD.withC ⟨qs, ⟨ta, tn, tc⟩, qts, ⟨qa, i, qc⟩, d.cs⟩ (fixL d.ms d.cs 0))) := ⟨by show tn ≤ 300; have := HTN.out; have := HNT.out; omega, by show i ≤ 65535; omega⟩
      have HDF : Hid (doneF d.ms qs qts d.cs = chkW qs qts (fixL d.ms d.cs 0)) := done_chk (fun k t hk => JC k t (by rw [← HQN.out]; exact hk))
      have HJE := hid JD
      clear JD JC J e4 HJ HJC
      go_wp2_with fail
      refine HCK.out.mono ?_
      rintro e w9 ⟨rfl, b9⟩
      have HJ9 := hid (HJE.out.step b9)
      have B9 := hid (bl_step HB.out HJ9.out.bel)
      have HR9 := hid (HRES.out.step HJ9.out.bel)
      have r0 := cell_keep r0 b9
      have r1 := cell_keep r1 b9
      have r2 := cell_keep r2 b9
      have r3 := (b9.frozen (p := ⟨rb, 0, none⟩) rl).trans r3
      have r4 := (b9.frozen (p := ⟨rb, 1, none⟩) rl).trans r4
      have r5 := (b9.frozen (p := ⟨rb, 2, none⟩) rl).trans r5
      have rl := Nat.lt_of_lt_of_le rl b9.size
      have s0 := cell_keep s0 b9
      have s1 := cell_keep s1 b9
      have s2 := (b9.frozen (p := ⟨fb, 0, none⟩) sl).trans s2
      have s3 := (b9.frozen (p := ⟨fb, 1, none⟩) sl).trans s3
      have sl := Nat.lt_of_lt_of_le sl b9.size
      have p0 := cell_keep p0 b9
      have p1 := cell_keep p1 b9
      have p2 := cell_keep p2 b9
      have hpl := Nat.lt_of_lt_of_le hpl b9.size
      clear b9 HCK HJE
      by_cases hc : (chkW qs qts (fixL d.ms d.cs 0)).1 = 0
      · have e5 := achk_two hc
        rw [e5]
        have HE : Hid (doneF d.ms qs qts d.cs = (0, 0)) := HDF.out.trans e5
        clear hc e5 HDF
        have HEND : Hid (∀ o x y z u v, DoneIs d.ms qs qts d.cs w (.returned (.tuple #[.agg #[.int .i64 qs, .slice ta tn tc, .slice qa i qc], .agg #[.int .i64 0, .int .i64 0]])) ((((((w9.setCell ⟨rb, 0, none⟩ x).setCell ⟨rb, 1, none⟩ y).setCell ⟨rb, 2, none⟩ z).setCell ⟨fb, 0, none⟩ u).setCell ⟨fb, 1, none⟩ v).alloc o)) := fun o x y z u v =>
          done_good (ProgD.withC ⟨qs, ⟨ta, tn, tc⟩, qts, ⟨qa, i, qc⟩, d.cs⟩ (fixL d.ms d.cs 0)) HE.out rfl rfl rfl ((res_lie HR9.out HJ9.out.lie HJ9.out.own _ _ _ _ _).step (bl_alloc (Below.refl _ _))) HSM.out (bl_alloc (res_bel HR9.out B9.out _ _ _ _ _))
        go_wp2
        exact bodyPost_ret (v := .tuple #[.agg #[.int .i64 qs, .slice ta tn tc, .slice qa i qc], .agg #[.int .i64 0, .int .i64 0]]) (by simp [results, Try.results12, go_sem, *]) rfl (HEND.out _ _ _ _ _ _)
      · have HC0 := hid hc
        have HEND : Hid (∀ o x y z u v, DoneIs d.ms qs qts d.cs w (.returned (.tuple #[.agg #[.int .i64 0, .slice none 0 0, .slice none 0 0], .agg #[.int .i64 (chkW qs qts (fixL d.ms d.cs 0)).1, .int .i64 (chkW qs qts (fixL d.ms d.cs 0)).2]])) ((((((w9.setCell ⟨rb, 0, none⟩ x).setCell ⟨rb, 1, none⟩ y).setCell ⟨rb, 2, none⟩ z).setCell ⟨fb, 0, none⟩ u).setCell ⟨fb, 1, none⟩ v).alloc o).drew) := fun o x y z u v => done_bad HDF.out HC0.out (bl_alloc (res_bel HR9.out B9.out _ _ _ _ _)).drew
        have hcb : ((chkW qs qts (fixL d.ms d.cs 0)).1 != 0) = true := by simpa using hc
        generalize (chkW qs qts (fixL d.ms d.cs 0)).1 = cd at *
        generalize (chkW qs qts (fixL d.ms d.cs 0)).2 = ca at *
        clear hc
        go_wp2_with fail
        go_region
        all_goals
          go_wp2
          exact bodyPost_ret (v := .tuple #[.agg #[.int .i64 0, .slice none 0 0, .slice none 0 0], .agg #[.int .i64 cd, .int .i64 ca]]) (by simp [results, Try.results12, go_sem, *]) rfl (HEND.out _ _ _ _ _ _)
end Go.Proofs.Ytkipfppblhkodaa
