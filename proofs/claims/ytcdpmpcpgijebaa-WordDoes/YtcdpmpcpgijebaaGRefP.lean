/- The document's program of bytes: the walk of ProgramOf. -/
import Derived.Test.YtcdpmpcpgijebaaGRefO
import Derived.Test.YtcdpmpcpgijebaaYCut
namespace Go.Proofs.Ytcdpmpcpgijebaa
open Go.RowKit

theorem wf_i64' {n : Int} (h : -9223372036854775808 ≤ n ∧ n < 9223372036854775808) : gwfI n := by
  show (Lit.int .i64 n).wf = true
  simp [Lit.wf, IntKind.min, IntKind.max, IntKind.bits, IntKind.signed]
  omega

theorem Has.frontP {k : IntKind} {w : World} {a : Option Addr} {len : Nat} {zs : List Int} (h : Has k w a len zs) (n : Nat) (hn : n ≤ len) : Has k w a n (zs.take n) := by
  refine ⟨by rw [List.length_take, h.1]; omega, fun x hx => h.2.1 x (List.mem_of_mem_take hx), ?_⟩
  rcases h.2.2 with e | ⟨b, off, e, hb, hc⟩
  · exact .inl (by rw [e]; simp)
  · refine .inr ⟨b, off, e, hb, fun i hi => ?_⟩
    rw [hc i (by omega)]
    simp only [List.getD_eq_getElem?_getD, List.getElem?_take, if_pos hi]

set_option maxHeartbeats 16000000 in
set_option maxRecDepth 20000 in
theorem rprogOf (a : Option Addr) (n c : Nat) (zs : List Int) (w : World) (hz : Has .u8 w a n zs) (hc : n ≤ c) (hcm : c ≤ maxLen) (hn : n ≤ 1000000) : Calls Try.prog 12 #[.slice a n c] w (GDecDone zs w) := by
  have hl := hz.1
  have hby := hz.byt
  obtain ⟨W2, hW2⟩ : ∃ W2, W2 = ((w.alloc (.cells #[.int .i64 0, .slice none 0 0, .slice none 0 0] 25)).alloc (.cells #[.int .i64 0, .int .i64 0] 31)) := ⟨_, rfl⟩
  obtain ⟨qb, hqb⟩ : ∃ b, b = w.heap.size := ⟨_, rfl⟩
  obtain ⟨fb, hfb⟩ : ∃ b, b = w.heap.size + 1 := ⟨_, rfl⟩
  have HD : Hid (DBox w W2 qb fb) := by rw [hW2, hqb, hfb]; exact dbox_new w
  have HB : Hid (Below w.heap.size w W2) := by rw [hW2]; exact bl_alloc (bl_alloc (Below.refl _ _))
  have HFA := hid (fun x y w => fault_any x y w)
  have HBAD : Hid (∀ C A : Int, wrongB zs = (C, A) → C ≠ 0 → ∀ w', Below w.heap.size w w' → GDecDone zs w (.returned (.tuple #[nilP, .agg #[.int .i64 C, .int .i64 A]])) w') := fun C A e h0 w' hb => by
    have eF : decF zs = (C, A) := by unfold decF; rw [e, if_pos h0]
    exact .inl ⟨by rw [eF]; exact h0, by rw [eF], hb⟩
  have EW := hid hW2
  have EQ := hid hqb
  have EF := hid hfb
  unfold maxLen at hcm
  clear hW2 hqb hfb
  go_enter Try.func12, Try.ntmps12
  go_upto_region 1 with fail
  rw [← EW.out, ← EF.out, ← EQ.out]
  clear EW EQ EF
  by_cases h5 : n < 5
  · have h5i : (n : Int) < 5 := by omega
    have E : Hid (wrongB zs = ((3 : Int), (n : Int))) := by show _ = _; unfold wrongB; rw [hl, if_pos h5]
    clear hz hl hby
    go_wp2_with fail
    refine (HFA.out _ _ _).mono ?_
    rintro e w9 ⟨rfl, b9⟩
    have D9 := hid (HD.out.step b9)
    have B9 := hid (bl_step HB.out b9)
    obtain ⟨q0, q1, q2, f0, f1, z0, z1, z2, z3, z4, lq, lf⟩ := D9.out.cells
    obtain ⟨hqf, hfq⟩ := D9.out.ne
    have HX := hid (HBAD.out 3 ((n : Int)) E.out (by decide))
    have HBB := hid (dput D9.out B9.out)
    clear D9 B9 b9
    go_wp2
    exact bodyPost_ret (v := .tuple #[nilP, .agg #[.int .i64 3, .int .i64 ((n : Int))]]) (by simp [results, Try.results12, go_sem, *]) rfl (HX.out _ (HBB.out _ _ _ _ _))
  have h5i : ¬ (n : Int) < 5 := by omega
  obtain ⟨g, off, rfl, hgl, hcs⟩ := hz.some (by omega)
  have HBYT : Hid (∀ w', Below w.heap.size w w' → ∀ i, i < n → w'.cell? ⟨g, off + i, none⟩ = some (.int .u8 (zs.getD i 0))) := fun w' hb i hi => (cell_keep (hcs i hi) hb)
  have HBV : Hid (∀ i, 0 ≤ zs.getD i 0 ∧ zs.getD i 0 < 256) := fun i => hz.bytes i
  have HZ := hid hz
  have HBY := hid hby
  have HLN := hid hl
  have y0 := HBYT.out W2 HB.out 0 (by omega)
  have y1 := HBYT.out W2 HB.out 1 (by omega)
  have y2 := HBYT.out W2 HB.out 2 (by omega)
  have y3 := HBYT.out W2 HB.out 3 (by omega)
  have y4 := HBYT.out W2 HB.out 4 (by omega)
  rw [Nat.add_zero] at y0
  have hn0 : (0 : Int) < (n : Int) := by omega
  have hn1 : (1 : Int) < (n : Int) := by omega
  have hn2 : (2 : Int) < (n : Int) := by omega
  have hn3 : (3 : Int) < (n : Int) := by omega
  have hn4 : (4 : Int) < (n : Int) := by omega
  have hmk : zs.take 3 = [83, 87, 1] ↔ (zs.getD 0 0 = 83 ∧ zs.getD 1 0 = 87 ∧ zs.getD 2 0 = 1) := by
    match zs, hl with
    | x :: y :: z :: r, _ => simp [List.getD_eq_getElem?_getD]
    | [], e => simp at e; omega
    | [_], e => simp at e; omega
    | [_, _], e => simp at e; omega
  have EMK : Hid (¬ (zs.getD 0 0 = 83 ∧ zs.getD 1 0 = 87 ∧ zs.getD 2 0 = 1) → wrongB zs = ((4 : Int), (0 : Int))) := fun h => by
    unfold wrongB
    rw [hl, if_neg h5, if_pos (by rw [ne_eq, hmk]; exact h)]
  have HMK := hid hmk
  have ent : ((ntOf (zs.drop 3) : Nat) : Int) = zs.getD 4 0 := by
    unfold ntOf
    rw [List.drop_drop]
    exact num1 hby (by omega)
  have esl : slotsOf (zs.drop 3) = zs.getD 3 0 := by
    unfold slotsOf
    exact num1 hby (by omega)
  have hv4 := HBV.out 4
  have hv3 := HBV.out 3
  generalize hx0 : zs.getD 0 0 = b0 at *
  generalize hx1 : zs.getD 1 0 = b1 at *
  generalize hx2 : zs.getD 2 0 = b2 at *
  generalize hx3 : zs.getD 3 0 = b3 at *
  generalize hx4 : zs.getD 4 0 = b4 at *
  have ENT := hid ent
  have ESL := hid esl
  have H5 := hid h5
  clear hz hl hby hcs hgl hmk hx0 hx1 hx2 hx3 hx4 ent esl
  by_cases e0 : b0 = 83
  rotate_left
  · have d0 : (b0 != 83) = true := by simpa using e0
    have E := hid (EMK.out (fun h => e0 h.1))
    clear e0
    go_wp2_with fail
    refine (HFA.out _ _ _).mono ?_
    rintro e w9 ⟨rfl, b9⟩
    have D9 := hid (HD.out.step b9)
    have B9 := hid (bl_step HB.out b9)
    obtain ⟨q0, q1, q2, f0, f1, z0, z1, z2, z3, z4, lq, lf⟩ := D9.out.cells
    obtain ⟨hqf, hfq⟩ := D9.out.ne
    have HX := hid (HBAD.out 4 (0) E.out (by decide))
    have HBB := hid (dput D9.out B9.out)
    clear D9 B9 b9
    go_wp2
    exact bodyPost_ret (v := .tuple #[nilP, .agg #[.int .i64 4, .int .i64 (0)]]) (by simp [results, Try.results12, go_sem, *]) rfl (HX.out _ (HBB.out _ _ _ _ _))
  have d0 : (b0 != 83) = false := by simpa using e0
  by_cases e1 : b1 = 87
  rotate_left
  · have d1 : (b1 != 87) = true := by simpa using e1
    have E := hid (EMK.out (fun h => e1 h.2.1))
    clear e0 e1
    go_wp2_with fail
    refine (HFA.out _ _ _).mono ?_
    rintro e w9 ⟨rfl, b9⟩
    have D9 := hid (HD.out.step b9)
    have B9 := hid (bl_step HB.out b9)
    obtain ⟨q0, q1, q2, f0, f1, z0, z1, z2, z3, z4, lq, lf⟩ := D9.out.cells
    obtain ⟨hqf, hfq⟩ := D9.out.ne
    have HX := hid (HBAD.out 4 (0) E.out (by decide))
    have HBB := hid (dput D9.out B9.out)
    clear D9 B9 b9
    go_wp2
    exact bodyPost_ret (v := .tuple #[nilP, .agg #[.int .i64 4, .int .i64 (0)]]) (by simp [results, Try.results12, go_sem, *]) rfl (HX.out _ (HBB.out _ _ _ _ _))
  have d1 : (b1 != 87) = false := by simpa using e1
  by_cases e2 : b2 = 1
  rotate_left
  · have d2 : (b2 != 1) = true := by simpa using e2
    have E := hid (EMK.out (fun h => e2 h.2.2))
    clear e0 e1 e2
    go_wp2_with fail
    refine (HFA.out _ _ _).mono ?_
    rintro e w9 ⟨rfl, b9⟩
    have D9 := hid (HD.out.step b9)
    have B9 := hid (bl_step HB.out b9)
    obtain ⟨q0, q1, q2, f0, f1, z0, z1, z2, z3, z4, lq, lf⟩ := D9.out.cells
    obtain ⟨hqf, hfq⟩ := D9.out.ne
    have HX := hid (HBAD.out 4 (0) E.out (by decide))
    have HBB := hid (dput D9.out B9.out)
    clear D9 B9 b9
    go_wp2
    exact bodyPost_ret (v := .tuple #[nilP, .agg #[.int .i64 4, .int .i64 (0)]]) (by simp [results, Try.results12, go_sem, *]) rfl (HX.out _ (HBB.out _ _ _ _ _))
  have d2 : (b2 != 1) = false := by simpa using e2
  have HM := hid (HMK.out.2 ⟨e0, e1, e2⟩)
  obtain ⟨nt, rfl⟩ : ∃ m : Nat, b4 = (m : Int) := ⟨b4.toNat, by omega⟩
  have ent : ntOf (zs.drop 3) = nt := by have := ENT.out; omega
  have hw0 := gwrap_i (nt : Int) (by omega) (by omega)
  have hw3 := gwrap_i b3 (by omega) (by omega)
  obtain ⟨k3, hk3⟩ : ∃ k : Nat, k = 3 * nt := ⟨_, rfl⟩
  have hwa : IntKind.i64.wrap (3 * (nt : Int)) = (k3 : Int) := by rw [gwrap_i _ (by omega) (by omega)]; omega
  obtain ⟨k5, hk5⟩ : ∃ k : Nat, k = 5 + k3 := ⟨_, rfl⟩
  have hwb : IntKind.i64.wrap (5 + (k3 : Int)) = (k5 : Int) := by rw [gwrap_i _ (by omega) (by omega)]; omega
  obtain ⟨k7, hk7⟩ : ∃ k : Nat, k = k5 + 2 := ⟨_, rfl⟩
  have hwc : IntKind.i64.wrap ((k5 : Int) + 2) = (k7 : Int) := by rw [gwrap_i _ (by omega) (by omega)]; omega
  have hfirst : wrongB zs = if n < k7 then ((3 : Int), (n : Int)) else if n < k7 + 14 * ncOf (zs.drop 3) then (3, (n : Int)) else if k7 + 14 * ncOf (zs.drop 3) < n then (4, ((k7 + 14 * ncOf (zs.drop 3) : Nat) : Int)) else (0, 0) := by
    unfold wrongB
    rw [HLN.out, if_neg H5.out, if_neg (by rw [HM.out]; exact fun h => h rfl), ent, show 7 + 3 * nt = k7 by omega]
  obtain ⟨W3, hW3⟩ : ∃ W3, W3 = W2.alloc (.cells #[.int .i64 b3, .slice none 0 0, .slice none 0 0] 25) := ⟨_, rfl⟩
  obtain ⟨pb, hpb⟩ : ∃ b, b = W2.heap.size := ⟨_, rfl⟩
  have OF : Hid (OfAt W3 pb b3 none 0 0 none 0 0 [] [] W3) := by rw [hW3, hpb]; exact OfAt.start W2 b3
  have bw3 : Below W2.heap.size W2 W3 := by rw [hW3]; exact bl_alloc (Below.refl _ _)
  have HB3 := hid (bl_step HB.out bw3)
  have HD3 := hid (HD.out.step bw3)
  have HPB : Hid (fb < pb ∧ w.heap.size ≤ pb) := by have := HD.out.cells.lf; have := HB.out.size; show _ ∧ _; omega
  have EW3 := hid hW3
  have EPB := hid hpb
  have HENT := hid ent
  have K7 := hid hk7
  have K5 := hid hk5
  have K3 := hid hk3
  have y4' : W3.cell? ⟨g, off + 4, none⟩ = some (.int .u8 (nt : Int)) := cell_keep y4 bw3
  clear ent hW3 hpb bw3 e0 e1 e2 HMK EMK hk3 hk5 hk7 HB HD
  go_upto_region 6 with fail
  rw [← EW3.out, ← EPB.out]
  clear EW3 EPB y0 y1 y2 y3 y4 d0 d1 d2
  by_cases h7 : n < k7
  · have h7i : (n : Int) < (k7 : Int) := by omega
    have E : Hid (wrongB zs = ((3 : Int), (n : Int))) := by show _ = _; rw [hfirst, if_pos h7]
    clear hfirst
    go_wp2_with fail
    refine (HFA.out _ _ _).mono ?_
    rintro e w9 ⟨rfl, b9⟩
    have D9 := hid (HD3.out.step b9)
    have B9 := hid (bl_step HB3.out b9)
    obtain ⟨q0, q1, q2, f0, f1, z0, z1, z2, z3, z4, lq, lf⟩ := D9.out.cells
    obtain ⟨hqf, hfq⟩ := D9.out.ne
    have HX := hid (HBAD.out 3 ((n : Int)) E.out (by decide))
    have HBB := hid (dput D9.out B9.out)
    clear D9 B9 b9
    go_wp2
    exact bodyPost_ret (v := .tuple #[nilP, .agg #[.int .i64 3, .int .i64 ((n : Int))]]) (by simp [results, Try.results12, go_sem, *]) rfl (HX.out _ (HBB.out _ _ _ _ _))
  have h7i : ¬ (n : Int) < (k7 : Int) := by omega
  rw [if_neg h7] at hfirst
  have HFI := hid hfirst
  have H7 := hid h7
  clear hfirst h7
  go_wp2
  clear y4' hwa hwb hwc hw0 hw3
  go_loopw [6, 7] (fun qa q wr => ∃ (i at_ : Nat) (ta : Option Addr) (tc : Nat), i ≤ nt ∧ q = .int .i64 i ∧ qa = .int .i64 at_ ∧ Hid (at_ = 5 + 3 * i) ∧ Hid (OfAt W3 pb b3 ta i tc none 0 0 (tabsOf i (zs.drop 5)) [] wr)) (fun _ q _ => nt - (intOf q).toNat)
  case atStart => exact ⟨0, 5, none, 0, Nat.zero_le _, rfl, rfl, rfl, OF⟩
  case round =>
    obtain ⟨i, at_, ta, tc, hi, rfl, rfl, HAT, OA⟩ := hrel
    clear OF
    by_cases hlt : i < nt
    · have hii : (i : Int) < (nt : Int) := by omega
      have hpw := HPB.out
      have hat := HAT.out
      have hk7 := K7.out
      have hk5 := K5.out
      have hk3 := K3.out
      have h7 := H7.out
      have HBr : Below w.heap.size w wr := HB3.out.trans (OA.out.rn.low hpw.2 HB3.out.size)
      have hbd : Below wr.heap.size wr wr.drew := (Below.refl _ _).drew
      obtain ⟨x, hx⟩ : ∃ x, x = tabOf ((zs.drop 5).drop (3 * i)) := ⟨_, rfl⟩
      have ex : x = ⟨zs.getD at_ 0, zs.getD (at_ + 1) 0, zs.getD (at_ + 2) 0⟩ := by
        rw [hx, List.drop_drop, tab_at HBY.out (by rw [HLN.out]; omega), hat]
      have v0 := HBV.out at_
      have v1 := HBV.out (at_ + 1)
      have v2 := HBV.out (at_ + 2)
      have c0 := HBYT.out wr HBr at_ (by omega)
      have c1 := HBYT.out wr HBr (at_ + 1) (by omega)
      have c2 := HBYT.out wr HBr (at_ + 2) (by omega)
      have m0 : (at_ : Int) < (n : Int) := by omega
      obtain ⟨a1, ha1⟩ : ∃ k : Nat, k = at_ + 1 := ⟨_, rfl⟩
      obtain ⟨a2, ha2⟩ : ∃ k : Nat, k = at_ + 2 := ⟨_, rfl⟩
      rw [← ha1] at c1 v1 ex
      rw [← ha2] at c2 v2 ex
      have m1 : (a1 : Int) < (n : Int) := by omega
      have m2 : (a2 : Int) < (n : Int) := by omega
      have w1 : IntKind.i64.wrap ((at_ : Int) + 1) = (a1 : Int) := by rw [gwrap_i _ (by omega) (by omega)]; omega
      have w2 : IntKind.i64.wrap ((at_ : Int) + 2) = (a2 : Int) := by rw [gwrap_i _ (by omega) (by omega)]; omega
      have CB : Hid (∀ w', Below w.heap.size w w' → w'.cell? ⟨g, off + at_, none⟩ = some (.int .u8 (zs.getD at_ 0)) ∧ w'.cell? ⟨g, off + a1, none⟩ = some (.int .u8 (zs.getD a1 0)) ∧ w'.cell? ⟨g, off + a2, none⟩ = some (.int .u8 (zs.getD a2 0))) := fun w' h => ⟨HBYT.out w' h at_ (by omega), HBYT.out w' h a1 (by omega), HBYT.out w' h a2 (by omega)⟩
      generalize zs.getD at_ 0 = t0 at *
      generalize zs.getD a1 0 = t1 at *
      generalize zs.getD a2 0 = t2 at *
      have u0 := gwrap_i t0 (by omega) (by omega)
      have u1 := gwrap_i t1 (by omega) (by omega)
      have u2 := gwrap_i t2 (by omega) (by omega)
      obtain ⟨g6, cap6, w6, hrun, ⟨s0, s1, s2⟩, OB⟩ := (OA.out.step hbd).tab x (by omega)
      rw [ex] at hrun
      have hrun' : (Builtin.append_ #[22, 22] 22 #[.slice ta i tc, .slice (some ⟨wr.heap.size, 0, none⟩) 1 1]).run Try.prog (wr.alloc (.cells #[.int .i64 t0, .int .i64 t1, .int .i64 t2] 50)).drew = .ok (.slice (some ⟨g6, 0, none⟩) (i + 1) cap6) w6 := hrun
      have q1 := gbox_cell OA.out.box 1
      have qz : wr.frozen? ⟨pb, 1, none⟩ = false := by simp [World.frozen?, OA.out.box]
      have ql : pb < wr.heap.size := (Array.getElem?_eq_some_iff.1 OA.out.box).1
      have B6 : Below w.heap.size w w6 := by
        have h1 := OB.rn.low (B := w.heap.size) HPB.out.2 HB3.out.size
        have h2 : Below w.heap.size w (w6.setCell ⟨pb, 1, none⟩ (.slice (some ⟨g6, 0, none⟩) (i + 1) cap6)) := HB3.out.trans h1
        refine ⟨h2.os, h2.tape, h2.output, by simpa [World.setCell] using h2.size, fun k hk => ?_⟩
        rw [← h2.block k hk]
        exact (Below.heap_setCell _ _ _ _ (by have := HPB.out.2; show k ≠ pb; omega)).symm
      have r0 : w6.cell? ⟨g, off + at_, none⟩ = some (.int .u8 t0) := CB.out w6 B6 |>.1
      have r1 : w6.cell? ⟨g, off + a1, none⟩ = some (.int .u8 t1) := CB.out w6 B6 |>.2.1
      have r2 : w6.cell? ⟨g, off + a2, none⟩ = some (.int .u8 t2) := CB.out w6 B6 |>.2.2
      have bA : Below wr.heap.size wr (wr.alloc (.cells #[.int .i64 t0, .int .i64 t1, .int .i64 t2] 50)).drew := (bl_alloc (Below.refl _ _)).drew
      have k1 := cell_keep q1 bA
      have k2 := cell_keep c0 bA
      have k3 := cell_keep c1 bA
      have k4 := cell_keep c2 bA
      have O6 : Hid (OfAt W3 pb b3 (some ⟨g6, 0, none⟩) (i + 1) cap6 none 0 0 (tabsOf (i + 1) (zs.drop 5)) [] (w6.setCell ⟨pb, 1, none⟩ (.slice (some ⟨g6, 0, none⟩) (i + 1) cap6))) := by show OfAt _ _ _ _ _ _ _ _ _ _ _ _; rw [tabs_next, ← hx]; exact OB
      have HAT2 : Hid (at_ + 3 = 5 + 3 * (i + 1)) := by show _ = _; omega
      have hgl : g < wr.heap.size := World.block_lt_of_cell? _ _ c0
      clear CB B6 bA ha1 ha2 hx ex hbd OB hrun HBr OA hat hk7 hk5 hk3 h7 HAT hpw v0 v1 v2
      go_wp2_with fail
      refine wp_region_cut 22 (by kernel_rfl) (by kernel_rfl) ?_
      refine wpAny_of_held (S := (fun w' => w'.cell? ⟨pb, 1, none⟩ = some (.slice ta i tc) ∧ w'.cell? ⟨g, off + at_, none⟩ = some (.int .u8 t0) ∧ w'.cell? ⟨g, off + a1, none⟩ = some (.int .u8 t1) ∧ w'.cell? ⟨g, off + a2, none⟩ = some (.int .u8 t2))) _ _ _ _ ?_
      have hHeld : (fun w' => w'.cell? ⟨pb, 1, none⟩ = some (.slice ta i tc) ∧ w'.cell? ⟨g, off + at_, none⟩ = some (.int .u8 t0) ∧ w'.cell? ⟨g, off + a1, none⟩ = some (.int .u8 t1) ∧ w'.cell? ⟨g, off + a2, none⟩ = some (.int .u8 t2)) wr.drew := ⟨q1, c0, c1, c2⟩
      refine wpAnyH_take (i := 0) (v := ?_) (drop_at rfl) (by kernel_rfl) (by kernel_rfl) (by kernel_rfl) (fun _ _ _ h => h) (Or.inl ⟨by rfl, ?_⟩) hHeld ?_
      rotate_left
      · intro w0 hSw
        try dsimp only at hSw
        go_simp
        try with_reducible rfl
      try simp only [Act.put, List.setIfInBounds_toArray, List.set_cons_zero, List.set_cons_succ]
      refine wpAnyH_take (i := 1) (v := ?_) (drop_at rfl) (by kernel_rfl) (by kernel_rfl) (by kernel_rfl) (fun _ _ _ h => h) (Or.inl ⟨by rfl, ?_⟩) hHeld ?_
      rotate_left
      · intro w0 hSw
        try dsimp only at hSw
        go_simp
        try with_reducible rfl
      try simp only [Act.put, List.setIfInBounds_toArray, List.set_cons_zero, List.set_cons_succ]
      refine wpAnyH_take (i := 2) (v := ?_) (drop_at rfl) (by kernel_rfl) (by kernel_rfl) (by kernel_rfl) (fun _ _ _ h => h) (Or.inl ⟨by rfl, ?_⟩) hHeld ?_
      rotate_left
      · intro w0 hSw
        try dsimp only at hSw
        go_simp
        try with_reducible rfl
      try simp only [Act.put, List.setIfInBounds_toArray, List.set_cons_zero, List.set_cons_succ]
      refine wpAnyH_take (i := 3) (v := ?_) (drop_at rfl) (by kernel_rfl) (by kernel_rfl) (by kernel_rfl) (fun _ _ _ h => h) (Or.inl ⟨by rfl, ?_⟩) hHeld ?_
      rotate_left
      · intro w0 hSw
        try dsimp only at hSw
        go_simp
        try with_reducible rfl
      try simp only [Act.put, List.setIfInBounds_toArray, List.set_cons_zero, List.set_cons_succ]
      refine wpAnyH_take (i := 4) (v := ?_) (drop_at rfl) (by kernel_rfl) (by kernel_rfl) (by kernel_rfl) (fun _ _ _ h => h) (Or.inl ⟨by rfl, ?_⟩) hHeld ?_
      rotate_left
      · intro w0 hSw
        try dsimp only at hSw
        go_simp
        try with_reducible rfl
      try simp only [Act.put, List.setIfInBounds_toArray, List.set_cons_zero, List.set_cons_succ]
      refine wpAnyH_take (i := 5) (v := ?_) (drop_at rfl) (by kernel_rfl) (by kernel_rfl) (by kernel_rfl) (fun _ _ _ h => h) (Or.inl ⟨by rfl, ?_⟩) hHeld ?_
      rotate_left
      · intro w0 hSw
        try dsimp only at hSw
        go_simp
        try with_reducible rfl
      try simp only [Act.put, List.setIfInBounds_toArray, List.set_cons_zero, List.set_cons_succ]
      refine wpAnyH_take (i := 6) (v := ?_) (drop_at rfl) (by kernel_rfl) (by kernel_rfl) (by kernel_rfl) (fun _ _ _ h => h) (Or.inl ⟨by rfl, ?_⟩) hHeld ?_
      rotate_left
      · intro w0 hSw
        try dsimp only at hSw
        go_simp
        try with_reducible rfl
      try simp only [Act.put, List.setIfInBounds_toArray, List.set_cons_zero, List.set_cons_succ]
      refine wpAnyH_take (i := 7) (v := ?_) (drop_at rfl) (by kernel_rfl) (by kernel_rfl) (by kernel_rfl) (fun _ _ _ h => h) (Or.inl ⟨by rfl, ?_⟩) hHeld ?_
      rotate_left
      · intro w0 hSw
        try dsimp only at hSw
        go_simp
        try with_reducible rfl
      try simp only [Act.put, List.setIfInBounds_toArray, List.set_cons_zero, List.set_cons_succ]
      refine wpAnyH_take (i := 8) (v := ?_) (drop_at rfl) (by kernel_rfl) (by kernel_rfl) (by kernel_rfl) (fun _ _ _ h => h) (Or.inl ⟨by rfl, ?_⟩) hHeld ?_
      rotate_left
      · intro w0 hSw
        try dsimp only at hSw
        go_simp
        try with_reducible rfl
      try simp only [Act.put, List.setIfInBounds_toArray, List.set_cons_zero, List.set_cons_succ]
      refine wpAnyH_take (i := 9) (v := ?_) (drop_at rfl) (by kernel_rfl) (by kernel_rfl) (by kernel_rfl) (fun _ _ _ h => h) (Or.inl ⟨by rfl, ?_⟩) hHeld ?_
      rotate_left
      · intro w0 hSw
        try dsimp only at hSw
        go_simp
        try with_reducible rfl
      try simp only [Act.put, List.setIfInBounds_toArray, List.set_cons_zero, List.set_cons_succ]
      refine wpAnyH_take (i := 10) (v := ?_) (drop_at rfl) (by kernel_rfl) (by kernel_rfl) (by kernel_rfl) (fun _ _ _ h => h) (Or.inl ⟨by rfl, ?_⟩) hHeld ?_
      rotate_left
      · intro w0 hSw
        try dsimp only at hSw
        go_simp
        try with_reducible rfl
      try simp only [Act.put, List.setIfInBounds_toArray, List.set_cons_zero, List.set_cons_succ]
      refine wpAnyH_take (i := 11) (v := ?_) (drop_at rfl) (by kernel_rfl) (by kernel_rfl) (by kernel_rfl) (fun _ _ _ h => h) (Or.inl ⟨by rfl, ?_⟩) hHeld ?_
      rotate_left
      · intro w0 hSw
        try dsimp only at hSw
        go_simp
        try with_reducible rfl
      try simp only [Act.put, List.setIfInBounds_toArray, List.set_cons_zero, List.set_cons_succ]
      refine wpAnyH_take (i := 12) (v := ?_) (drop_at rfl) (by kernel_rfl) (by kernel_rfl) (by kernel_rfl) (fun _ _ _ h => h) (Or.inl ⟨by rfl, ?_⟩) hHeld ?_
      rotate_left
      · intro w0 hSw
        try dsimp only at hSw
        go_simp
        try with_reducible rfl
      try simp only [Act.put, List.setIfInBounds_toArray, List.set_cons_zero, List.set_cons_succ]
      refine wpAnyH_take (i := 13) (v := ?_) (drop_at rfl) (by kernel_rfl) (by kernel_rfl) (by kernel_rfl) (fun _ _ _ h => h) (Or.inl ⟨by rfl, ?_⟩) hHeld ?_
      rotate_left
      · intro w0 hSw
        try dsimp only at hSw
        go_simp
        try with_reducible rfl
      try simp only [Act.put, List.setIfInBounds_toArray, List.set_cons_zero, List.set_cons_succ]
      refine wpAnyH_take (i := 14) (v := ?_) (drop_at rfl) (by kernel_rfl) (by kernel_rfl) (by kernel_rfl) (fun _ _ _ h => h) (Or.inl ⟨by rfl, ?_⟩) hHeld ?_
      rotate_left
      · intro w0 hSw
        try dsimp only at hSw
        go_simp
        try with_reducible rfl
      try simp only [Act.put, List.setIfInBounds_toArray, List.set_cons_zero, List.set_cons_succ]
      refine wpAnyH_take (i := 15) (v := ?_) (drop_at rfl) (by kernel_rfl) (by kernel_rfl) (by kernel_rfl) (fun _ _ _ h => h) (Or.inl ⟨by rfl, ?_⟩) hHeld ?_
      rotate_left
      · intro w0 hSw
        try dsimp only at hSw
        go_simp
        try with_reducible rfl
      try simp only [Act.put, List.setIfInBounds_toArray, List.set_cons_zero, List.set_cons_succ]
      refine wpAnyH_take (i := 16) (v := ?_) (drop_at rfl) (by kernel_rfl) (by kernel_rfl) (by kernel_rfl) (fun _ _ _ h => h) (Or.inl ⟨by rfl, ?_⟩) hHeld ?_
      rotate_left
      · intro w0 hSw
        try dsimp only at hSw
        go_simp
        try with_reducible rfl
      try simp only [Act.put, List.setIfInBounds_toArray, List.set_cons_zero, List.set_cons_succ]
      refine wpAnyH_take (i := 17) (v := ?_) (drop_at rfl) (by kernel_rfl) (by kernel_rfl) (by kernel_rfl) (fun _ _ _ h => h) (Or.inl ⟨by rfl, ?_⟩) hHeld ?_
      rotate_left
      · intro w0 hSw
        try dsimp only at hSw
        go_simp
        try with_reducible rfl
      try simp only [Act.put, List.setIfInBounds_toArray, List.set_cons_zero, List.set_cons_succ]
      refine wpAnyH_take (i := 18) (v := ?_) (drop_at rfl) (by kernel_rfl) (by kernel_rfl) (by kernel_rfl) (fun _ _ _ h => h) (Or.inl ⟨by rfl, ?_⟩) hHeld ?_
      rotate_left
      · intro w0 hSw
        try dsimp only at hSw
        go_simp
        try with_reducible rfl
      try simp only [Act.put, List.setIfInBounds_toArray, List.set_cons_zero, List.set_cons_succ]
      refine wpAnyH_take (i := 19) (v := ?_) (drop_at rfl) (by kernel_rfl) (by kernel_rfl) (by kernel_rfl) (fun _ _ _ h => h) (Or.inl ⟨by rfl, ?_⟩) hHeld ?_
      rotate_left
      · intro w0 hSw
        try dsimp only at hSw
        go_simp
        try with_reducible rfl
      try simp only [Act.put, List.setIfInBounds_toArray, List.set_cons_zero, List.set_cons_succ]
      refine wpAnyH_ready (rs := [20]) (by kernel_rfl) (by simp) ?_
      refine AllReadyH.cons (drop_at rfl) (fun K hK => ?_) AllReadyH.nil
      go_simp
      refine hK.out _ _ ⟨k1, k2, k3, k4⟩ (fun hHeld => ?_)
      clear hK K
      try simp only [List.setIfInBounds_toArray]
      refine wpAnyH_ready (rs := [21]) (by kernel_rfl) (by simp) ?_
      refine AllReadyH.cons (drop_at rfl) (fun K hK => ?_) AllReadyH.nil
      refine gapp_runR rfl _ _ rfl (by simp [Act.eval]) (by simp [Act.eval]) hrun' ?_
      refine hK.out _ _ ⟨s0, r0, r1, r2⟩ (fun hHeld => ?_)
      clear hK K
      try simp only [List.setIfInBounds_toArray]
      refine wpAnyH_done (by kernel_rfl) ?_ _
      dsimp only [cutPost]
      clear hHeld hrun' c0 c1 c2 q1 qz u0 u1 u2 w1 w2 m1 m2 k1 k2 k3 k4 r0 r1 r2
      go_wp2
      go_roundw
      case rel => exact ⟨i + 1, at_ + 3, some ⟨g6, 0, none⟩, cap6, by omega, by go_num, by go_num, HAT2, O6⟩
      case measure => simp [intOf]; omega
    · have hii : ¬ (i : Int) < (nt : Int) := by omega
      have hin : i = nt := by omega
      subst i
      have hpw := HPB.out
      have hat := HAT.out
      have hk7 := K7.out
      have hk5 := K5.out
      have hk3 := K3.out
      have h7 := H7.out
      have hak : at_ = k5 := by omega
      have HBr : Below w.heap.size w wr := HB3.out.trans (OA.out.rn.low hpw.2 HB3.out.size)
      have v0 := HBV.out at_
      have v1 := HBV.out (at_ + 1)
      have c0 := HBYT.out wr HBr at_ (by omega)
      have c1 := HBYT.out wr HBr (at_ + 1) (by omega)
      have m0 : (at_ : Int) < (n : Int) := by omega
      obtain ⟨a1, ha1⟩ : ∃ k : Nat, k = at_ + 1 := ⟨_, rfl⟩
      have enc : ((ncOf (zs.drop 3) : Nat) : Int) = 256 * zs.getD at_ 0 + zs.getD a1 0 := by
        unfold ncOf
        rw [HENT.out, List.drop_drop, List.drop_drop, List.drop_drop, show 3 + (1 + (1 + 3 * nt)) = at_ by omega, ha1]
        exact num2 HBY.out (by rw [HLN.out]; omega)
      rw [← ha1] at c1 v1
      have m1 : (a1 : Int) < (n : Int) := by omega
      have w1 : IntKind.i64.wrap ((at_ : Int) + 1) = (a1 : Int) := by rw [gwrap_i _ (by omega) (by omega)]; omega
      generalize zs.getD at_ 0 = t0 at *
      generalize zs.getD a1 0 = t1 at *
      obtain ⟨nc, hnc⟩ : ∃ m : Nat, m = ncOf (zs.drop 3) := ⟨_, rfl⟩
      have u0 := gwrap_i t0 (by omega) (by omega)
      have u1 := gwrap_i t1 (by omega) (by omega)
      have u2 := gwrap_i (256 * t0) (by omega) (by omega)
      have u3 : IntKind.i64.wrap (256 * t0 + t1) = (nc : Int) := by rw [gwrap_i _ (by omega) (by omega)]; omega
      obtain ⟨a7, ha7⟩ : ∃ k : Nat, k = at_ + 2 := ⟨_, rfl⟩
      have w2 : IntKind.i64.wrap ((at_ : Int) + 2) = (a7 : Int) := by rw [gwrap_i _ (by omega) (by omega)]; omega
      have hncb : nc < 65536 := by omega
      obtain ⟨k14, hk14⟩ : ∃ k : Nat, k = 14 * nc := ⟨_, rfl⟩
      have w3 : IntKind.i64.wrap (14 * (nc : Int)) = (k14 : Int) := by rw [gwrap_i _ (by omega) (by omega)]; omega
      obtain ⟨en, hen⟩ : ∃ k : Nat, k = a7 + k14 := ⟨_, rfl⟩
      have w4 : IntKind.i64.wrap ((a7 : Int) + (k14 : Int)) = (en : Int) := by rw [gwrap_i _ (by omega) (by omega)]; omega
      have hfi := HFI.out
      rw [← hnc, show k7 + 14 * nc = en by omega] at hfi
      have HFE := hid hfi
      have HNC := hid hnc
      have HA7 : Hid (a7 = 7 + 3 * nt) := by show _ = _; omega
      have HEN : Hid (en = 7 + 3 * nt + 14 * nc) := by show _ = _; omega
      have HBR := hid HBr
      have OFD : Hid (∀ w', Below wr.heap.size wr w' → OfAt W3 pb b3 ta nt tc none 0 0 (tabsOf nt (zs.drop 5)) [] w') := fun w' h => OA.out.step h
      clear hfi hnc ha1 ha7 hk14 hen enc hat hak hk7 hk5 hk3 h7 hpw HBr HAT v0 v1 HFI OA hlt
      go_upto_region 15 with fail
      go_quiet (fail)
      have b7 : Below wr.heap.size wr (wr.drewN nq) := ⟨rfl, rfl, rfl, Nat.le_refl _, fun _ _ => rfl⟩
      have OA7 := hid (OFD.out _ b7)
      have HB7 := hid (bl_step HBR.out b7)
      generalize wr.drewN nq = W7 at *
      have HD7 := hid (HD3.out.rn OA7.out.rn (by have := HPB.out.1; exact this))
      clear OFD HBR b7 c0 c1 u0 u1 u2 u3 w1 m0 m1
      by_cases q1 : n < en
      · have q1i : (n : Int) < (en : Int) := by omega
        have E : Hid (wrongB zs = ((3 : Int), (n : Int))) := by show _ = _; rw [HFE.out, if_pos q1]
        go_wp2_with fail
        refine (HFA.out _ _ _).mono ?_
        rintro e w9 ⟨rfl, b9⟩
        have D9 := hid (HD7.out.step b9)
        have B9 := hid (bl_step HB7.out b9)
        obtain ⟨q0, q1, q2, f0, f1, z0, z1, z2, z3, z4, lq, lf⟩ := D9.out.cells
        obtain ⟨hqf, hfq⟩ := D9.out.ne
        have HX := hid (HBAD.out 3 ((n : Int)) E.out (by decide))
        have HBB := hid (dput D9.out B9.out)
        clear D9 B9 b9
        go_wp2
        exact bodyPost_ret (v := .tuple #[nilP, .agg #[.int .i64 3, .int .i64 ((n : Int))]]) (by simp [results, Try.results12, go_sem, *]) rfl (HX.out _ (HBB.out _ _ _ _ _))
      have q1i : ¬ (n : Int) < (en : Int) := by omega
      have HQ1 := hid q1
      clear q1
      go_wp2
      clear w2 w3 w4
      go_loopw [6, 8, 9] (fun qa q _ wr => ∃ (i at_ : Nat) (ca : Option Addr) (cc : Nat), i ≤ nc ∧ q = .int .i64 i ∧ qa = .int .i64 at_ ∧ Hid (at_ = a7 + 14 * i) ∧ Hid (OfAt W3 pb b3 ta nt tc ca i cc (tabsOf nt (zs.drop 5)) (inssOf i (zs.drop a7)) wr)) (fun _ q _ _ => nc - (intOf q).toNat)
      case atStart => exact ⟨0, a7, none, 0, Nat.zero_le _, rfl, rfl, rfl, OA7⟩
      case round =>
        obtain ⟨i, at_, ca, cc, hi, rfl, rfl, HAT, OA⟩ := hrel
        clear OA7 HB7 HD7
        by_cases hlt : i < nc
        · have hii : (i : Int) < (nc : Int) := by omega
          have hat := HAT.out
          have hen := HEN.out
          have ha7 := HA7.out
          have hq1 := HQ1.out
          have hpw := HPB.out
          have HBr : Below w.heap.size w wr := HB3.out.trans (OA.out.rn.low hpw.2 HB3.out.size)
          obtain ⟨x, hx⟩ : ∃ x, x = insOf ((zs.drop a7).drop (14 * i)) := ⟨_, rfl⟩
          have ex := ins_at (zs := zs) (p := at_) HBY.out (by rw [HLN.out]; omega)
          rw [show at_ = a7 + 14 * i from hat, ← List.drop_drop, ← hx, ← hat] at ex
          obtain ⟨ab, hab⟩ : ∃ k : Nat, k = at_ + 1 := ⟨_, rfl⟩
          obtain ⟨ac, hac⟩ : ∃ k : Nat, k = at_ + 2 := ⟨_, rfl⟩
          obtain ⟨ad, had⟩ : ∃ k : Nat, k = at_ + 3 := ⟨_, rfl⟩
          obtain ⟨ae, hae⟩ : ∃ k : Nat, k = at_ + 4 := ⟨_, rfl⟩
          obtain ⟨af, haf⟩ : ∃ k : Nat, k = at_ + 5 := ⟨_, rfl⟩
          obtain ⟨s6, hs6⟩ : ∃ k : Nat, k = at_ + 6 := ⟨_, rfl⟩
          obtain ⟨s14, hs14⟩ : ∃ k : Nat, k = at_ + 14 := ⟨_, rfl⟩
          rw [← hab, ← hac, ← had, ← hae, ← haf, ← hs6] at ex
          have HCB : Hid (∀ w', Below w.heap.size w w' → w'.cell? ⟨g, off + at_, none⟩ = some (.int .u8 (zs.getD at_ 0)) ∧ w'.cell? ⟨g, off + ab, none⟩ = some (.int .u8 (zs.getD ab 0)) ∧ w'.cell? ⟨g, off + ac, none⟩ = some (.int .u8 (zs.getD ac 0)) ∧ w'.cell? ⟨g, off + ad, none⟩ = some (.int .u8 (zs.getD ad 0)) ∧ w'.cell? ⟨g, off + ae, none⟩ = some (.int .u8 (zs.getD ae 0)) ∧ w'.cell? ⟨g, off + af, none⟩ = some (.int .u8 (zs.getD af 0))) := fun w' h => ⟨HBYT.out w' h at_ (by omega), HBYT.out w' h ab (by omega), HBYT.out w' h ac (by omega), HBYT.out w' h ad (by omega), HBYT.out w' h ae (by omega), HBYT.out w' h af (by omega)⟩
          have v0 := HBV.out at_
          have v1 := HBV.out ab
          have m1 : (ab : Int) < (n : Int) := by omega
          have w1 : IntKind.i64.wrap ((at_ : Int) + 1) = (ab : Int) := by rw [gwrap_i _ (by omega) (by omega)]; omega
          have v2 := HBV.out ac
          have m2 : (ac : Int) < (n : Int) := by omega
          have w2 : IntKind.i64.wrap ((at_ : Int) + 2) = (ac : Int) := by rw [gwrap_i _ (by omega) (by omega)]; omega
          have v3 := HBV.out ad
          have m3 : (ad : Int) < (n : Int) := by omega
          have w3 : IntKind.i64.wrap ((at_ : Int) + 3) = (ad : Int) := by rw [gwrap_i _ (by omega) (by omega)]; omega
          have v4 := HBV.out ae
          have m4 : (ae : Int) < (n : Int) := by omega
          have w4 : IntKind.i64.wrap ((at_ : Int) + 4) = (ae : Int) := by rw [gwrap_i _ (by omega) (by omega)]; omega
          have v5 := HBV.out af
          have m5 : (af : Int) < (n : Int) := by omega
          have w5 : IntKind.i64.wrap ((at_ : Int) + 5) = (af : Int) := by rw [gwrap_i _ (by omega) (by omega)]; omega
          have m0 : (at_ : Int) < (n : Int) := by omega
          have w6 : IntKind.i64.wrap ((at_ : Int) + 6) = (s6 : Int) := by rw [gwrap_i _ (by omega) (by omega)]; omega
          have w14 : IntKind.i64.wrap ((at_ : Int) + 14) = (s14 : Int) := by rw [gwrap_i _ (by omega) (by omega)]; omega
          generalize zs.getD at_ 0 = t0 at *
          generalize zs.getD ab 0 = t1 at *
          generalize zs.getD ac 0 = t2 at *
          generalize zs.getD ad 0 = t3 at *
          generalize zs.getD ae 0 = t4 at *
          generalize zs.getD af 0 = t5 at *
          have u0 := gwrap_i t0 (by omega) (by omega)
          have u1 := gwrap_i t1 (by omega) (by omega)
          have u2 := gwrap_i t2 (by omega) (by omega)
          have u3 := gwrap_i t3 (by omega) (by omega)
          have u4 := gwrap_i t4 (by omega) (by omega)
          have u5 := gwrap_i t5 (by omega) (by omega)
          have u6 := gwrap_i (256 * t4) (by omega) (by omega)
          obtain ⟨tt, htt⟩ : ∃ z : Int, z = 256 * t4 + t5 := ⟨_, rfl⟩
          have u7 : IntKind.i64.wrap (256 * t4 + t5) = tt := by rw [gwrap_i _ (by omega) (by omega)]; omega
          rw [← htt] at ex
          have hz8 := (HZ.out.cut s6 (by omega)).frontP 8 (by omega)
          obtain ⟨N, hN⟩ : ∃ z : Nat, z = numB ((zs.drop s6).take 8) := ⟨_, rfl⟩
          rw [← hN] at ex
          have hNe : Mth.num (Mth.bo ((zs.drop s6).take 8) 64) 64 = N := by rw [hN]; exact num_bo hz8.byt hz8.1
          have HZ8 := hid hz8
          obtain ⟨c0, c1, c2, c3, c4, c5⟩ := HCB.out wr HBr
          have bA : Below wr.heap.size wr (wr.alloc (.cells #[.int .i64 t0, .int .i64 t1, .int .i64 t2, .int .i64 t3, .int .i64 tt, .int .u64 0] 47)).drew := (bl_alloc (Below.refl _ _)).drew
          obtain ⟨k0, k1, k2, k3, k4, k5⟩ := HCB.out _ (bl_step HBr bA)
          obtain ⟨W8, hW8⟩ : ∃ W, W = (wr.alloc (.cells #[.int .i64 t0, .int .i64 t1, .int .i64 t2, .int .i64 t3, .int .i64 tt, .int .u64 0] 47)).drew := ⟨_, rfl⟩
          obtain ⟨ib, hib⟩ : ∃ b, b = wr.heap.size := ⟨_, rfl⟩
          have hI8 : W8.heap[ib]? = some (.cells #[.int .i64 t0, .int .i64 t1, .int .i64 t2, .int .i64 t3, .int .i64 tt, .int .u64 0] 47 (0, 0)) := by rw [hW8, hib]; exact galloc_at wr _ _
          have b8 : Below wr.heap.size wr W8 := by rw [hW8]; exact bA
          have h86 : s14 - s6 = 8 := by omega
          have HBO := hid (bitsOf_any (some ⟨g, off + s6, none⟩) (s14 - s6) (c - s6) ((zs.drop s6).take 8) W8 (by omega) (by rw [h86]; exact HZ8.out.step (bl_step HBr b8)))
          rw [h86] at HBO
          have hsl1 : (s6 : Int) ≤ (s14 : Int) := by omega
          have hsl2 : (s14 : Int) ≤ (c : Int) := by omega
          have hsl3 : s6 ≤ s14 := by omega
          have hsl4 : s14 ≤ c := by omega
          have hsl5 : ¬ c = s6 := by omega
          have hsl6 : (c : Int) < 9223372036854775808 := by omega
          have HI8 := hid hI8
          have B8 := hid b8
          have HBRR := hid HBr
          have OA8 : Hid (∀ w' , Below wr.heap.size wr w' → OfAt W3 pb b3 ta nt tc ca i cc (tabsOf nt (zs.drop 5)) (inssOf i (zs.drop a7)) w') := fun w' h => OA.out.step h
          have HIS : Hid (wr.heap.size = ib) := hib.symm
          have ql := (Array.getElem?_eq_some_iff.1 OA.out.box).1
          have HQL : Hid (pb < ib) := by show pb < ib; omega
          have EX := hid ex
          have HXX : Hid (inssOf (i + 1) (zs.drop a7) = inssOf i (zs.drop a7) ++ [x]) := by show _ = _; rw [inss_next, ← hx]
          have EW8 := hid hW8
          have EIB := hid hib
          have HNE := hid hNe
          have HAT2 : Hid (s14 = a7 + 14 * (i + 1)) := by show _ = _; omega
          have hNb : N < 18446744073709551616 := by
            rw [hN]
            exact numB_small (k := 8) hz8.byt (by rw [hz8.1]; exact Nat.le_refl _)
          have H86 := hid h86
          clear hab hac had hae haf hs6 hs14 ex hx htt hN hz8 hNe bA hW8 hib hI8 b8 HBr OA hat hen ha7 hq1 hpw HAT HCB v0 v1 v2 v3 v4 v5 h86 ql
          go_wp2_with fail
          go_region_held3 (fun w' => w'.cell? ⟨g, off + at_, none⟩ = some (.int .u8 t0) ∧ w'.cell? ⟨g, off + ab, none⟩ = some (.int .u8 t1) ∧ w'.cell? ⟨g, off + ac, none⟩ = some (.int .u8 t2) ∧ w'.cell? ⟨g, off + ad, none⟩ = some (.int .u8 t3) ∧ w'.cell? ⟨g, off + ae, none⟩ = some (.int .u8 t4) ∧ w'.cell? ⟨g, off + af, none⟩ = some (.int .u8 t5)) (first | go_keep | exact ⟨k0, k1, k2, k3, k4, k5⟩) (fail)
          clear k0 k1 k2 k3 k4 k5 c0 c1 c2 c3 c4 c5 u0 u1 u2 u3 u4 u5 u6 u7 w1 w2 w3 w4 w5 m0 m1 m2 m3 m4 m5
          go_wp2_with fail
          rw [← EW8.out, ← EIB.out, H86.out]
          clear EW8 EIB H86
          refine HBO.out.mono ?_
          rintro e w9 ⟨v9, rfl, ho9, hb9⟩
          obtain ⟨a9, c9, rfl, hh9⟩ := has_of_owns8 ho9 (bits_bytes (Mth.bo_bits _ _))
          have HBN := hid (bitsNum_any a9 64 c9 _ w9 (by decide) hh9 (Mth.bo_bits _ _))
          rw [HNE.out] at HBN
          have hI9 := (hb9.block ib (Array.getElem?_eq_some_iff.1 HI8.out).1).trans HI8.out
          have B9 := hid (bl_step B8.out hb9)
          clear HBO ho9 hb9 hh9 HI8 B8
          have z5 := gbox_cell hI9 5
          have zf : w9.frozen? ⟨ib, 5, none⟩ = false := by simp [World.frozen?, hI9]
          have zl : ib < w9.heap.size := (Array.getElem?_eq_some_iff.1 hI9).1
          obtain ⟨W10, hW10⟩ : ∃ W, W = w9.setCell ⟨ib, 5, none⟩ (.int .u64 (N : Int)) := ⟨_, rfl⟩
          have hI10 : W10.heap[ib]? = some (.cells #[.int .i64 t0, .int .i64 t1, .int .i64 t2, .int .i64 t3, .int .i64 tt, .int .u64 (N : Int)] 47 (0, 0)) := by rw [hW10]; simp [World.setCell, Array.getElem?_modify, hI9]
          have b10 : Below wr.heap.size wr W10 := by rw [hW10]; exact B9.out.setCell (p := ⟨ib, 5, none⟩) (Nat.le_of_eq HIS.out) _
          have OA10 := OA8.out W10 b10
          obtain ⟨g6, cap6, w11, hrun, ⟨s0, s1, s2⟩, OB⟩ := OA10.ins x (by omega)
          rw [EX.out] at hrun
          have y0 := gbox_cell hI10 0
          have y1 := gbox_cell hI10 1
          have y2 := gbox_cell hI10 2
          have y3 := gbox_cell hI10 3
          have y4 := gbox_cell hI10 4
          have y5 := gbox_cell hI10 5
          have y6 := gbox_cell OA10.box 2
          have yl : ib < W10.heap.size := (Array.getElem?_eq_some_iff.1 hI10).1
          have O11 : Hid (OfAt W3 pb b3 ta nt tc (some ⟨g6, 0, none⟩) (i + 1) cap6 (tabsOf nt (zs.drop 5)) (inssOf (i + 1) (zs.drop a7)) (w11.setCell ⟨pb, 2, none⟩ (.slice (some ⟨g6, 0, none⟩) (i + 1) cap6))) := by show OfAt _ _ _ _ _ _ _ _ _ _ _ _; rw [HXX.out]; exact OB
          have E10 := hid hW10
          clear hI9 hI10 b10 OA10 OB hW10 B9
          go_wp2_with fail
          refine HBN.out.mono ?_
          rintro e w12 ⟨rfl, hw12⟩
          subst w12
          clear HBN
          go_upto_region 24 with fail
          rw [← E10.out]
          clear E10 z5 zf zl
          go_wp2_with (at_builtin; refine gapp_run rfl _ _ rfl rfl rfl hrun ?_)
          clear hrun y0 y1 y2 y3 y4 y5 y6 yl
          go_roundw
          case rel => exact ⟨i + 1, s14, some ⟨g6, 0, none⟩, cap6, by omega, by go_num, rfl, HAT2, O11⟩
          case measure => simp [intOf]; omega
        · have hii : ¬ (i : Int) < (nc : Int) := by omega
          have hin : i = nc := by omega
          subst i
          have hpw := HPB.out
          have hate : at_ = en := by have := HAT.out; have := HEN.out; have := HA7.out; omega
          have HBr := hid (HB3.out.trans (OA.out.rn.low hpw.2 HB3.out.size))
          have HDr := hid (HD3.out.rn OA.out.rn hpw.1)
          have hq1 := HQ1.out
          clear hpw HAT hlt
          by_cases q2 : en < n
          · have q2i : (at_ : Int) < (n : Int) := by omega
            have E : Hid (wrongB zs = ((4 : Int), (at_ : Int))) := by show _ = _; rw [HFE.out, if_neg hq1, if_pos q2, hate]
            clear hate
            go_wp2_with fail
            refine (HFA.out _ _ _).mono ?_
            rintro e w9 ⟨rfl, b9⟩
            have D9 := hid (HDr.out.step b9)
            have B9 := hid (bl_step HBr.out b9)
            obtain ⟨q0, q1, q2, f0, f1, z0, z1, z2, z3, z4, lq, lf⟩ := D9.out.cells
            obtain ⟨hqf, hfq⟩ := D9.out.ne
            have HX := hid (HBAD.out 4 ((at_ : Int)) E.out (by decide))
            have HBB := hid (dput D9.out B9.out)
            clear D9 B9 b9
            go_wp2
            exact bodyPost_ret (v := .tuple #[nilP, .agg #[.int .i64 4, .int .i64 ((at_ : Int))]]) (by simp [results, Try.results12, go_sem, *]) rfl (HX.out _ (HBB.out _ _ _ _ _))
          have q2i : ¬ (at_ : Int) < (n : Int) := by omega
          have HW0 : Hid (wrongB zs = (0, 0)) := by show _ = _; rw [HFE.out, if_neg hq1, if_neg q2]
          have hsb : gwfI b3 := wf_i64' (by omega)
          have hts : ∀ x ∈ tabsOf nt (zs.drop 5), x.wf := tabsOf_wf (byt_drop HBY.out 5)
          have hcs : ∀ x ∈ inssOf nc (zs.drop a7), x.wf := inssOf_wf (byt_drop HBY.out a7)
          obtain ⟨hlie, hf1, hf2⟩ := OA.out.lie hsb hts hcs
          have hsm : ProgD.small ⟨b3, ⟨ta, nt, tc⟩, tabsOf nt (zs.drop 5), ⟨ca, nc, cc⟩, inssOf nc (zs.drop a7)⟩ := ⟨show nt ≤ 300 by omega, show nc ≤ 65535 by omega⟩
          have HRF := hid (rfault ⟨b3, ⟨ta, nt, tc⟩, tabsOf nt (zs.drop 5), ⟨ca, nc, cc⟩, inssOf nc (zs.drop a7)⟩ wr hlie hsm)
          have eT : tsOf (zs.drop 3) = tabsOf nt (zs.drop 5) := by unfold tsOf; rw [HENT.out, List.drop_drop, List.drop_drop]
          have eC : csOf (zs.drop 3) = inssOf nc (zs.drop a7) := by
            unfold csOf
            rw [HENT.out, ← HNC.out, List.drop_drop, List.drop_drop, List.drop_drop, List.drop_drop]
            congr 2
            have := HA7.out
            omega
          have eS : slotsOf (zs.drop 3) = b3 := ESL.out
          have eF : decF zs = chkW b3 (tabsOf nt (zs.drop 5)) (inssOf nc (zs.drop a7)) := by
            unfold decF
            rw [HW0.out, if_neg (fun h => h rfl), eT, eC, eS]
          have HE1 : Hid ((decF zs).1 ≠ 0 → ∀ w', Below w.heap.size w w' → GDecDone zs w (.returned (.tuple #[nilP, .agg #[.int .i64 (decF zs).1, .int .i64 (decF zs).2]])) w') := fun hd w' h => .inl ⟨hd, rfl, h⟩
          have HIS : Hid ((decF zs).1 = 0 → ∀ w', ProgD.lie ⟨b3, ⟨ta, nt, tc⟩, tabsOf nt (zs.drop 5), ⟨ca, nc, cc⟩, inssOf nc (zs.drop a7)⟩ w' → Below w.heap.size w w' → GDecDone zs w (.returned (.tuple #[.agg #[.int .i64 b3, .slice ta nt tc, .slice ca nc cc], .agg #[.int .i64 0, .int .i64 0]])) w') := fun hd w' h1 h2 => .inr ⟨hd, by rw [HW0.out], _, rfl, eS.symm, eT.symm, eC.symm, h1, hsm, h2⟩
          rw [← eF] at HRF
          unfold TellF at HRF
          dsimp only [ProgD.v] at HRF
          have HL6 := hid hlie
          have HFR1 : Hid (∀ ad, ta = some ad → qb < ad.block ∧ fb < ad.block) := fun ad had => by
            have h1 := hf1 ad had
            have := HD3.out.cells.lf
            have := HD3.out.cells.lq
            omega
          have HFR2 : Hid (∀ ad, ca = some ad → qb < ad.block ∧ fb < ad.block) := fun ad had => by
            have h1 := hf2 ad had
            have := HD3.out.cells.lf
            have := HD3.out.cells.lq
            omega
          have p0 := gbox_cell OA.out.box 0
          have p1 := gbox_cell OA.out.box 1
          have p2 := gbox_cell OA.out.box 2
          have HBX := hid OA.out.box
          clear hlie hf1 hf2 hsm eT eC eS eF hate q2 hq1 hts hcs hsb OA
          go_wp2_with fail
          refine HRF.out.mono ?_
          rintro e w6 ⟨rfl, hb6⟩
          have HD6 := hid (HDr.out.step hb6)
          have HB6 := hid (bl_step HBr.out hb6)
          have HLI := hid (HL6.out.step hb6)
          have hbx6 := (hb6.block pb (Array.getElem?_eq_some_iff.1 HBX.out).1).trans HBX.out
          have p0 := gbox_cell hbx6 0
          have p1 := gbox_cell hbx6 1
          have p2 := gbox_cell hbx6 2
          have lp : pb < w6.heap.size := (Array.getElem?_eq_some_iff.1 hbx6).1
          obtain ⟨q0, q1, q2, f0, f1, z0, z1, z2, z3, z4, lq, lf⟩ := HD6.out.cells
          obtain ⟨hqf, hfq⟩ := HD6.out.ne
          clear HRF HDr HBr HL6 hb6 hbx6 HBX
          by_cases hcz : (decF zs).1 = 0
          · have HX := hid (HIS.out hcz)
            rw [hcz]
            clear HIS HE1 hcz
            generalize (decF zs).2 = B
            have HLIE : Hid (∀ o a b c e f, ProgD.lie ⟨b3, ⟨ta, nt, tc⟩, tabsOf nt (zs.drop 5), ⟨ca, nc, cc⟩, inssOf nc (zs.drop a7)⟩ ((((((w6.setCell ⟨qb, 0, none⟩ a).setCell ⟨qb, 1, none⟩ b).setCell ⟨qb, 2, none⟩ c).setCell ⟨fb, 0, none⟩ e).setCell ⟨fb, 1, none⟩ f).alloc o)) := by
              intro o a b c e f
              refine ProgD.lie.step (HLI.out.blk (fun ad had => ?_) (fun ad had => ?_)) (bl_alloc (Below.refl _ _))
              · have := HFR1.out ad had
                rw [Below.heap_setCell _ _ _ _ (by show ad.block ≠ fb; omega), Below.heap_setCell _ _ _ _ (by show ad.block ≠ fb; omega), Below.heap_setCell _ _ _ _ (by show ad.block ≠ qb; omega), Below.heap_setCell _ _ _ _ (by show ad.block ≠ qb; omega), Below.heap_setCell _ _ _ _ (by show ad.block ≠ qb; omega)]
              · have := HFR2.out ad had
                rw [Below.heap_setCell _ _ _ _ (by show ad.block ≠ fb; omega), Below.heap_setCell _ _ _ _ (by show ad.block ≠ fb; omega), Below.heap_setCell _ _ _ _ (by show ad.block ≠ qb; omega), Below.heap_setCell _ _ _ _ (by show ad.block ≠ qb; omega), Below.heap_setCell _ _ _ _ (by show ad.block ≠ qb; omega)]
            have HBB : Hid (∀ o a b c e f, Below w.heap.size w ((((((w6.setCell ⟨qb, 0, none⟩ a).setCell ⟨qb, 1, none⟩ b).setCell ⟨qb, 2, none⟩ c).setCell ⟨fb, 0, none⟩ e).setCell ⟨fb, 1, none⟩ f).alloc o)) := fun o a b c e f => bl_alloc (dput HD6.out HB6.out a b c e f)
            clear HD6 HB6 HLI HFR1 HFR2
            go_wp2
            exact bodyPost_ret (v := .tuple #[.agg #[.int .i64 b3, .slice ta nt tc, .slice ca nc cc], .agg #[.int .i64 0, .int .i64 0]]) (by simp [results, Try.results12, go_sem, *]) rfl (HX.out _ (HLIE.out _ _ _ _ _ _) (HBB.out _ _ _ _ _ _))
          · have hne : ((decF zs).1 != 0) = true := by rw [bne_iff_ne]; exact hcz
            have HX := hid (HE1.out hcz)
            clear HIS HE1 hcz HLI
            generalize (decF zs).1 = C at *
            generalize (decF zs).2 = B at *
            have HBB : Hid (∀ o a b c e f, Below w.heap.size w ((((((w6.setCell ⟨qb, 0, none⟩ a).setCell ⟨qb, 1, none⟩ b).setCell ⟨qb, 2, none⟩ c).setCell ⟨fb, 0, none⟩ e).setCell ⟨fb, 1, none⟩ f).alloc o).drew) := fun o a b c e f => (bl_alloc (dput HD6.out HB6.out a b c e f)).drew
            clear HD6 HB6
            go_wp2_with fail
            go_region
            all_goals
              go_wp2
              exact bodyPost_ret (v := .tuple #[nilP, .agg #[.int .i64 C, .int .i64 B]]) (by simp [results, Try.results12, go_sem, *]) rfl (HX.out _ (HBB.out _ _ _ _ _ _))
end Go.Proofs.Ytcdpmpcpgijebaa
