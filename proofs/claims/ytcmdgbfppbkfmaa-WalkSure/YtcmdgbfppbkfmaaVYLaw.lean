/- The walk of the law WalkSure. -/
import Derived.Test.YtcmdgbfppbkfmaaVYStart
import Derived.Test.YtcmdgbfppbkfmaaVYYard
namespace Go.Proofs.Ytcmdgbfppbkfmaa
open Go.RowKit

theorem ykeep7 {d : PlanD} {s : Nat} {w w' : World} (h : YBox d s w) (b : Below w.heap.size w w') : YBox d s w' := h.step b

/-- what the law asks of a packet's way, in the program's words -/
theorem sure_told {s : Wk.Sets} {t : Nat} (hm : s.must < 2 ^ 6) (ha : s.may < 2 ^ 6) (h1 : t &&& s.must = s.must) (h2 : t &&& s.may = t) : (bits .and .u64 (t : Int) (s.must : Int) == (s.must : Int)) = true ∧ (bits .and .u64 (t : Int) (s.may : Int) == (t : Int)) = true := by
  have ht : t < 2 ^ 64 := Nat.lt_of_le_of_lt (Nat.le_trans (Nat.le_of_eq h2.symm) Nat.and_le_right) (few64 ha)
  rw [u64and _ _ ht (few64 hm), u64and _ _ ht (few64 ha), h1, h2]
  exact ⟨beq_self_eq_true _, beq_self_eq_true _⟩

theorem field_code (C A : Int) (w : World) : (Instr.field 35 (.agg #[.int .i64 C, .int .i64 A]) 0).run Try.prog w = .ok (.int .i64 C) w := by kernel_rfl

set_option maxHeartbeats 16000000 in
set_option maxRecDepth 20000 in
theorem walksure_main (d : PlanD) (b : QSl) (bs : List Int) (port : Int) (w : World) (hl : d.lie w) (hbb : Has .u8 w b.a b.n bs) (hbc : b.n ≤ b.c) :
    Calls Try.prog 3 #[d.v, .slice b.a b.n b.c, .int .i64 port] w fun e w' => e = .returned (.bool true) ∧ Below w.heap.size w w' := by
  obtain ⟨W1, hW⟩ : ∃ W1, W1 = w.alloc d.box := ⟨_, rfl⟩
  obtain ⟨s, hs⟩ : ∃ s, s = w.heap.size := ⟨_, rfl⟩
  have hc : YBox d s W1 := by rw [hW, hs]; refine ⟨?_, ?_, ?_, ?_, ?_, ?_, ?_⟩ <;> exact (World.cell?_alloc_at _ _ _ _ rfl).trans rfl
  have HB0 : Hid (Below w.heap.size w W1) := by rw [hW]; exact bl_alloc (Below.refl _ _)
  have EW := hid hW
  have ES := hid hs
  have HL := hid hl
  have HBB := hid hbb
  have HBC := hid hbc
  have HC := hid hc
  have HBG := hid (walk_begun W1)
  clear hW hs hc hl hbb hbc
  go_enter Try.func3, Try.ntmps3
  go_wp2_with fail
  rw [← EW.out, ← ES.out]
  refine HBG.out.mono ?_
  rintro e w1 ⟨rfl, hb1⟩
  clear EW ES HBG
  have HB1 := hid (bl_step HB0.out hb1)
  have HC1 := hid (HC.out.step hb1)
  obtain ⟨z0, z1, z2, z3, z4, z5, z6⟩ := HC1.out
  have HGR := hid (great_told d w1 (HL.out.step HB1.out))
  clear hb1 HB0 HC
  go_wp2_with fail
  refine HGR.out.mono ?_
  rintro e w2 ⟨gb, rfl, hg, hb2⟩
  have HB2 := hid (bl_step HB1.out hb2)
  have HC2 := hid (HC1.out.step hb2)
  have HG := hid hg
  clear hb2 HB1 HGR z0 z1 z2 z3 z4 z5 z6 hg HC1
  obtain ⟨z0, z1, z2, z3, z4, z5, z6⟩ := HC2.out
  cases gb with
  | true =>
    go_wp2
    go_ret
    exact ⟨rfl, HB2.out⟩
  | false =>
    by_cases hn : 2000 < b.n
    · have hni : (2000 : Int) < (b.n : Int) := by omega
      go_wp2
      go_ret
      exact ⟨rfl, HB2.out⟩
    · have hni : ¬ (2000 : Int) < (b.n : Int) := by omega
      have HLT := hid (HG.out rfl)
      have HN := hid (Nat.le_of_not_lt hn)
      have hl2 := HL.out.step HB2.out
      have HWK := hid (walk_any d w2 hl2 (small_of hl2 HLT.out))
      clear HG hn hl2
      go_wp2_with fail
      refine HWK.out.mono ?_
      rintro e w5 ⟨C, A, sa, sn, sc, rfl, hi, hne, hro, hb5⟩
      clear HWK z0 z1 z2 z3 z4 z5 z6 hni
      obtain ⟨f5, hf5⟩ : ∃ f5, f5 = w5.heap.size := ⟨_, rfl⟩
      obtain ⟨W6, hW6⟩ : ∃ W6, W6 = w5.alloc (.cells #[.int .i64 C, .int .i64 A] 35) := ⟨_, rfl⟩
      have b6 : Below w5.heap.size w5 W6 := by rw [hW6]; exact bl_alloc (Below.refl _ _)
      have HB6 := hid (bl_step HB2.out (bl_step hb5 b6))
      have HC6 := hid (HC2.out.step (bl_step hb5 b6))
      have HRO : Hid (∀ h : (chkP d.p).1 = 0, C = 0 → SetsRow W6 sa sn (APp d.p h d.p.ss.length)) := fun h hc => (hro h hc).step b6
      have HI := hid hi
      have EW6 := hid hW6
      have EF5 := hid hf5
      clear hi hne hro hb5 b6 hW6 hf5 HC2 HB2
      by_cases hC : C = 0
      · have h0 : (chkP d.p).1 = 0 := by
          rcases HI.out with ⟨h1, h2, _⟩ | ⟨h, _⟩
          · exact absurd (h2.symm.trans hC) h1
          · exact h
        have HH0 := hid h0
        have HR := hid (HRO.out HH0.out hC)
        subst hC
        clear HRO HI h0
        have HPF := hid (packFault_any b.a b.n b.c port W6 (by have := HN.out; omega))
        go_wp2_with fail
        rw [← EW6.out, ← EF5.out]
        refine HPF.out.mono ?_
        rintro e w7 ⟨rfl, hb7⟩
        have HB7 := hid (bl_step HB6.out hb7)
        have HC7 := hid (HC6.out.step hb7)
        have HR7 := hid (HR.out.step hb7)
        clear hb7 HPF HB6 HC6 HR EW6 EF5
        obtain ⟨P, hP⟩ : ∃ P, P = packC b.n port := ⟨_, rfl⟩
        rw [← hP]
        generalize atOf P = P1
        have EP := hid hP
        clear hP
        have hfd := field_code P P1
        by_cases h7 : P = 0
        · subst h7
          have HPT : Hid (0 ≤ port ∧ port < 65536) := by
            have h := EP.out
            unfold packC at h
            by_cases e1 : 600 < b.n
            · rw [if_pos e1] at h; omega
            · rw [if_neg e1] at h
              by_cases e2 : port < 0 ∨ 65535 < port
              · rw [if_pos e2] at h; omega
              · show 0 ≤ port ∧ port < 65536
                omega
          have HNY := hid (newYard_any d w7 (HL.out.step HB7.out) HH0.out)
          obtain ⟨z0, z1, z2, z3, z4, z5, z6⟩ := HC7.out
          clear EP
          go_wp2_with fail
          refine HNY.out.mono ?_
          rintro e w8 ⟨yb, rfl, hyb, hb8⟩
          have HB8 := hid (bl_step HB7.out hb8)
          have HC8 := hid (HC7.out.step hb8)
          have HR8 := hid (HR7.out.step hb8)
          have hl8 := HL.out.step HB8.out
          have hss : 0 < d.p.ss.length := by
            have h1 : leastOf 2 ≤ (d.p.ss.length : Int) := (chk_zero HH0.out 2 (by decide)).1
            have h2 : leastOf 2 = 1 := by decide
            omega
          have HPA := hid (parse_any d HH0.out yb b bs port w8 hl8 HN.out hss (start_any d HH0.out yb b bs port w8 hl8 hyb (HBB.out.step HB8.out) HBC.out HPT.out))
          clear hyb hb8 hl8 HB7 HC7 HR7 HNY z0 z1 z2 z3 z4 z5 z6 hss
          go_wp2_with fail
          refine HPA.out.mono ?_
          rintro e w9 ⟨t, n, ok, rfl, hok, hb9⟩
          have HB9 := hid (bl_step HB8.out hb9)
          have HC9 := hid (HC8.out.step hb9)
          have HR9 := hid (HR8.out.step hb9)
          have HOK := hid hok
          clear hok hb9 HB8 HC8 HR8 HPA
          cases ok with
          | false =>
            go_wp2
            go_ret
            exact ⟨rfl, HB9.out⟩
          | true =>
            obtain ⟨c, hnc, hwy⟩ := HOK.out rfl
            obtain ⟨S, hS, hth, hm1, hm2, hl1, hl2⟩ := sure_end HH0.out hwy
            have hf := ap_few HH0.out (Nat.le_refl _) S (List.mem_of_getElem? hS)
            obtain ⟨q1, q2⟩ := sure_told hf.1 hf.2.1 hm1 hm2
            obtain ⟨hlen, ga, rfl, hfive⟩ := HR9.out
            have hF := hfive _ _ hS
            have c0 := hF.c0
            have c1 := hF.c1
            have c2 := hF.c2
            have c3 := hF.c3
            have c4 := hF.c4
            rw [hth] at c4
            have hap : (APp d.p HH0.out d.p.ss.length).length = d.p.ss.length + 1 := (ap_inv HH0.out (Nat.le_refl _)).1
            have es : d.p.ss.length = d.states.n := by simp [PlanD.p, HL.out.ss.1]
            have hsn : (d.states.n : Int) < (sn : Int) := by omega
            have z2 := HC9.out.2.2.1
            rw [es] at c0 c1 c2 c3 c4
            have r1 : (S.least : Int) ≤ (c : Int) := by omega
            have r2 : (c : Int) ≤ (S.most : Int) := by omega
            subst hnc
            clear hf hm1 hm2 hl1 hl2 hfive hF hap hlen hS hth hwy HOK es HR9 HC9
            generalize S.must = mu at *
            generalize S.may = ma at *
            generalize S.least = le at *
            generalize S.most = mo at *
            go_wp2
            go_ret
            exact ⟨rfl, bl_alloc HB9.out⟩
        · have h7b : (P != 0) = true := bne_iff_ne.2 h7
          go_wp2
          go_ret
          exact ⟨rfl, HB7.out⟩
      · have hCb : (C != 0) = true := bne_iff_ne.2 hC
        have HB6' : Hid (Below w.heap.size w (w5.alloc (.cells #[.int .i64 C, .int .i64 A] 35))) := by rw [← EW6.out]; exact HB6.out
        clear EW6 EF5
        go_wp2
        go_ret
        exact ⟨rfl, HB6'.out⟩
end Go.Proofs.Ytcmdgbfppbkfmaa
