/- Texts of one chain, joined: FRef5, QPC, FLaw. -/
import Derived.Test.YtkggocdannkdmaaGreatJF2
import Derived.Test.YtkggocdannkdmaaGreatJF3
import Derived.Test.YtkggocdannkdmaaGreatVWOf1
import Derived.Test.YtkggocdannkdmaaGreatJ2
import Derived.Test.YtkggocdannkdmaaGreatJ1
import Derived.Test.YtkggocdannkdmaaGreatJ18
import Derived.Test.YtkggocdannkdmaaGreatJ15
import Derived.Test.YtkggocdannkdmaaGreatJ8
import Derived.Test.YtkggocdannkdmaaGreatVQDup2
import Derived.Test.YtkggocdannkdmaaGreatVQBegun
import Derived.Test.YtkggocdannkdmaaGreatVQGreat2
namespace Go.Proofs.YtkggocdannkdmaaGreat
open Go.RowKit

theorem push64_run {W w : World} {n cap : Nat} {la : Option Addr} {zs : List Int} (v : Int) (hown : w.ownsRow W.heap.size 62 1 (.slice la n cap) n (UU zs)) (hb : Below W.heap.size W w) (hn : n ≤ 100000) :
    ∃ g cap' w', (Builtin.append_ #[33, 33] 33 #[.slice la n cap, .slice (some ⟨w.heap.size, 0, none⟩) 1 1]).run Tryz.prog (w.alloc (.cells #[.int .u64 v] 62)) = .ok (.slice (some ⟨g, 0, none⟩) (n + 1) cap') w' ∧ w'.ownsRow W.heap.size 62 1 (.slice (some ⟨g, 0, none⟩) (n + 1) cap') (n + 1) (UU (zs ++ [v])) ∧ Below W.heap.size W w' := by
  have ho1 : (w.alloc (.cells #[.int .u64 v] 62)).ownsRow W.heap.size 62 1 (.slice la n cap) n (UU zs) := owns_below hown (bl_alloc (Below.refl _ _))
  have hb1 : Below W.heap.size W (w.alloc (.cells #[.int .u64 v] 62)) := bl_alloc hb
  obtain ⟨g, cap', w', hrun, r1, r2, _⟩ := run_appK (c := 1) (ad := ⟨w.heap.size, 0, none⟩) (news := [.int .u64 v]) (m := 1) 33 Tryz.underlying33 Tryz.info62 rfl (by decide) ho1 rfl (fun j u hj => by
    obtain rfl : j = 0 := by
      have := (List.getElem?_eq_some_iff.1 hj).1
      simpa using this
    simp only [List.getElem?_cons_zero, Option.some.injEq] at hj
    subst hj
    exact (World.cell?_alloc_at _ _ _ _ rfl).trans rfl) (by simp [Value.oneCell']) (by omega) (by unfold maxLen; omega) (by omega) hb1.size
  refine ⟨g, cap', w', hrun, push64 r1 rfl, hb1.grown r2 hb1.size ?_⟩
  intro k hk
  cases la with
  | none => simp [Value.ownBlock] at hk
  | some ad =>
    rcases hown.2 with ⟨h, _⟩ | ⟨g0, c0, cur, e, hg0, _⟩
    · cases h
    · simp only [Value.slice.injEq, Option.some.injEq, true_and] at e
      obtain ⟨rfl, rfl⟩ := e
      simp [Value.ownBlock] at hk
      omega

theorem flowL_take {p : PPlan} {st j : Nat} (hj : j ≤ p.ns.length) : (flowL p st).take (j + 1) = (flowL p st).take j ++ [((SN p st j j : Nat) : Int)] := by
  have : (flowL p st)[j]? = some ((SN p st j j : Nat) : Int) := by
    unfold flowL
    rw [List.getElem?_map, List.getElem?_range (by omega)]
    rfl
  rw [List.take_add_one, this]
  rfl

theorem flowL_len (p : PPlan) (st : Nat) : (flowL p st).length = p.ns.length + 1 := by simp [flowL]

theorem flowL_64 {p : PPlan} {st : Nat} (hst : st < 2 ^ 64) : ∀ n ∈ flowL p st, 0 ≤ n ∧ n < 18446744073709551616 := by
  intro n hn
  obtain ⟨j, _, rfl⟩ := List.mem_map.1 hn
  have := SN_lt (p := p) hst j j
  omega

set_option maxHeartbeats 16000000 in
set_option maxRecDepth 20000 in
theorem flowof_any (d : PlanD) (w : World) (hl : d.lie w) (hs : d.p.little) : Calls Tryz.prog 9 #[d.v] w (FlowDone d.p w) := by
  obtain ⟨W2, hW⟩ : ∃ W2, W2 = ((w.alloc (.cells #[.slice d.heads.a d.heads.n d.heads.c, .slice d.mta.a d.mta.n d.mta.c, .slice d.states.a d.states.n d.states.c, .slice d.acts.a d.acts.n d.acts.c, .slice d.tabs.a d.tabs.n d.tabs.c, .slice d.nodes.a d.nodes.n d.nodes.c, .slice d.out.a d.out.n d.out.c] 29)).alloc (.cells #[.int .i64 0, .int .i64 0] 35)) := ⟨_, rfl⟩
  obtain ⟨s, es⟩ : ∃ s, s = w.heap.size := ⟨_, rfl⟩
  obtain ⟨f, ef⟩ : ∃ f, f = w.heap.size + 1 := ⟨_, rfl⟩
  have HA : Hid (WlkAt d w W2 s f) := by rw [hW, es, ef]; exact wlk_at d w
  have HB : Hid (Below w.heap.size w W2) := by rw [hW]; exact bl_alloc (bl_alloc (Below.refl _ _))
  have HCK := hid (walkof_any d W2 (hl.step HB.out) hs)
  have EW := hid hW
  have ES := hid es
  have EF := hid ef
  have HL := hid hl
  clear hl hs hW es ef
  go_enter Tryz.func9, Tryz.ntmps9
  go_wp2_with fail
  rw [← EW.out, ← EF.out, ← ES.out]
  refine HCK.out.mono ?_
  rintro e w1 ⟨C, A, sa, sn, sc, rfl, hi, hne, hro, hb1⟩
  clear HCK EW ES EF
  obtain ⟨W3, hW3⟩ : ∃ W3, W3 = w1.alloc (.cells #[.int .i64 C, .int .i64 A] 35) := ⟨_, rfl⟩
  obtain ⟨f2, ef2⟩ : ∃ f2, f2 = w1.heap.size := ⟨_, rfl⟩
  have b3 : Below w1.heap.size w1 W3 := by rw [hW3]; exact bl_alloc (Below.refl _ _)
  have b23 : Below W2.heap.size W2 W3 := bl_step hb1 b3
  have HA3 := hid (HA.out.step b23)
  have HB3 := hid (bl_step HB.out b23)
  have y0 : W3.cell? ⟨f2, 0, none⟩ = some (.int .i64 C) := by rw [hW3, ef2]; exact (World.cell?_alloc_at _ _ _ _ rfl).trans rfl
  have y1 : W3.cell? ⟨f2, 1, none⟩ = some (.int .i64 A) := by rw [hW3, ef2]; exact (World.cell?_alloc_at _ _ _ _ rfl).trans rfl
  have hff : f2 ≠ f := by have := HA.out.fl; have := hb1.size; omega
  have HRO : Hid (∀ h : (chkP d.p).1 = 0, C = 0 → SetsRow W3 sa sn (APp d.p h d.p.ss.length)) := fun h hc => (hro h hc).step b3
  have HI := hid hi
  have HNE := hid hne
  have EW3 := hid hW3
  have EF2 := hid ef2
  clear hb1 b3 b23 HA HB hW3 ef2 hi hne hro
  by_cases hC : C = 0
  · subst hC
    obtain ⟨rfl, hc⟩ := walkis_zero HI.out
    have HC := hid hc
    have en : d.p.ns.length = d.nodes.n := by simp [PlanD.p, HL.out.ns.1]
    have e8 : d.p.ss.length = d.states.n := by simp [PlanD.p, HL.out.ss.1]
    have hn10 : d.nodes.n ≤ 10 := by have : (d.p.ns.length : Int) ≤ 10 := (chk_zero hc 5 (by decide)).2.1; omega
    obtain ⟨hsl, sg, rfl, hsf⟩ := HRO.out HC.out rfl
    have hap : (APp d.p HC.out d.p.ss.length).length = d.p.ss.length + 1 := (ap_inv HC.out (Nat.le_refl _)).1
    obtain ⟨S, hS⟩ : ∃ S, S = (APp d.p HC.out d.p.ss.length).getD d.p.ss.length Wk.zero := ⟨_, rfl⟩
    have hSx : (APp d.p HC.out d.p.ss.length)[d.p.ss.length]? = some S := by
      rw [hS, List.getD_eq_getElem?_getD, List.getElem?_eq_getElem (by omega)]; rfl
    obtain ⟨t0, t1, t2, t3, t4⟩ := hsf _ S hSx
    rw [e8] at t0 t1 t2 t3 t4
    have hks : (d.states.n : Int) < (sn : Int) := by omega
    have HST : Hid (startN d.p HC.out = if S.there = true then S.must else onesN) := by show startN d.p HC.out = _; unfold startN; rw [← hS]
    obtain ⟨st, hst⟩ : ∃ st, st = startN d.p HC.out := ⟨_, rfl⟩
    have HSL : Hid (st < 2 ^ 64) := by rw [hst]; exact startN_lt HC.out
    have EST := hid hst
    have EN := hid en
    have hc2 := HA3.out.cs.2.2.1
    have HX0 : Hid (Below W3.heap.size W3 W3) := Below.refl _ _
    have HOW0 : Hid (W3.ownsRow W3.heap.size 62 1 (.slice none 0 0) 0 (UU ((flowL d.p st).take 0))) := World.ownsRow_nil _ _ _ _
    have HSU : Hid (∀ i w', i ≤ d.nodes.n → Below W3.heap.size W3 w' → Calls Tryz.prog 26 #[d.v, .int .u64 (st : Int), .int .i64 (i : Int)] w' fun e w'' => e = .returned (.int .u64 (SN d.p st i i : Nat)) ∧ Below w'.heap.size w' w'') := fun i w' hi h => sure_any d st HC.out HSL.out i (by rw [EN.out]; exact hi) w' (HL.out.step (bl_step HB3.out h))
    have HBN : Hid (∀ i w', i < d.nodes.n → Below W3.heap.size W3 w' → Calls Tryz.prog 27 #[d.v, .int .i64 (i : Int), .int .u64 (SN d.p st i i : Nat)] w' (BnodeDone d.p (SN d.p st i i) (d.p.ns.getD i PNode.z) w')) := fun i w' hi h => by
      obtain ⟨x, hx, exx⟩ := bnode_one (HL.out.step (bl_step HB3.out h)) hi
      have ho := node_ok HC.out (i := i) (by rw [EN.out]; exact hi)
      rw [exx] at ho ⊢
      exact bnode_any d _ i x (HL.out.step (bl_step HB3.out h)) HC.out (SN_lt HSL.out i i) hi hx ho
    have HFF : Hid (∀ wr, Below W3.heap.size W3 wr → wr.cell? ⟨f, 0, none⟩ = some (.int .i64 0) ∧ wr.cell? ⟨f, 1, none⟩ = some (.int .i64 0) ∧ wr.frozen? ⟨f, 0, none⟩ = false ∧ wr.frozen? ⟨f, 1, none⟩ = false) := fun wr h => ⟨cell_keep HA3.out.f0 h, cell_keep HA3.out.f1 h, (h.frozen (p := ⟨f, 0, none⟩) HA3.out.fl).trans (HA3.out.fz 0), (h.frozen (p := ⟨f, 1, none⟩) HA3.out.fl).trans (HA3.out.fz 1)⟩
    have HBL : Hid (∀ wr x y, Below W3.heap.size W3 wr → Below w.heap.size w ((wr.setCell ⟨f, 0, none⟩ x).setCell ⟨f, 1, none⟩ y)) := fun wr x y h => ((bl_step HB3.out h).setCell (p := ⟨f, 0, none⟩) HA3.out.wf _).setCell (p := ⟨f, 1, none⟩) HA3.out.wf _
    have HCS : Hid (∀ wr, Below W3.heap.size W3 wr → wr.cell? ⟨s, 0, none⟩ = some (.slice d.heads.a d.heads.n d.heads.c) ∧ wr.cell? ⟨s, 1, none⟩ = some (.slice d.mta.a d.mta.n d.mta.c) ∧ wr.cell? ⟨s, 2, none⟩ = some (.slice d.states.a d.states.n d.states.c) ∧ wr.cell? ⟨s, 3, none⟩ = some (.slice d.acts.a d.acts.n d.acts.c) ∧ wr.cell? ⟨s, 4, none⟩ = some (.slice d.tabs.a d.tabs.n d.tabs.c) ∧ wr.cell? ⟨s, 5, none⟩ = some (.slice d.nodes.a d.nodes.n d.nodes.c) ∧ wr.cell? ⟨s, 6, none⟩ = some (.slice d.out.a d.out.n d.out.c)) := fun wr h => keep7 HA3.out.cs h
    have hs3 : s < W3.heap.size := World.block_lt_of_cell? _ _ HA3.out.cs.1
    have hf3 : Hid (f < W3.heap.size) := HA3.out.fl
    clear hc en e8 hsl hap hS hSx hst hsf HNE HRO
    cases hT : S.there
    case' true =>
      rw [hT] at t4
      have e : st = S.must := by rw [EST.out, HST.out, if_pos hT]
      have HSV : Hid (∀ i w', i ≤ d.nodes.n → Below W3.heap.size W3 w' → Calls Tryz.prog 26 #[d.v, .int .u64 (S.must : Int), .int .i64 (i : Int)] w' fun e w'' => e = .returned (.int .u64 (SN d.p st i i : Nat)) ∧ Below w'.heap.size w' w'') := by
        have := HSU.out
        rw [show (.int .u64 (st : Int) : Value) = .int .u64 (S.must : Int) by rw [e]] at this
        exact this
      clear e hT HST HSU
      go_upto_region 4 with fail
      rw [← EW3.out, ← EF2.out]
      clear EW3 EF2 y0 y1 HA3
      go_wp2
      clear t0 t1 t2 t3 t4 hc2
    case' false =>
      rw [hT] at t4
      have e : st = onesN := by rw [EST.out, HST.out, if_neg (by rw [hT]; decide)]
      have HSV : Hid (∀ i w', i ≤ d.nodes.n → Below W3.heap.size W3 w' → Calls Tryz.prog 26 #[d.v, .int .u64 18446744073709551615, .int .i64 (i : Int)] w' fun e w'' => e = .returned (.int .u64 (SN d.p st i i : Nat)) ∧ Below w'.heap.size w' w'') := by
        have := HSU.out
        rw [show (.int .u64 (st : Int) : Value) = .int .u64 18446744073709551615 by rw [e]; rfl] at this
        exact this
      clear e hT HST HSU
      go_upto_region 4 with fail
      rw [← EW3.out, ← EF2.out]
      clear EW3 EF2 y0 y1 HA3
      go_wp2
      clear t0 t1 t2 t3 t4 hc2
    all_goals
      go_loopw [8, 7, 9, 10, 11, 12] (fun q ov _ _ _ _ wr => ∃ (i : Nat) (la : Option Addr) (lc : Nat), i ≤ d.nodes.n + 1 ∧ q = .int .i64 i ∧ ov = .slice la i lc ∧ Hid (wr.ownsRow W3.heap.size 62 1 (.slice la i lc) i (UU ((flowL d.p st).take i))) ∧ Hid (∀ k, k < i → k < d.nodes.n → ¬ badAt d.p st k) ∧ Hid (Below W3.heap.size W3 wr)) (fun q _ _ _ _ _ _ => d.nodes.n + 1 - (intOf q).toNat)
      case atStart => exact ⟨0, none, 0, Nat.zero_le _, rfl, rfl, HOW0, fun k hk => absurd hk (Nat.not_lt_zero _), HX0⟩
      case round =>
        obtain ⟨i, la, lc, hi, rfl, rfl, HOW, HPJ, HB⟩ := hrel
        clear HX0 HOW0
        obtain ⟨x0, x1, x2, x3, x4, x5, x6⟩ := HCS.out wr HB.out
        by_cases hle : i ≤ d.nodes.n
        · have hii : (i : Int) ≤ (d.nodes.n : Int) := by omega
          obtain ⟨mu, hmu⟩ : ∃ mu, mu = SN d.p st i i := ⟨_, rfl⟩
          have HS1 := hid (HSV.out i wr hle HB.out)
          rw [← hmu] at HS1
          have HMU := hid hmu
          have h6k : IntKind.i64.wrap (6000 + (i : Int)) = 6000 + (i : Int) := wrap_small _ (by omega) (by omega)
          clear hmu
          go_wp2_with fail
          refine HS1.out.mono ?_
          rintro e w4 ⟨rfl, hb4⟩
          have HWW := hid hb4
          obtain ⟨y0, y1, y2, y3, y4, y5, y6⟩ := HCS.out w4 (bl_step HB.out hb4)
          clear HS1 x0 x1 x2 x3 x4 x5 x6 hb4
          by_cases hlt : i < d.nodes.n
          · have hil : (i : Int) < (d.nodes.n : Int) := by omega
            by_cases h1 : mu = onesN
            · have he : ((mu : Int) != 18446744073709551615) = false := by rw [h1]; rfl
              have RP : Hid (∀ k, k < i + 1 → k < d.nodes.n → ¬ badAt d.p st k) := fun k hk hkn => by
                by_cases e : k = i
                · subst e
                  exact fun h => h.1 (HMU.out.symm.trans h1)
                · exact HPJ.out k (by omega) hkn
              clear HPJ h6k h1
              obtain ⟨g6, cap6, w6, hrun6, ho6, hb6⟩ := push64_run (mu : Int) (owns_below HOW.out HWW.out) (bl_step HB.out HWW.out) (by omega)
              have RO : Hid (w6.ownsRow W3.heap.size 62 1 (.slice (some ⟨g6, 0, none⟩) (i + 1) cap6) (i + 1) (UU ((flowL d.p st).take (i + 1)))) := by
                show w6.ownsRow _ _ _ _ _ _
                rw [flowL_take (by have := EN.out; omega), ← HMU.out]
                exact ho6
              have RB := hid hb6
              clear ho6 hb6 HOW HB HWW
              go_wp2_with (at_builtin; refine append_run rfl _ _ rfl rfl rfl hrun6 ?_)
              go_roundw
              case rel => exact ⟨i + 1, _, _, by omega, by go_num, rfl, RO, RP, RB⟩
              case measure => simp [intOf]; omega
            · have he : ((mu : Int) != 18446744073709551615) = true := by
                rw [bne_iff_ne]
                intro h
                exact h1 (by unfold onesN; omega)
              have HK := hid (HBN.out i w4 hlt (bl_step HB.out HWW.out))
              unfold BnodeDone at HK
              rw [← HMU.out] at HK
              obtain ⟨KB, hKB⟩ : ∃ KB, KB = nodeOk d.p mu (d.p.ns.getD i PNode.z) := ⟨_, rfl⟩
              rw [← hKB] at HK
              have HKB := hid hKB
              have HN1 := hid h1
              clear hKB h1
              generalize yesN d.p mu (d.p.ns.getD i PNode.z) = Y at *
              generalize noN mu (d.p.ns.getD i PNode.z) = N at *
              go_wp2_with fail
              refine HK.out.mono ?_
              rintro e w5 ⟨rfl, hb5⟩
              have HWX := hid (bl_step HWW.out hb5)
              clear HK hb5 HWW y0 y1 y2 y3 y4 y5 y6
              have HWW := HWX
              clear HWX
              cases KB with
              | true =>
                have RP : Hid (∀ k, k < i + 1 → k < d.nodes.n → ¬ badAt d.p st k) := fun k hk hkn => by
                  by_cases e : k = i
                  · subst e
                    exact fun h => by have h2 := h.2; rw [← HMU.out, ← HKB.out] at h2; cases h2
                  · exact HPJ.out k (by omega) hkn
                clear HPJ h6k
                obtain ⟨g6, cap6, w6, hrun6, ho6, hb6⟩ := push64_run (mu : Int) (owns_below HOW.out HWW.out) (bl_step HB.out HWW.out) (by omega)
                have RO : Hid (w6.ownsRow W3.heap.size 62 1 (.slice (some ⟨g6, 0, none⟩) (i + 1) cap6) (i + 1) (UU ((flowL d.p st).take (i + 1)))) := by
                  show w6.ownsRow _ _ _ _ _ _
                  rw [flowL_take (by have := EN.out; omega), ← HMU.out]
                  exact ho6
                have RB := hid hb6
                clear ho6 hb6 HOW HB HWW
                go_wp2_with (at_builtin; refine append_run rfl _ _ rfl rfl rfl hrun6 ?_)
                go_roundw
                case rel => exact ⟨i + 1, _, _, by omega, by go_num, rfl, RO, RP, RB⟩
                case measure => simp [intOf]; omega
              | false =>
                have HFC : Hid (∀ w', Calls Tryz.prog 28 #[.int .i64 12, .int .i64 (6000 + (i : Int))] w' fun e w'' => e = .returned (.agg #[.int .i64 12, .int .i64 (6000 + (i : Int))]) ∧ Below w'.heap.size w' w'') := fun w' => fault_any _ _ _
                have HE : Hid (∀ w', Below W3.heap.size W3 w' → FlowDone d.p w (.returned (.tuple #[.slice none 0 0, .agg #[.int .i64 12, .int .i64 (6000 + (i : Int))]])) ((w'.setCell ⟨f, 0, none⟩ (.int .i64 12)).setCell ⟨f, 1, none⟩ (.int .i64 (6000 + (i : Int))))) := fun w' h => by
                  refine ⟨12, 6000 + (i : Int), none, 0, 0, rfl, .inr ⟨HC.out, HI.out, .inl ⟨i, by rw [EN.out]; exact hlt, ?_, ?_, rfl, rfl⟩⟩, fun _ => ⟨rfl, rfl, rfl⟩, fun _ h => absurd h (by decide), HBL.out _ _ _ h⟩
                  · rw [← EST.out]; exact ⟨by rw [← HMU.out]; exact HN1.out, by rw [← HMU.out, ← HKB.out]⟩
                  · rw [← EST.out]; exact fun k hk => HPJ.out k hk (by omega)
                have HB6 := hid (bl_step HB.out HWW.out)
                clear HPJ HOW HBL HB HWW
                go_wp2_with fail
                refine (HFC.out _).mono ?_
                rintro e w6 ⟨rfl, hb6⟩
                have HF := hid (HE.out w6 (bl_step HB6.out hb6))
                obtain ⟨f0, f1, g0, g1⟩ := HFF.out w6 (bl_step HB6.out hb6)
                clear HFC HE HB6 HFF hb6
                go_wp2
                exact bodyPost_ret (v := .tuple #[.slice none 0 0, .agg #[.int .i64 12, .int .i64 (6000 + (i : Int))]]) (by simp [results, Tryz.results9, go_sem, *]) rfl HF.out
          · have hil : ¬ (i : Int) < (d.nodes.n : Int) := by omega
            have hild := decide_eq_false hil
            have RP : Hid (∀ k, k < i + 1 → k < d.nodes.n → ¬ badAt d.p st k) := fun k hk hkn => HPJ.out k (by omega) hkn
            clear HPJ h6k
            obtain ⟨g6, cap6, w6, hrun6, ho6, hb6⟩ := push64_run (mu : Int) (owns_below HOW.out HWW.out) (bl_step HB.out HWW.out) (by omega)
            have RO : Hid (w6.ownsRow W3.heap.size 62 1 (.slice (some ⟨g6, 0, none⟩) (i + 1) cap6) (i + 1) (UU ((flowL d.p st).take (i + 1)))) := by
              show w6.ownsRow _ _ _ _ _ _
              rw [flowL_take (by have := EN.out; omega), ← HMU.out]
              exact ho6
            have RB := hid hb6
            clear ho6 hb6 HOW HB HWW
            go_wp2_with (at_builtin; refine append_run rfl _ _ rfl rfl rfl hrun6 ?_)
            go_roundw
            case rel => exact ⟨i + 1, _, _, by omega, by go_num, rfl, RO, RP, RB⟩
            case measure => simp [intOf]; omega
        · have ei : i = d.nodes.n + 1 := by omega
          have hii : ¬ (i : Int) ≤ (d.nodes.n : Int) := by omega
          obtain ⟨f0, f1, g0, g1⟩ := HFF.out wr HB.out
          have HE : Hid (FlowDone d.p w (.returned (.tuple #[.slice la i lc, .agg #[.int .i64 0, .int .i64 0]])) ((wr.setCell ⟨f, 0, none⟩ (.int .i64 0)).setCell ⟨f, 1, none⟩ (.int .i64 0))) := by
            refine ⟨0, 0, la, i, lc, rfl, .inr ⟨HC.out, HI.out, .inr ⟨fun k hk => ?_, rfl, rfl⟩⟩, fun h => absurd rfl h, fun h _ => ?_, HBL.out _ _ _ HB.out⟩
            · rw [← EST.out]; exact HPJ.out k (by rw [EN.out] at hk; omega) (by rw [EN.out] at hk; exact hk)
            · have k1 : But f wr ((wr.setCell ⟨f, 0, none⟩ (.int .i64 0)).setCell ⟨f, 1, none⟩ (.int .i64 0)) := set_but.trans set_but
              have hw := HOW.out
              rw [List.take_of_length_le (by rw [flowL_len, EN.out]; omega)] at hw
              have hh := has_own64 hw (flowL_64 HSL.out)
              rw [← EST.out]
              refine ⟨hh.1, hh.2.1, .inr ?_⟩
              obtain ⟨bb, off, e1, hl1, hc1⟩ := hh.some (by omega)
              obtain ⟨bb', off', e1', hge, _⟩ := own_from hw (by omega)
              rw [e1] at e1'
              simp only [Option.some.injEq, Addr.mk.injEq] at e1'
              have hbf : bb ≠ f := by have := hf3.out; omega
              exact ⟨bb, off, e1, Nat.lt_of_lt_of_le hl1 k1.size, fun j hj => k1.cell hbf (hc1 j hj)⟩
          clear HOW HB HPJ HBL HFF ei
          go_wp2
          exact bodyPost_ret (v := .tuple #[.slice la i lc, .agg #[.int .i64 0, .int .i64 0]]) (by simp [results, Tryz.results9, go_sem, *]) rfl HE.out
  · have hCn : (C != 0) = true := by rw [bne_iff_ne]; exact hC
    have HE : Hid (∀ w', Below W3.heap.size W3 w' → FlowDone d.p w (.returned (.tuple #[.slice none 0 0, .agg #[.int .i64 C, .int .i64 A]])) ((w'.setCell ⟨f, 0, none⟩ (.int .i64 C)).setCell ⟨f, 1, none⟩ (.int .i64 A))) := fun w' h =>
      ⟨C, A, none, 0, 0, rfl, .inl ⟨HI.out, hC⟩, fun _ => ⟨rfl, rfl, rfl⟩, fun _ h0 => absurd h0 hC, ((bl_step HB3.out h).setCell (p := ⟨f, 0, none⟩) HA3.out.wf _).setCell (p := ⟨f, 1, none⟩) HA3.out.wf _⟩
    have f0 := HA3.out.f0
    have f1 := HA3.out.f1
    have g0 := HA3.out.fz 0
    have g1 := HA3.out.fz 1
    clear HI HNE HRO hC HB3 HA3
    go_wp2_with fail
    rw [← EW3.out, ← EF2.out]
    clear EW3 EF2
    go_region
    all_goals
      go_wp2
      exact bodyPost_ret (v := .tuple #[.slice none 0 0, .agg #[.int .i64 C, .int .i64 A]]) (by simp [results, Tryz.results9, go_sem, *]) rfl (HE.out _ (Below.refl _ _).drew)
end Go.Proofs.YtkggocdannkdmaaGreat

namespace Go.Proofs.YtkggocdannkdmaaGreat
open Go.RowKit

/-- no list of it is beyond what a copy takes -/
theorem fits_of {d : PlanD} {w : World} (hl : d.lie w) (h : d.p.little) : d.fits := by
  have mem : ∀ {α β : Type} {L : List α} {f : α → β} {x : α}, x ∈ L → f x ∈ L.map f := fun hx => List.mem_map.2 ⟨_, hx, rfl⟩
  have lie_at : ∀ {α : Type} {k : Nat} {P : α → World → Nat → Nat → Prop} {w : World} {s : QSl} {S : List α}, QRow k P w s S → ∀ y ∈ S, ∃ g o, P y w g o := fun h y hy => by
    obtain ⟨i, hi, rfl⟩ := List.getElem_of_mem hy
    obtain ⟨g, off, _, hp⟩ := h.2 i _ (List.getElem?_eq_getElem hi)
    exact ⟨g, _, hp⟩
  refine ⟨⟨?_, fun x hx => ?_⟩, ?_, ⟨?_, fun x hx => ?_⟩, ⟨?_, fun x hx => ?_⟩, ⟨?_, fun x hx => ?_⟩, ⟨?_, fun x hx => ?_⟩, ?_⟩
  · have := h.hs; simp [PlanD.p, hl.hs.1] at this; omega
  · obtain ⟨g, o, hp⟩ := lie_at hl.hs x hx
    have : x.ws.length ≤ 500 := h.hw _ (mem hx)
    have e := hp.2.1
    omega
  · have := h.ms; simp [PlanD.p, hl.ms.1] at this; omega
  · have := h.ss; simp [PlanD.p, hl.ss.1] at this; omega
  · obtain ⟨g, o, hp⟩ := lie_at hl.ss x hx
    have : x.cs.length ≤ 500 := h.sc _ (mem hx)
    have e := hp.2.2.2.2.2.1
    omega
  · have := h.al; simp [PlanD.p, hl.al.1] at this; omega
  · obtain ⟨g, o, hp⟩ := lie_at hl.al x hx
    have h1 := h.aw _ (mem hx)
    have h2 : x.ws.length ≤ 500 := h1.1
    have h3 : (x.os.map OpD.p).length ≤ 50 := h1.2
    rw [List.length_map] at h3
    have e := hp.2.2.1.1
    have e2 := hp.2.2.2.1
    refine ⟨by omega, by omega, fun y hy => ?_⟩
    obtain ⟨g', o', hp'⟩ := lie_at hp.2.2.2 y hy
    have : y.es.length ≤ 500 := h.ae _ (mem hx) _ (mem hy)
    have e3 := hp'.2.2.2.2.2.1
    omega
  · have := h.ts; simp [PlanD.p, hl.ts.1] at this; omega
  · obtain ⟨g, o, hp⟩ := lie_at hl.ts x hx
    have h1 := h.tl _ (mem hx)
    have h2 : x.ks.length ≤ 500 := h1.1
    have h3 : x.al.length ≤ 500 := h1.2.1
    have h4 : x.zs.length ≤ 500 := h1.2.2
    have e := hp.2.2.2.2.2.2.1.1
    have e2 := hp.2.2.2.2.2.2.2.1.1
    have e3 := hp.2.2.2.2.2.2.2.2.1
    omega
  · have := h.ns; simp [PlanD.p, hl.ns.1] at this; omega
  · obtain ⟨g, o, hp⟩ := lie_at hl.ns x hx
    have : x.es.length ≤ 500 := h.ne _ (mem hx)
    have e := hp.2.2.2.2.2.1
    omega
  · have := h.os; simp [PlanD.p, hl.os.1] at this; omega

theorem form_told (d : PlanD) (w : World) (hl : d.lie w) (hm : d.p.little) : Calls Tryz.prog 48 #[d.v] w fun e w' => e = .returned (.agg #[.int .i64 (chkP d.p).1, .int .i64 (chkP d.p).2]) ∧ Below w.heap.size w w' :=
  (form_any d w hl hm).mono fun e w' ⟨C, A, hC, he, hb⟩ => by
    obtain ⟨rfl, rfl⟩ := chk_is hl hC
    exact ⟨he, hb⟩

theorem pkeep14 {w w' : World} {s t : Nat} {v0 v1 v2 v3 v4 v5 v6 u0 u1 u2 u3 u4 u5 u6 : Value} (h : w.cell? ⟨s, 0, none⟩ = some v0 ∧ w.cell? ⟨s, 1, none⟩ = some v1 ∧ w.cell? ⟨s, 2, none⟩ = some v2 ∧ w.cell? ⟨s, 3, none⟩ = some v3 ∧ w.cell? ⟨s, 4, none⟩ = some v4 ∧ w.cell? ⟨s, 5, none⟩ = some v5 ∧ w.cell? ⟨s, 6, none⟩ = some v6 ∧ w.cell? ⟨t, 0, none⟩ = some u0 ∧ w.cell? ⟨t, 1, none⟩ = some u1 ∧ w.cell? ⟨t, 2, none⟩ = some u2 ∧ w.cell? ⟨t, 3, none⟩ = some u3 ∧ w.cell? ⟨t, 4, none⟩ = some u4 ∧ w.cell? ⟨t, 5, none⟩ = some u5 ∧ w.cell? ⟨t, 6, none⟩ = some u6) (b : Below w.heap.size w w') : w'.cell? ⟨s, 0, none⟩ = some v0 ∧ w'.cell? ⟨s, 1, none⟩ = some v1 ∧ w'.cell? ⟨s, 2, none⟩ = some v2 ∧ w'.cell? ⟨s, 3, none⟩ = some v3 ∧ w'.cell? ⟨s, 4, none⟩ = some v4 ∧ w'.cell? ⟨s, 5, none⟩ = some v5 ∧ w'.cell? ⟨s, 6, none⟩ = some v6 ∧ w'.cell? ⟨t, 0, none⟩ = some u0 ∧ w'.cell? ⟨t, 1, none⟩ = some u1 ∧ w'.cell? ⟨t, 2, none⟩ = some u2 ∧ w'.cell? ⟨t, 3, none⟩ = some u3 ∧ w'.cell? ⟨t, 4, none⟩ = some u4 ∧ w'.cell? ⟨t, 5, none⟩ = some u5 ∧ w'.cell? ⟨t, 6, none⟩ = some u6 :=
  ⟨cell_keep h.1 b, cell_keep h.2.1 b, cell_keep h.2.2.1 b, cell_keep h.2.2.2.1 b, cell_keep h.2.2.2.2.1 b, cell_keep h.2.2.2.2.2.1 b, cell_keep h.2.2.2.2.2.2.1 b, cell_keep h.2.2.2.2.2.2.2.1 b, cell_keep h.2.2.2.2.2.2.2.2.1 b, cell_keep h.2.2.2.2.2.2.2.2.2.1 b, cell_keep h.2.2.2.2.2.2.2.2.2.2.1 b, cell_keep h.2.2.2.2.2.2.2.2.2.2.2.1 b, cell_keep h.2.2.2.2.2.2.2.2.2.2.2.2.1 b, cell_keep h.2.2.2.2.2.2.2.2.2.2.2.2.2 b⟩

end Go.Proofs.YtkggocdannkdmaaGreat

namespace Go.Proofs.YtkggocdannkdmaaGreat
open Go.RowKit

set_option maxHeartbeats 16000000 in
set_option maxRecDepth 20000 in
theorem flowdoes_main (d : PlanD) (w : World) (hl : d.lie w) (h0 : d.nil0) : Calls Tryz.prog 3 #[d.v] w fun e w' => e = .returned (.bool true) ∧ Below w.heap.size w w' := by
  obtain ⟨W1, hW⟩ : ∃ W1, W1 = w.alloc d.box := ⟨_, rfl⟩
  obtain ⟨s, hs⟩ : ∃ s, s = w.heap.size := ⟨_, rfl⟩
  have hc : W1.cell? ⟨s, 0, none⟩ = some (.slice d.heads.a d.heads.n d.heads.c) ∧ W1.cell? ⟨s, 1, none⟩ = some (.slice d.mta.a d.mta.n d.mta.c) ∧ W1.cell? ⟨s, 2, none⟩ = some (.slice d.states.a d.states.n d.states.c) ∧ W1.cell? ⟨s, 3, none⟩ = some (.slice d.acts.a d.acts.n d.acts.c) ∧ W1.cell? ⟨s, 4, none⟩ = some (.slice d.tabs.a d.tabs.n d.tabs.c) ∧ W1.cell? ⟨s, 5, none⟩ = some (.slice d.nodes.a d.nodes.n d.nodes.c) ∧ W1.cell? ⟨s, 6, none⟩ = some (.slice d.out.a d.out.n d.out.c) := by rw [hW, hs]; refine ⟨?_, ?_, ?_, ?_, ?_, ?_, ?_⟩ <;> exact (World.cell?_alloc_at _ _ _ _ rfl).trans rfl
  have HB0 : Hid (Below w.heap.size w W1) := by rw [hW]; exact bl_alloc (Below.refl _ _)
  have EW := hid hW
  have ES := hid hs
  have HL := hid hl
  have H0 := hid h0
  have HC := hid hc
  have HBG := hid (flow_begun W1)
  clear hW hs hc hl h0
  go_enter Tryz.func3, Tryz.ntmps3
  go_wp2_with fail
  rw [← EW.out, ← ES.out]
  refine HBG.out.mono ?_
  rintro e w1 ⟨rfl, hb1⟩
  clear EW ES HBG
  have HB1 := hid (bl_step HB0.out hb1)
  have HC1 := hid (keep7 HC.out hb1)
  obtain ⟨z0, z1, z2, z3, z4, z5, z6⟩ := keep7 HC.out hb1
  have HGR := hid (great_told d w1 (HL.out.step HB1.out))
  clear hb1 HB0 HC
  go_wp2_with fail
  refine HGR.out.mono ?_
  rintro e w2 ⟨b, rfl, hg, hb2⟩
  have HB2 := hid (bl_step HB1.out hb2)
  have HC2 := hid (keep7 HC1.out hb2)
  have HG := hid hg
  clear hb2 HB1 HGR z0 z1 z2 z3 z4 z5 z6 hg HC1
  obtain ⟨z0, z1, z2, z3, z4, z5, z6⟩ := HC2.out
  cases b with
  | true =>
    go_wp2
    go_ret
    exact ⟨rfl, HB2.out⟩
  | false =>
    have hlit := HG.out rfl
    have HD := hid (dup_plan d w2 (HL.out.step HB2.out) H0.out (fits_of HL.out hlit))
    have HLT := hid hlit
    clear hlit HG
    go_wp2_with fail
    refine HD.out.mono ?_
    rintro e w3 ⟨d1, rfl, hl1, h01, hp1, hb3⟩
    have HB3 := hid (bl_step HB2.out hb3)
    have HC3 := hid (keep7 HC2.out hb3)
    obtain ⟨W4, hW4⟩ : ∃ W4, W4 = w3.alloc d1.box := ⟨_, rfl⟩
    obtain ⟨t, ht⟩ : ∃ t, t = w3.heap.size := ⟨_, rfl⟩
    have B4 : Hid (Below w3.heap.size w3 W4) := by rw [hW4]; exact bl_alloc (Below.refl _ _)
    have hy : W4.cell? ⟨t, 0, none⟩ = some (.slice d1.heads.a d1.heads.n d1.heads.c) ∧ W4.cell? ⟨t, 1, none⟩ = some (.slice d1.mta.a d1.mta.n d1.mta.c) ∧ W4.cell? ⟨t, 2, none⟩ = some (.slice d1.states.a d1.states.n d1.states.c) ∧ W4.cell? ⟨t, 3, none⟩ = some (.slice d1.acts.a d1.acts.n d1.acts.c) ∧ W4.cell? ⟨t, 4, none⟩ = some (.slice d1.tabs.a d1.tabs.n d1.tabs.c) ∧ W4.cell? ⟨t, 5, none⟩ = some (.slice d1.nodes.a d1.nodes.n d1.nodes.c) ∧ W4.cell? ⟨t, 6, none⟩ = some (.slice d1.out.a d1.out.n d1.out.c) := by rw [hW4, ht]; refine ⟨?_, ?_, ?_, ?_, ?_, ?_, ?_⟩ <;> exact (World.cell?_alloc_at _ _ _ _ rfl).trans rfl
    have HB4 := hid (bl_step HB3.out B4.out)
    have hl4 := hl1.step B4.out
    have hlit1 : d1.p.little := by rw [hp1]; exact HLT.out
    have HWK : Hid (∀ w', Below W4.heap.size W4 w' → Calls Tryz.prog 8 #[d1.v] w' (FlowDone d.p w')) := fun w' h => by
      have := flow_any d1 w' (hl4.step h) (small_of (hl4.step h) hlit1)
      rw [hp1] at this
      exact this
    have HCH : Hid (∀ w', Below W4.heap.size W4 w' → Calls Tryz.prog 11 #[d1.v] w' (CheckF d.p w')) := fun w' h => by
      have := fcheck_any d1 w' (hl4.step h) (small_of (hl4.step h) hlit1)
      rw [hp1] at this
      exact this
    have HOF : Hid (∀ w', Below W4.heap.size W4 w' → Calls Tryz.prog 9 #[d.v] w' (FlowDone d.p w')) := fun w' h => flowof_any d w' (HL.out.step (bl_step HB4.out h)) HLT.out
    have HS1 : Hid (∀ w', Below W4.heap.size W4 w' → Calls Tryz.prog 12 #[d1.v, d.v, .bool false] w' (Yes w')) := fun w' h => samePlan_any false d1 d w' (hl4.step h) (HL.out.step (bl_step HB4.out h)) (by rw [hp1]; exact eqplan_refl _ _) hlit1
    have HZY : Hid ((W4.cell? ⟨s, 0, none⟩ = some (.slice d.heads.a d.heads.n d.heads.c) ∧ W4.cell? ⟨s, 1, none⟩ = some (.slice d.mta.a d.mta.n d.mta.c) ∧ W4.cell? ⟨s, 2, none⟩ = some (.slice d.states.a d.states.n d.states.c) ∧ W4.cell? ⟨s, 3, none⟩ = some (.slice d.acts.a d.acts.n d.acts.c) ∧ W4.cell? ⟨s, 4, none⟩ = some (.slice d.tabs.a d.tabs.n d.tabs.c) ∧ W4.cell? ⟨s, 5, none⟩ = some (.slice d.nodes.a d.nodes.n d.nodes.c) ∧ W4.cell? ⟨s, 6, none⟩ = some (.slice d.out.a d.out.n d.out.c)) ∧ (W4.cell? ⟨t, 0, none⟩ = some (.slice d1.heads.a d1.heads.n d1.heads.c) ∧ W4.cell? ⟨t, 1, none⟩ = some (.slice d1.mta.a d1.mta.n d1.mta.c) ∧ W4.cell? ⟨t, 2, none⟩ = some (.slice d1.states.a d1.states.n d1.states.c) ∧ W4.cell? ⟨t, 3, none⟩ = some (.slice d1.acts.a d1.acts.n d1.acts.c) ∧ W4.cell? ⟨t, 4, none⟩ = some (.slice d1.tabs.a d1.tabs.n d1.tabs.c) ∧ W4.cell? ⟨t, 5, none⟩ = some (.slice d1.nodes.a d1.nodes.n d1.nodes.c) ∧ W4.cell? ⟨t, 6, none⟩ = some (.slice d1.out.a d1.out.n d1.out.c))) := ⟨keep7 HC3.out B4.out, hy⟩
    obtain ⟨y0, y1, y2, y3, y4, y5, y6⟩ := HZY.out.2
    have EW4 := hid hW4
    have ET := hid ht
    have HK1 := hid (HWK.out W4 (Below.refl _ _))
    clear hl1 h01 hp1 hb3 hl4 hlit1 hW4 ht HD HC2 HC3 B4 hy z0 z1 z2 z3 z4 z5 z6 HWK
    go_wp2_with fail
    rw [← EW4.out, ← ET.out]
    refine HK1.out.mono ?_
    rintro e w5 ⟨C, A, sa, sn, sc, rfl, hi, hne, hro, hb5⟩
    clear EW4 ET HK1 y0 y1 y2 y3 y4 y5 y6
    obtain ⟨f5, hf5⟩ : ∃ f5, f5 = w5.heap.size := ⟨_, rfl⟩
    obtain ⟨W6, hW6⟩ : ∃ W6, W6 = w5.alloc (.cells #[.int .i64 C, .int .i64 A] 35) := ⟨_, rfl⟩
    have b6 : Below w5.heap.size w5 W6 := by rw [hW6]; exact bl_alloc (Below.refl _ _)
    have HB6 := hid (bl_step hb5 b6)
    have g0 : W6.cell? ⟨f5, 0, none⟩ = some (.int .i64 C) := by rw [hW6, hf5]; exact (World.cell?_alloc_at _ _ _ _ rfl).trans rfl
    have g1 : W6.cell? ⟨f5, 1, none⟩ = some (.int .i64 A) := by rw [hW6, hf5]; exact (World.cell?_alloc_at _ _ _ _ rfl).trans rfl
    have HK2 := hid (HOF.out W6 HB6.out)
    have EW6 := hid hW6
    have EF5 := hid hf5
    have HI := hid hi
    have HNE := hid hne
    have HRO : Hid (∀ h : (chkP d.p).1 = 0, C = 0 → Has .u64 W6 sa sn (flowL d.p (startN d.p h))) := fun h hc => (hro h hc).step b6
    obtain ⟨z0, z1, z2, z3, z4, z5, z6⟩ := keep7 HZY.out.1 HB6.out
    have G0 := hid g0
    have G1 := hid g1
    clear hi hne hro hb5 b6 hW6 hf5 HOF g0 g1
    rw [EW6.out] at z0 z1 z2 z3 z4 z5 z6
    go_wp2_with fail
    rw [← EW6.out, ← EF5.out]
    refine HK2.out.mono ?_
    rintro e w7 ⟨C', A', ta, tn, tc, rfl, hi', hne', hro', hb7⟩
    obtain ⟨rfl, rfl⟩ := flowis_one HI.out hi'
    clear EW6 EF5 HK2 z0 z1 z2 z3 z4 z5 z6 hi'
    obtain ⟨f7, hf7⟩ : ∃ f7, f7 = w7.heap.size := ⟨_, rfl⟩
    obtain ⟨W8, hW8⟩ : ∃ W8, W8 = w7.alloc (.cells #[.int .i64 C, .int .i64 A] 35) := ⟨_, rfl⟩
    have b8 : Below w7.heap.size w7 W8 := by rw [hW8]; exact bl_alloc (Below.refl _ _)
    have b68 : Below W6.heap.size W6 W8 := bl_step hb7 b8
    have hro8 := fun h hc => (hro' h hc).step b8
    obtain ⟨erow, hsn9, HROW⟩ : sn = tn ∧ sn ≤ 11 ∧ Hid (∀ w', Below W8.heap.size W8 w' → ∃ zs, Has .u64 w' sa sn zs ∧ Has .u64 w' ta sn zs) := by
      by_cases hC : C = 0
      · have h0 : (chkP d.p).1 = 0 := by
          rcases HI.out with ⟨_, h2⟩ | ⟨h, _⟩
          · exact absurd hC h2
          · exact h
        have r1 := (HRO.out h0 hC).step b68
        have r2 := hro8 h0 hC
        have e12 : sn = tn := r1.1.symm.trans r2.1
        have h10 : (d.p.ns.length : Int) ≤ 10 := (chk_zero h0 5 (by decide)).2.1
        refine ⟨e12, by have := r1.1; rw [flowL_len] at this; omega, fun w' hb => ⟨_, r1.step hb, ?_⟩⟩
        have := r2.step hb
        rwa [← e12] at this
      · obtain ⟨h1, h2, _⟩ := HNE.out hC
        obtain ⟨h3, h4, _⟩ := hne' hC
        refine ⟨h2.trans h4.symm, by omega, fun w' hb => ⟨[], ?_, ?_⟩⟩
        · rw [h1, h2]; exact has_nil _ _
        · rw [h3, h2]; exact has_nil _ _
    subst erow
    have hsn1000 : sn ≤ 1000 := by omega
    have h0' := cell_keep G0.out b68
    have h1' := cell_keep G1.out b68
    have u0 : W8.cell? ⟨f7, 0, none⟩ = some (.int .i64 C) := by rw [hW8, hf7]; exact (World.cell?_alloc_at _ _ _ _ rfl).trans rfl
    have u1 : W8.cell? ⟨f7, 1, none⟩ = some (.int .i64 A) := by rw [hW8, hf7]; exact (World.cell?_alloc_at _ _ _ _ rfl).trans rfl
    have HB8 := hid (bl_step HB6.out b68)
    obtain ⟨z0, z1, z2, z3, z4, z5, z6⟩ := keep7 HZY.out.1 HB8.out
    obtain ⟨y0, y1, y2, y3, y4, y5, y6⟩ := keep7 HZY.out.2 HB8.out
    have HK3 : Hid (∀ p : BelowBy W8, Calls Tryz.prog 12 #[d1.v, d.v, .bool false] p.to fun e w' => e = .returned (.bool true) ∧ Below p.to.heap.size p.to w') := fun p => HS1.out p.to (bl_step HB8.out p.h)
    have HKC : Hid (∀ p : BelowBy W8, Calls Tryz.prog 11 #[d1.v] p.to fun e w' => e = .returned (.agg #[.int .i64 C, .int .i64 A]) ∧ Below p.to.heap.size p.to w') := fun p => by
      refine (HCH.out p.to (bl_step HB8.out p.h)).mono ?_
      rintro e w' ⟨C2, A2, rfl, hi2, hb2⟩
      obtain ⟨rfl, rfl⟩ := flowis_one HI.out hi2
      exact ⟨rfl, hb2⟩
    have HKN : Hid (∀ p : BelowBy W8, Calls Tryz.prog 10 #[.slice sa sn sc, .slice ta sn tc] p.to fun e w' => e = .returned (.bool true) ∧ Below p.to.heap.size p.to w') := fun p => by
      obtain ⟨zs, ha, hb⟩ := HROW.out p.to p.h
      refine (same_nums sc tc hsn1000 ha hb).mono ?_
      rintro e w' ⟨rfl, n, rfl⟩
      exact ⟨rfl, below_drewN (Below.refl _ _) n⟩
    have HBW := hid (bl_step HB4.out HB8.out)
    have z0' := cell_by z0
    have z1' := cell_by z1
    have z2' := cell_by z2
    have z3' := cell_by z3
    have z4' := cell_by z4
    have z5' := cell_by z5
    have z6' := cell_by z6
    have y0' := cell_by y0
    have y1' := cell_by y1
    have y2' := cell_by y2
    have y3' := cell_by y3
    have y4' := cell_by y4
    have y5' := cell_by y5
    have y6' := cell_by y6
    have h0c := cell_by h0'
    have h1c := cell_by h1'
    have u0c := cell_by u0
    have u1c := cell_by u1
    have EW8 := hid hW8
    have EF7 := hid hf7
    clear hro' hne' hb7 b8 b68 hro8 HI HNE HRO hW8 hf7 HB6 HB8 HZY HS1 G0 G1 HL H0 HLT HB2 HB3 HB4 HROW HCH
    go_wp2_with fail
    rw [← EW8.out, ← EF7.out]
    clear EW8 EF7
    haveI inhB : ∀ w : World, Inhabited (BelowBy w) := fun w => ⟨⟨w, Below.refl _ _⟩⟩
    refine wp_region_quiet_below (by kernel_rfl) (by kernel_rfl) ?_
    repeat (go_big_quiet_step (first | (go_at_call 10; exact calls_below _ (HKN.out _)) | (go_at_call 11; exact calls_below _ (HKC.out _)) | (go_at_call 12; exact calls_below _ (HK3.out _))))
    refine wpQuiet_nil ?_
    intro wq hw'
    obtain ⟨⟨_, hwq⟩, hw''⟩ := hw'
    subst hw''
    have HE := hid (bl_step HBW.out hwq)
    clear HBW hwq HK3 HKC HKN
    go_wp2
    go_ret
    exact ⟨rfl, HE.out⟩
end Go.Proofs.YtkggocdannkdmaaGreat
