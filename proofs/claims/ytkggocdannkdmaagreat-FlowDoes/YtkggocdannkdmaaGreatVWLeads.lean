/- The document's leadsTo: where a state leads, each place once. -/
import Derived.Test.YtkggocdannkdmaaGreatVWPar
import Derived.Test.YtkggocdannkdmaaGreatVWBehind
import Derived.Test.YtkggocdannkdmaaGreatJ7
import Derived.Test.YtkggocdannkdmaaGreatJ1
import Derived.Test.YtkggocdannkdmaaGreatVQDup1
import Derived.Test.YtkggocdannkdmaaGreatJ18
namespace Go.Proofs.YtkggocdannkdmaaGreat
open Go.RowKit

set_option maxHeartbeats 2000000 in
set_option maxRecDepth 20000 in
theorem rbit_any (h : Int) (h0 : 0 ≤ h) (h6 : h < 6) (w : World) : Calls Tryz.prog 50 #[.int .i64 h] w fun e w' => e = .returned (.int .u64 (bitN h)) ∧ w' = w := by
  rcases six_ways (show ¬ h < 0 by omega) h6 with rfl | rfl | rfl | rfl | rfl | rfl
  all_goals
    go_enter Tryz.func50, Tryz.ntmps50
    go_wp2
    go_ret
    exact ⟨rfl, rfl⟩

/-- SizeOf of a right header -/
theorem rsize_good (a : Option Addr) (m c : Nat) (ws : List Int) (w : World) (hw : Has .i64 w a m ws) (h : sizeC ws = 0) :
    Calls Tryz.prog 64 #[.agg #[.slice a m c]] w fun e w' => e = .returned (.tuple #[.int .i64 (sizeN ws : Int), .agg #[.int .i64 0, .int .i64 0]]) ∧ Below w.heap.size w w' := by
  obtain ⟨h1, h8, hf, h3, h4⟩ := sizeC_good h
  have hl := hw.1
  rw [hl] at h1 h8 hf h3 h4
  refine (rsize_end a m c ws w h1 h8 hw hf).mono fun e w' ⟨x, he, ht, hb⟩ => ⟨?_, hb⟩
  rw [he, ht.1 ⟨h3, h4⟩]
  unfold sizeN
  rw [hl]

theorem nodup_le : ∀ {k : Nat} {l : List Nat}, l.Nodup → (∀ j ∈ l, j < k) → l.length ≤ k
  | 0, l, _, h => by
    have : l = [] := List.eq_nil_iff_forall_not_mem.2 fun j hj => absurd (h j hj) (Nat.not_lt_zero _)
    rw [this]; exact Nat.le_refl _
  | k + 1, l, hn, h => by
    by_cases hk : k ∈ l
    · have h1 := nodup_le (k := k) (hn.erase k) fun j hj => by
        have h2 := hn.mem_erase_iff.1 hj
        have := h j h2.2
        have := h2.1
        omega
      have h3 := List.length_erase_of_mem hk
      omega
    · have h1 := nodup_le (k := k) hn fun j hj => by
        have := h j hj
        have : j ≠ k := fun e => hk (e ▸ hj)
        omega
      omega

theorem nat_wf {L : List Nat} {k : Nat} (h : ∀ j ∈ L, j < k) (hk : k ≤ 100000 := by decide) : ∀ n ∈ L.map (fun j : Nat => (j : Int)), (Lit.int .i64 n).wf = true := fun n hn => by
  obtain ⟨j, hj, rfl⟩ := List.mem_map.1 hn
  have := h j hj
  simp [Lit.wf, IntKind.min, IntKind.max, IntKind.bits, IntKind.signed]
  omega

theorem leads_below {W1 wr w6 : World} {v : Value} {n : Nat} {xs : List Value} {T : TypeId} {o : Obj} (hb : Below W1.heap.size W1 wr) (ho : wr.ownsRow W1.heap.size T 1 v n xs) (hg : (wr.alloc o).grownBy w6 v.ownBlock) : Below W1.heap.size W1 w6 :=
  (bl_alloc hb).grown hg (Nat.le_trans hb.size (bl_alloc (Below.refl _ _)).size) fun k hk => (ho.lt k hk).1

def LeadsDone (w : World) (L : List Nat) (e : Ending) (w' : World) : Prop := ∃ a c, e = .returned (.slice a L.length c) ∧ Has .i64 w' a L.length (L.map (fun j : Nat => (j : Int))) ∧ (∀ g o q, a = some ⟨g, o, q⟩ → w.heap.size ≤ g) ∧ Below w.heap.size w w'

theorem outs_at {x : StateD} {k : Nat} (hk : k < x.cs.length) {c : CaseD} (hc : x.cs[k]? = some c) : (outsP x.p)[k]? = some c.to := by
  unfold outsP
  rw [List.getElem?_append_left (by simpa [StateD.p] using hk), List.getElem?_map]
  show Option.map CaseD.to x.cs[k]? = _
  rw [hc]; rfl

theorem outs_last (x : StateD) : (outsP x.p)[x.cs.length]? = some x.els := by
  unfold outsP
  rw [List.getElem?_append_right (by simp [StateD.p])]
  simp [StateD.p]

theorem leadR_next {n : Nat} {l : List Int} {k : Nat} {tt : Int} (h : l[k]? = some tt) : leadR n (l.take (k + 1)) = addL n (leadR n (l.take k)) tt := by
  unfold leadR
  rw [List.take_add_one, h]
  simp

set_option maxHeartbeats 16000000 in
set_option maxRecDepth 20000 in
theorem leads_any {d : PlanD} {w : World} {i : Nat} {x : StateD} (hl : d.lie w) (hi : i < d.states.n) (hx : d.ss[i]? = some x) (hok : StateOk d.p i x.p) (hn8 : d.states.n ≤ 8) :
    Calls Tryz.prog 95 #[d.v, .int .i64 i] w (LeadsDone w (leadR d.states.n (outsP x.p))) := by
  have en : d.p.ss.length = d.states.n := by simp [PlanD.p, hl.ss.1]
  obtain ⟨W1, hW⟩ : ∃ W1, W1 = w.alloc (.cells #[.slice d.heads.a d.heads.n d.heads.c, .slice d.mta.a d.mta.n d.mta.c, .slice d.states.a d.states.n d.states.c, .slice d.acts.a d.acts.n d.acts.c, .slice d.tabs.a d.tabs.n d.tabs.c, .slice d.nodes.a d.nodes.n d.nodes.c, .slice d.out.a d.out.n d.out.c] 29) := ⟨_, rfl⟩
  obtain ⟨s, es⟩ : ∃ s, s = w.heap.size := ⟨_, rfl⟩
  have hb1 : Below w.heap.size w W1 := by rw [hW]; exact bl_alloc (Below.refl _ _)
  have hs2 : W1.cell? ⟨s, 2, none⟩ = some (.slice d.states.a d.states.n d.states.c) := by rw [hW, es]; exact (World.cell?_alloc_at _ _ _ _ rfl).trans rfl
  obtain ⟨sg, so, x', ea, hx', hp⟩ := row_at (hl.step hb1).ss hi
  obtain rfl : x = x' := by rw [hx] at hx'; exact Option.some.inj hx'
  rw [ea] at hs2
  obtain ⟨_, _, _, ⟨k3, _⟩, ⟨k4, _⟩, hcs⟩ := hp
  have hcl := hcs.1
  have few : x.cs.length ≤ 4 := hok.few
  obtain ⟨ca, eca⟩ : ∃ ca, x.cases.a = ca := ⟨_, rfl⟩
  rw [eca] at k3
  have HCA := hid eca
  have HCS := hid hcs
  have HN8 := hid hn8
  have HCL := hid hcl
  have HB1 := hid hb1
  have EW := hid hW
  have ES := hid es
  have HS2 := hid hs2
  have HK3 := hid k3
  have HK4 := hid k4
  have HOUT : Hid (∀ tt ∈ outsP x.p, tt = 1000 ∨ tt = 1001 ∨ (0 ≤ tt ∧ tt < (d.states.n : Int))) := fun tt hto => by
    rcases hok.out tt hto with h | h | h
    · exact .inl h
    · exact .inr (.inl h)
    · exact .inr (.inr (by omega))
  have hii : (i : Int) < (d.states.n : Int) := by omega
  have hi0 : (0 : Int) ≤ (i : Int) := by omega
  have hcn : x.cases.n ≤ 4 := by omega
  have HFE : Hid (LeadsDone w (leadR d.states.n (outsP x.p)) = LeadsDone w (leadR d.states.n ((outsP x.p).take (x.cases.n + 1)))) := by
    show _ = _
    rw [List.take_of_length_le (by unfold outsP; simp [StateD.p]; omega)]
  rw [HFE.out]
  clear hl hi hx hok hn8 en hW es hb1 hs2 hx' ea hcs hcl few eca k3 k4 HFE
  go_enter Tryz.func95, Tryz.ntmps95
  go_wp2
  rw [← EW.out, ← ES.out]
  clear EW ES
  go_loopw [6, 5, 7] (fun q6 q5 _ wr => ∃ (k : Nat) (L : List Nat) (la : Option Addr) (lc : Nat), k ≤ x.cases.n + 1 ∧ q6 = .int .i64 k ∧ q5 = .slice la L.length lc ∧ Hid (L = leadR d.states.n ((outsP x.p).take k)) ∧ Hid (wr.ownsRow W1.heap.size 3 1 (.slice la L.length lc) L.length (II (L.map (fun j : Nat => (j : Int))))) ∧ Hid (Below W1.heap.size W1 wr)) (fun q6 _ _ _ => x.cases.n + 1 - (intOf q6).toNat)
  case atStart => exact ⟨0, [], none, 0, Nat.zero_le _, rfl, rfl, rfl, World.ownsRow_nil _ _ _ _, Below.refl _ _⟩
  case round =>
    obtain ⟨k, L, la, lc, hk, rfl, rfl, HL, HO, HB⟩ := hrel
    have y2 := cell_keep HS2.out HB.out
    have y3 := cell_keep HK3.out HB.out
    have y4 := cell_keep HK4.out HB.out
    have HLL : Hid (L.length ≤ 9) := by
      show L.length ≤ 9
      rw [HL.out]
      have h1 := leadR_nodup d.states.n ((outsP x.p).take k)
      have h2 : ∀ j ∈ leadR d.states.n ((outsP x.p).take k), j < 9 := fun j hj => by obtain ⟨_, _, _, h⟩ := mem_leadR.1 hj; have := HN8.out; omega
      exact nodup_le h1 h2
    have HIN : Hid (∀ w', Below W1.heap.size W1 w' → ∀ y : Int, Calls Tryz.prog 91 #[.slice la L.length lc, .int .i64 y] wr fun e w'' => e = .returned (.bool (decide (y ∈ L.map (fun j : Nat => (j : Int))))) ∧ w'' = wr) := fun _ _ y => in_any la L.length lc _ y wr (by have := HLL.out; omega) (by
      have := has_ownI HO.out (nat_wf (k := 9) (fun j hj => by
        rw [HL.out] at hj
        obtain ⟨_, _, _, h⟩ := mem_leadR.1 hj; have := HN8.out; omega))
      exact this)
    have HAP : Hid (∀ t : Nat, ∃ g6 cap6 w6, (Builtin.append_ #[23, 23] 23 #[.slice la L.length lc, .slice (some ⟨wr.heap.size, 0, none⟩) 1 1]).run Tryz.prog (wr.alloc (.cells #[.int .i64 (t : Int)] 3)) = .ok (.slice (some ⟨g6, 0, none⟩) (L.length + 1) cap6) w6 ∧ w6.ownsRow W1.heap.size 3 1 (.slice (some ⟨g6, 0, none⟩) (L.length + 1) cap6) (L.length + 1) (II ((L ++ [t]).map (fun j : Nat => (j : Int)))) ∧ Below W1.heap.size W1 w6) := fun t => by
      have BB1 : Below wr.heap.size wr (wr.alloc (.cells #[.int .i64 (t : Int)] 3)) := bl_alloc (Below.refl _ _)
      obtain ⟨g6, cap6, w6, hrun6, ho6, hg6, hn6⟩ := run_appK (w := wr.alloc (.cells #[.int .i64 (t : Int)] 3)) (ad := ⟨wr.heap.size, 0, none⟩) (m := 1) (c := 1) (news := [.int .i64 (t : Int)]) 23 Tryz.underlying23 Tryz.infoInt rfl (by decide) (owns_belowK HO.out BB1) rfl src_of (by intro u hu; simp only [List.mem_cons, List.not_mem_nil, or_false] at hu; subst hu; rfl) (by decide) (by have := HLL.out; unfold maxLen; omega) (by have := HLL.out; omega) (by have := HB.out.size; have := BB1.size; omega)
      refine ⟨g6, cap6, w6, hrun6, ?_, ?_⟩
      · rw [show II ((L ++ [t]).map (fun j : Nat => (j : Int))) = II (L.map (fun j : Nat => (j : Int))) ++ [.int .i64 (t : Int)] by simp [II]]
        exact ho6
      · exact leads_below HB.out HO.out hg6
    have HSK : Hid (∀ {tt : Int}, (outsP x.p)[k]? = some tt → (¬ tgtN d.states.n tt ≤ d.states.n ∨ tgtN d.states.n tt ∈ L) → L = leadR d.states.n ((outsP x.p).take (k + 1))) := fun {tt} h1 h2 => by
      rw [leadR_next h1, ← HL.out]
      unfold addL
      rw [if_neg (fun h => h2.elim (fun a => a h.1) (fun a => h.2 a))]
    have HAD : Hid (∀ {tt : Int}, (outsP x.p)[k]? = some tt → tgtN d.states.n tt ≤ d.states.n → tgtN d.states.n tt ∉ L → L ++ [tgtN d.states.n tt] = leadR d.states.n ((outsP x.p).take (k + 1))) := fun {tt} h1 h2 h3 => by
      rw [leadR_next h1, ← HL.out]
      unfold addL
      rw [if_pos ⟨h2, h3⟩]
    by_cases hkk : k ≤ x.cases.n
    · have hki : (k : Int) ≤ (x.cases.n : Int) := by omega
      by_cases hlt : k < x.cases.n
      · have hkl : (k : Int) < (x.cases.n : Int) := by omega
        obtain ⟨cg, co, c, eca, hcj, hcp⟩ := row_at (HCS.out.step CaseD.keeps HB.out) hlt
        obtain rfl : ca = some ⟨cg, co, none⟩ := by rw [← HCA.out]; exact eca
        have q2 := hcp.2.2.1
        have hat := outs_at (by rw [HCL.out]; exact hlt) hcj
        have hto3 := HOUT.out c.to (List.mem_of_getElem? hat)
        have HSK := hid (HSK.out hat)
        have HAD := hid (HAD.out hat)
        generalize c.to = tt at *
        clear hcp hcj hat eca

        rcases hto3 with hto3 | hto3 | hto3
        · -- Accept
          subst hto3
          have ht : tgtN d.states.n 1000 = d.states.n := by unfold tgtN; rw [if_pos rfl]
          by_cases hin : d.states.n ∈ L
          · have RN := hid (HSK.out (.inr (by rw [ht]; exact hin)))
            have HI := hid (HIN.out wr HB.out (d.states.n : Int))
            rw [decide_eq_true (show (d.states.n : Int) ∈ L.map (fun j : Nat => (j : Int)) from List.mem_map.2 ⟨_, hin, rfl⟩)] at HI
            clear HAP HSK HIN hin
            go_wp2_with fail
            refine HI.out.mono ?_
            rintro e w5 ⟨rfl, rfl⟩
            clear HI
            go_wp2
            go_roundw
            case rel => exact ⟨k + 1, _, _, _, by omega, by go_num, rfl, RN, HO, HB⟩
            case measure => simp [intOf]; omega
          · have HI := hid (HIN.out wr HB.out (d.states.n : Int))
            rw [decide_eq_false (show ¬ (d.states.n : Int) ∈ L.map (fun j : Nat => (j : Int)) from fun h => hin (by obtain ⟨j, hj, e⟩ := List.mem_map.1 h; have h9 : j = d.states.n := (by omega); exact h9 ▸ hj))] at HI
            obtain ⟨g6, cap6, w6, hrun6, ho6, hb6⟩ := HAP.out d.states.n
            have RN := hid (HAD.out (by rw [ht]; exact Nat.le_refl _) (by rw [ht]; exact hin))
            rw [ht] at RN
            have RO := hid ho6
            have RB := hid hb6
            clear HAP HSK HIN HAD hin ho6 hb6
            go_wp2_with fail
            refine HI.out.mono ?_
            rintro e w5 ⟨rfl, rfl⟩
            clear HI
            go_wp2_with (at_builtin; refine append_run rfl _ _ rfl rfl rfl hrun6 ?_)
            go_roundw
            case rel => exact ⟨k + 1, L ++ [d.states.n], _, _, by omega, by go_num, by rw [List.length_append, List.length_singleton], RN, by rw [List.length_append, List.length_singleton]; exact RO, RB⟩
            case measure => simp [intOf]; omega
        · -- Reject
          subst hto3
          have RN := hid (HSK.out (.inl (by unfold tgtN; rw [if_neg (by decide)]; show ¬ 1001 ≤ d.states.n; have := HN8.out; omega)))
          have h1001 : ¬ (1001 : Int) ≤ (d.states.n : Int) := by have := HN8.out; omega
          clear HAP HSK HIN
          go_wp2
          go_roundw
          case rel => exact ⟨k + 1, _, _, _, by omega, by go_num, rfl, RN, HO, HB⟩
          case measure => simp [intOf]; omega
        · -- a state
          obtain ⟨t, rfl⟩ : ∃ t : Nat, tt = (t : Int) := ⟨tt.toNat, by omega⟩
          have hne : ((t : Int) == 1000) = false := by rw [beq_eq_false_iff_ne]; have := HN8.out; omega
          have ht : tgtN d.states.n (t : Int) = t := by unfold tgtN; rw [if_neg (by have := HN8.out; omega)]; exact Int.toNat_natCast t
          have hle : (t : Int) ≤ (d.states.n : Int) := by omega
          have HTL := hid hto3
          clear hto3
          by_cases hin : t ∈ L
          · have RN := hid (HSK.out (.inr (by rw [ht]; exact hin)))
            have HI := hid (HIN.out wr HB.out (t : Int))
            rw [decide_eq_true (show (t : Int) ∈ L.map (fun j : Nat => (j : Int)) from List.mem_map.2 ⟨_, hin, rfl⟩)] at HI
            clear HAP HSK HIN hin
            go_wp2_with fail
            refine HI.out.mono ?_
            rintro e w5 ⟨rfl, rfl⟩
            clear HI
            go_wp2
            go_roundw
            case rel => exact ⟨k + 1, _, _, _, by omega, by go_num, rfl, RN, HO, HB⟩
            case measure => simp [intOf]; omega
          · have HI := hid (HIN.out wr HB.out (t : Int))
            rw [decide_eq_false (show ¬ (t : Int) ∈ L.map (fun j : Nat => (j : Int)) from fun h => hin (by obtain ⟨j, hj, e⟩ := List.mem_map.1 h; have h9 : j = t := (by omega); exact h9 ▸ hj))] at HI
            obtain ⟨g6, cap6, w6, hrun6, ho6, hb6⟩ := HAP.out t
            have RN := hid (HAD.out (by rw [ht]; have := HTL.out; omega) (by rw [ht]; exact hin))
            rw [ht] at RN
            have RO := hid ho6
            have RB := hid hb6
            clear HAP HSK HIN HAD hin ho6 hb6
            go_wp2_with fail
            refine HI.out.mono ?_
            rintro e w5 ⟨rfl, rfl⟩
            clear HI
            go_wp2_with (at_builtin; refine append_run rfl _ _ rfl rfl rfl hrun6 ?_)
            go_roundw
            case rel => exact ⟨k + 1, L ++ [t], _, _, by omega, by go_num, by rw [List.length_append, List.length_singleton], RN, by rw [List.length_append, List.length_singleton]; exact RO, RB⟩
            case measure => simp [intOf]; omega

      · have hkl : ¬ (k : Int) < (x.cases.n : Int) := by omega
        have hat : (outsP x.p)[k]? = some x.els := by have := outs_last x; rw [HCL.out] at this; rw [show k = x.cases.n by omega]; exact this
        have hto3 := HOUT.out x.els (List.mem_of_getElem? hat)
        have HSK := hid (HSK.out hat)
        have HAD := hid (HAD.out hat)
        generalize x.els = tt at *
        clear hat

        rcases hto3 with hto3 | hto3 | hto3
        · -- Accept
          subst hto3
          have ht : tgtN d.states.n 1000 = d.states.n := by unfold tgtN; rw [if_pos rfl]
          by_cases hin : d.states.n ∈ L
          · have RN := hid (HSK.out (.inr (by rw [ht]; exact hin)))
            have HI := hid (HIN.out wr HB.out (d.states.n : Int))
            rw [decide_eq_true (show (d.states.n : Int) ∈ L.map (fun j : Nat => (j : Int)) from List.mem_map.2 ⟨_, hin, rfl⟩)] at HI
            clear HAP HSK HIN hin
            go_wp2_with fail
            refine HI.out.mono ?_
            rintro e w5 ⟨rfl, rfl⟩
            clear HI
            go_wp2
            go_roundw
            case rel => exact ⟨k + 1, _, _, _, by omega, by go_num, rfl, RN, HO, HB⟩
            case measure => simp [intOf]; omega
          · have HI := hid (HIN.out wr HB.out (d.states.n : Int))
            rw [decide_eq_false (show ¬ (d.states.n : Int) ∈ L.map (fun j : Nat => (j : Int)) from fun h => hin (by obtain ⟨j, hj, e⟩ := List.mem_map.1 h; have h9 : j = d.states.n := (by omega); exact h9 ▸ hj))] at HI
            obtain ⟨g6, cap6, w6, hrun6, ho6, hb6⟩ := HAP.out d.states.n
            have RN := hid (HAD.out (by rw [ht]; exact Nat.le_refl _) (by rw [ht]; exact hin))
            rw [ht] at RN
            have RO := hid ho6
            have RB := hid hb6
            clear HAP HSK HIN HAD hin ho6 hb6
            go_wp2_with fail
            refine HI.out.mono ?_
            rintro e w5 ⟨rfl, rfl⟩
            clear HI
            go_wp2_with (at_builtin; refine append_run rfl _ _ rfl rfl rfl hrun6 ?_)
            go_roundw
            case rel => exact ⟨k + 1, L ++ [d.states.n], _, _, by omega, by go_num, by rw [List.length_append, List.length_singleton], RN, by rw [List.length_append, List.length_singleton]; exact RO, RB⟩
            case measure => simp [intOf]; omega
        · -- Reject
          subst hto3
          have RN := hid (HSK.out (.inl (by unfold tgtN; rw [if_neg (by decide)]; show ¬ 1001 ≤ d.states.n; have := HN8.out; omega)))
          have h1001 : ¬ (1001 : Int) ≤ (d.states.n : Int) := by have := HN8.out; omega
          clear HAP HSK HIN
          go_wp2
          go_roundw
          case rel => exact ⟨k + 1, _, _, _, by omega, by go_num, rfl, RN, HO, HB⟩
          case measure => simp [intOf]; omega
        · -- a state
          obtain ⟨t, rfl⟩ : ∃ t : Nat, tt = (t : Int) := ⟨tt.toNat, by omega⟩
          have hne : ((t : Int) == 1000) = false := by rw [beq_eq_false_iff_ne]; have := HN8.out; omega
          have ht : tgtN d.states.n (t : Int) = t := by unfold tgtN; rw [if_neg (by have := HN8.out; omega)]; exact Int.toNat_natCast t
          have hle : (t : Int) ≤ (d.states.n : Int) := by omega
          have HTL := hid hto3
          clear hto3
          by_cases hin : t ∈ L
          · have RN := hid (HSK.out (.inr (by rw [ht]; exact hin)))
            have HI := hid (HIN.out wr HB.out (t : Int))
            rw [decide_eq_true (show (t : Int) ∈ L.map (fun j : Nat => (j : Int)) from List.mem_map.2 ⟨_, hin, rfl⟩)] at HI
            clear HAP HSK HIN hin
            go_wp2_with fail
            refine HI.out.mono ?_
            rintro e w5 ⟨rfl, rfl⟩
            clear HI
            go_wp2
            go_roundw
            case rel => exact ⟨k + 1, _, _, _, by omega, by go_num, rfl, RN, HO, HB⟩
            case measure => simp [intOf]; omega
          · have HI := hid (HIN.out wr HB.out (t : Int))
            rw [decide_eq_false (show ¬ (t : Int) ∈ L.map (fun j : Nat => (j : Int)) from fun h => hin (by obtain ⟨j, hj, e⟩ := List.mem_map.1 h; have h9 : j = t := (by omega); exact h9 ▸ hj))] at HI
            obtain ⟨g6, cap6, w6, hrun6, ho6, hb6⟩ := HAP.out t
            have RN := hid (HAD.out (by rw [ht]; have := HTL.out; omega) (by rw [ht]; exact hin))
            rw [ht] at RN
            have RO := hid ho6
            have RB := hid hb6
            clear HAP HSK HIN HAD hin ho6 hb6
            go_wp2_with fail
            refine HI.out.mono ?_
            rintro e w5 ⟨rfl, rfl⟩
            clear HI
            go_wp2_with (at_builtin; refine append_run rfl _ _ rfl rfl rfl hrun6 ?_)
            go_roundw
            case rel => exact ⟨k + 1, L ++ [t], _, _, by omega, by go_num, by rw [List.length_append, List.length_singleton], RN, by rw [List.length_append, List.length_singleton]; exact RO, RB⟩
            case measure => simp [intOf]; omega

    · have hki : ¬ (k : Int) ≤ (x.cases.n : Int) := by omega
      have ek : k = x.cases.n + 1 := by omega
      have HE : Hid (LeadsDone w (leadR d.states.n ((outsP x.p).take (x.cases.n + 1))) (.returned (.slice la L.length lc)) wr) := by
        show LeadsDone _ _ _ _
        rw [← ek, ← HL.out]
        exact ⟨la, lc, rfl, has_ownI HO.out (nat_wf (k := 9) (fun j hj => by
          rw [HL.out] at hj
          obtain ⟨_, _, _, h⟩ := mem_leadR.1 hj; have := HN8.out; omega)), fun g o q e => by
            subst e
            exact Nat.le_trans HB1.out.size (HO.out.lt g rfl).1, bl_step HB1.out HB.out⟩
      clear HAP HSK HAD HIN HO HB HL ek
      go_wp2
      go_ret
      exact HE.out
end Go.Proofs.YtkggocdannkdmaaGreat
