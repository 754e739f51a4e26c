/- WHAT IS LET BY STAYS SO: the walk of shuntyardlaw.GuardMore. -/
import Derived.Test.YtjmlkaciibdpaaaHBegun
import Derived.Test.YtjmlkaciibdpaaaHMono
import Derived.Test.YtjmlkaciibdpaaaGSame
namespace Go.Proofs.Ytjmlkaciibdpaaa
open Go.RowKit

theorem row_putN {w : World} {s : QSl} {S : List InsD} (h : QRow 6 InsD.lie w s S) {g off : Nat} (ha : s.a = some ⟨g, off, none⟩) {k : Nat} {x : InsD} (hx : S[k]? = some x) {v : Int} (hv : gwfU v) : QRow 6 InsD.lie (w.setCell ⟨g, off + k * 6 + 5, none⟩ (.int .u64 v)) s (S.set k { x with n := v }) := by
  have hk : k < S.length := (List.getElem?_eq_some_iff.1 hx).1
  have far : ∀ p u, p ≠ off + k * 6 + 5 → w.cell? ⟨g, p, none⟩ = some u → (w.setCell ⟨g, off + k * 6 + 5, none⟩ (.int .u64 v)).cell? ⟨g, p, none⟩ = some u := fun p u hp hu =>
    (World.cell?_setCell_other _ _ _ _ (by intro e; simp only [Addr.mk.injEq] at e; omega)).trans hu
  refine ⟨by rw [List.length_set]; exact h.1, fun i y hy => ⟨g, off, ha, ?_⟩⟩
  rw [List.getElem?_set] at hy
  by_cases e : k = i
  · subst e
    rw [if_pos rfl, if_pos hk] at hy
    cases hy
    obtain ⟨g', off', e', hp⟩ := h.2 k x hx
    rw [ha] at e'
    cases e'
    exact ⟨⟨far _ _ (by omega) hp.1.1, hp.1.2⟩, ⟨far _ _ (by omega) hp.2.1.1, hp.2.1.2⟩, ⟨far _ _ (by omega) hp.2.2.1.1, hp.2.2.1.2⟩, ⟨far _ _ (by omega) hp.2.2.2.1.1, hp.2.2.2.1.2⟩, ⟨far _ _ (by omega) hp.2.2.2.2.1.1, hp.2.2.2.2.1.2⟩, ⟨World.cell?_setCell_same _ _ _ hp.2.2.2.2.2.1, hv⟩⟩
  · rw [if_neg e] at hy
    obtain ⟨g', off', e', hp⟩ := h.2 i y hy
    rw [ha] at e'
    cases e'
    exact ⟨⟨far _ _ (by omega) hp.1.1, hp.1.2⟩, ⟨far _ _ (by omega) hp.2.1.1, hp.2.1.2⟩, ⟨far _ _ (by omega) hp.2.2.1.1, hp.2.2.1.2⟩, ⟨far _ _ (by omega) hp.2.2.2.1.1, hp.2.2.2.1.2⟩, ⟨far _ _ (by omega) hp.2.2.2.2.1.1, hp.2.2.2.2.1.2⟩, ⟨far _ _ (by omega) hp.2.2.2.2.2.1, hp.2.2.2.2.2.2⟩⟩

theorem hfield_code (C A : Int) (w : World) : (Instr.field 30 (.agg #[.int .i64 C, .int .i64 A]) 0).run Try.prog w = .ok (.int .i64 C) w := by kernel_rfl

theorem hwf_i (n : Nat) (h : n < 1000000) : gwfI (n : Int) := by
  show (Lit.int .i64 (n : Int)).wf = true
  simp [Lit.wf, IntKind.min, IntKind.max, IntKind.bits, IntKind.signed]
  omega

/-- so many instructions have been changed -/
def mixI (K k : Nat) (cs : List InsD) : List InsD := (cs.take k).map (moreI K) ++ cs.drop k
theorem mixI_len (K k : Nat) (cs : List InsD) : (mixI K k cs).length = cs.length := by
  unfold mixI
  rw [List.length_append, List.length_map, ← List.length_append, List.take_append_drop]
theorem mixI_at {K k : Nat} {cs : List InsD} {x : InsD} (h : cs[k]? = some x) : (mixI K k cs)[k]? = some x := by
  have hk : k < cs.length := (List.getElem?_eq_some_iff.1 h).1
  unfold mixI
  rw [List.getElem?_append_right (by rw [List.length_map, List.length_take]; omega), List.length_map, List.length_take, List.getElem?_drop, show k + (k - min k cs.length) = k by omega]
  exact h
theorem mixI_next {K k : Nat} {cs : List InsD} {x : InsD} (h : cs[k]? = some x) : mixI K (k + 1) cs = (mixI K k cs).set k (moreI K x) := by
  have hk : k < cs.length := (List.getElem?_eq_some_iff.1 h).1
  have hx : cs[k] = x := (List.getElem?_eq_some_iff.1 h).2
  unfold mixI
  rw [List.take_succ_eq_append_getElem hk, List.map_append, List.map_cons, List.map_nil, hx, List.drop_eq_getElem_cons hk, hx, List.append_assoc, List.singleton_append]
  rw [List.set_append, if_neg (by rw [List.length_map, List.length_take]; omega), List.length_map, List.length_take, show k - min k cs.length = 0 by omega]
  rfl

/-- while the instructions are changed -/
structure MoreAt (W : World) (d q : ProgD) (nb cg K k : Nat) (w : World) : Prop where
  box : BoxC w nb #[.int .i64 q.slots, .slice q.tabs.a q.tabs.n q.tabs.c, .slice q.code.a q.code.n q.code.c] 25
  row : ∃ cur, w.heap[cg]? = some (.cells cur 36 (0, 0))
  lie : ProgD.lie { q with cs := mixI K k d.cs } w
  bel : Below W.heap.size W w

set_option maxHeartbeats 8000000 in
set_option maxRecDepth 20000 in
theorem guardmore_main (d : ProgD) (by' : Int) (hby : gwfI by') (W : World) (hd : d.lie W) : Calls Try.prog 4 #[d.v, .int .i64 by'] W (TellB true W) := by
  obtain ⟨W1, hW1⟩ : ∃ W1, W1 = W.alloc (.cells #[.int .i64 d.slots, .slice d.tabs.a d.tabs.n d.tabs.c, .slice d.code.a d.code.n d.code.c] 25) := ⟨_, rfl⟩
  obtain ⟨pb, hpb⟩ : ∃ b, b = W.heap.size := ⟨_, rfl⟩
  have PB : Hid (PBox d W1 pb) := by rw [hW1, hpb]; exact pbox_new d W
  have b1 : Below W.heap.size W W1 := by rw [hW1]; exact bl_alloc (Below.refl _ _)
  have B1 := hid b1
  have EW := hid hW1
  have EP := hid hpb
  have HBEG := hid (hbegun W1)
  have HGR := hid (fun w => ggreat d w)
  have HD := hid hd
  dsimp only [ProgD.v] at HGR ⊢
  clear hW1 hpb b1 hd
  go_enter Try.func4, Try.ntmps4
  go_wp2_with fail
  rw [← EW.out, ← EP.out]
  refine HBEG.out.mono ?_
  rintro e w2 ⟨rfl, hb2⟩
  have B2 := hid (bl_step B1.out hb2)
  have PB2 := hid (PB.out.step hb2)
  obtain ⟨p0, p1, p2⟩ := PB2.out
  have hpl : pb < w2.heap.size := World.block_lt_of_cell? _ _ p0
  clear HBEG EW EP hb2 B1 PB
  go_wp2_with fail
  refine (HGR.out _).mono ?_
  rintro e w3 ⟨rfl, hb3⟩
  have B3 := hid (bl_step B2.out hb3)
  have PB3 := hid (PB2.out.step hb3)
  clear HGR hb3 B2 PB2 p0 p1 p2 hpl
  by_cases hg : (decide (300 < (d.tabs.n : Int)) || decide (65000 < (d.code.n : Int))) = true
  · rw [hg]
    go_wp2
    go_ret
    exact ⟨rfl, B3.out⟩
  have hg' : (decide (300 < (d.tabs.n : Int)) || decide (65000 < (d.code.n : Int))) = false := by simpa using hg
  rw [hg']
  have hsm : d.small := by
    simp only [Bool.or_eq_true, decide_eq_true_eq, not_or] at hg
    exact ⟨by omega, by omega⟩
  have HSM := hid hsm
  clear hg hg' hsm
  have HCK := hid (hcheck d w3 (HD.out.step B3.out) HSM.out)
  dsimp only [ProgD.v, TellF] at HCK
  obtain ⟨p0, p1, p2⟩ := PB3.out
  have hpl : pb < w3.heap.size := World.block_lt_of_cell? _ _ p0
  obtain ⟨F, hF⟩ : ∃ F, F = guardW d.slots d.ts d.cs := ⟨_, rfl⟩
  rw [← hF] at HCK
  have EF := hid hF
  clear hF
  obtain ⟨fc, fa⟩ := F
  have hfd := fun w => hfield_code fc fa w
  go_wp2_with fail
  refine HCK.out.mono ?_
  rintro e w4 ⟨rfl, hb4⟩
  have B4 := hid (bl_step B3.out hb4)
  have PB4 := hid (PB3.out.step hb4)
  clear HCK hb4 B3 PB3 p0 p1 p2 hpl
  by_cases hf0 : fc = 0
  case neg =>
    have hfb : (fc != 0) = true := by simpa using hf0
    go_wp2
    go_ret
    exact ⟨rfl, B4.out⟩
  subst hf0
  have HZ : Hid ((guardW d.slots d.ts d.cs).1 = 0) := by
    show _ = _
    rw [← EF.out]
  clear EF
  have hchk : (chkW d.slots d.ts d.cs).1 = 0 := by
    have := HZ.out
    unfold guardW at this
    by_cases h1 : (chkW d.slots d.ts d.cs).1 ≠ 0
    · rw [if_pos h1] at this; exact absurd this h1
    · simpa using h1
  have HOK : Hid (∀ i x, d.cs[i]? = some x → GOk d.slots d.ts d.cs.length i x) := fun i x hx => gok HD.out.wfs hchk hx
  have HFT := hid (chk_fit HD.out.wfs hchk)
  obtain ⟨U, hU⟩ : ∃ U : Nat, IntKind.u64.wrap by' = U := ⟨(IntKind.u64.wrap by').toNat, by
    have := bounds_i64 hby
    by_cases h : 0 ≤ by'
    · rw [gwrap_u _ h (by omega)]; omega
    · have : IntKind.u64.wrap by' = by' + 18446744073709551616 := by
        simp only [IntKind.wrap, IntKind.signed, IntKind.bits]
        simp
        omega
      omega⟩
  obtain ⟨K, hK⟩ : ∃ K, K = U % 700 := ⟨_, rfl⟩
  have hrem : (U : Int).tmod 700 = (K : Int) := by
    rw [hK, Int.tmod_eq_emod_of_nonneg (by omega)]
    omega
  have hK7 : K < 700 := by omega
  have HOWN := hid (rown2 d w4 (HD.out.step B4.out) HSM.out)
  obtain ⟨p0, p1, p2⟩ := PB4.out
  have hpl : pb < w4.heap.size := World.block_lt_of_cell? _ _ p0
  dsimp only [ProgD.v] at HOWN
  clear hK hchk
  go_wp2_with fail
  refine HOWN.out.mono ?_
  rintro e w5 ⟨q, rfl, hq1, hq2, hq3, hql, hqs, hb5, hown⟩
  have hqn : q.code.n = d.code.n := by rw [← hql.c.1, hq3]; exact HD.out.c.1
  have hqp : 0 < q.code.n := by
    have := HFT.out.nc.1
    rw [hqn, ← HD.out.c.1]
    omega
  obtain ⟨cg, co, _, eca, _, _⟩ := grow_at hql.c hqp
  obtain ⟨W6, hW6⟩ : ∃ W, W = w5.alloc (.cells #[.int .i64 q.slots, .slice q.tabs.a q.tabs.n q.tabs.c, .slice q.code.a q.code.n q.code.c] 25) := ⟨_, rfl⟩
  obtain ⟨nb, hnb⟩ : ∃ b, b = w5.heap.size := ⟨_, rfl⟩
  have b6 : Below w5.heap.size w5 W6 := by rw [hW6]; exact bl_alloc (Below.refl _ _)
  obtain ⟨⟨cur, hcur⟩, hcgw⟩ := hown.1 _ eca
  have hcgl : cg < w5.heap.size := (Array.getElem?_eq_some_iff.1 hcur).1
  have HM0 : Hid (MoreAt W d q nb cg K 0 W6) := by
    refine ⟨by rw [hW6, hnb]; exact boxc_new _ _ _ rfl, ⟨cur, (b6.block cg hcgl).trans hcur⟩, ?_, bl_step (bl_step B4.out hb5) b6⟩
    have e : mixI K 0 d.cs = q.cs := by unfold mixI; rw [hq3]; rfl
    rw [e]
    exact hql.step b6
  have HTC : Hid (∀ ad, q.tabs.a = some ad → 0 < q.tabs.n → ad.block ≠ cg) := fun ad e _ h => by
    obtain ⟨⟨cur2, h2⟩, _⟩ := hown.2 ad e
    rw [h, hcur] at h2
    simp only [Option.some.injEq, Obj.cells.injEq] at h2
    exact absurd h2.2.1 (by decide)
  have HQ : Hid (q.slots = d.slots ∧ q.ts = d.ts ∧ q.small ∧ W.heap.size ≤ cg ∧ W.heap.size ≤ nb ∧ q.code.n = d.cs.length) := ⟨hq1, hq2, hqs, Nat.le_trans B4.out.size hcgw, by rw [hnb]; exact (bl_step B4.out hb5).size, by rw [hqn]; exact HD.out.c.1.symm⟩
  have hncg : ¬ cg = nb := by omega
  have HTN : Hid ((∀ ad, q.tabs.a = some ad → 0 < q.tabs.n → ad.block ≠ nb) ∧ ∀ ad, q.code.a = some ad → 0 < q.code.n → ad.block ≠ nb) := ⟨fun ad e n0 => by have := hql.low.1 ad e n0; omega, fun ad e n0 => by have := hql.low.2 ad e n0; omega⟩
  have HECA := hid eca
  have E6 := hid hW6
  have EN := hid hnb
  have hn65 : q.code.n ≤ 65535 := hqs.2
  clear eca HOWN hq1 hq2 hq3 hql hqs hb5 hown hqn hqp hW6 hnb b6 hcur hcgw hcgl B4 PB4 p0 p1 p2 hpl hU hrem
  go_upto_region 9 with fail
  rw [← E6.out, ← EN.out]
  clear E6 EN
  go_wp2
  haveI inhB : ∀ w : World, Inhabited (BelowBy w) := fun w => ⟨⟨w, Below.refl _ _⟩⟩
  go_loopw [7] (fun v wr => ∃ k : Nat, k ≤ q.code.n ∧ v = .int .i64 k ∧ Hid (MoreAt W d q nb cg K k wr)) (fun v _ => q.code.n - (intOf v).toNat)
  case atStart => exact ⟨0, Nat.zero_le _, rfl, HM0⟩
  case round =>
    obtain ⟨k, hk, rfl, J⟩ := hrel
    clear HM0
    have n2 : wr.cell? ⟨nb, 2, none⟩ = some (.slice q.code.a q.code.n q.code.c) := J.out.box.cell 2
    have hnl := J.out.box.lt
    by_cases hlt : k < q.code.n
    · rw [HECA.out] at n2
      have hki : (k : Int) < (q.code.n : Int) := by omega
      have hkd : k < d.cs.length := by rw [← HQ.out.2.2.2.2.2]; exact hlt
      have hx : d.cs[k]? = some d.cs[k] := List.getElem?_eq_getElem hkd
      generalize d.cs[k] = x at *
      have hgx := HOK.out k x hx
      have hmx : (mixI K k d.cs)[k]? = some x := mixI_at hx
      obtain ⟨cg', co', x', ea', hx', hp⟩ := grow_at J.out.lie.c (i := k) hlt
      have ea2 : q.code.a = some ⟨cg', co', none⟩ := ea'
      rw [HECA.out] at ea2
      simp only [Option.some.injEq, Addr.mk.injEq, and_true] at ea2
      obtain ⟨rfl, rfl⟩ := ea2
      obtain rfl : x' = x := Option.some.inj (hx'.symm.trans hmx)
      have p0 := hp.1.1
      have p5 := hp.2.2.2.2.2.1
      have hcl : cg < wr.heap.size := World.block_lt_of_cell? _ _ p0
      have HNX : Hid (∀ v : Int, gwfU v → moreI K x' = { x' with n := v } → ∀ wq, Below wr.heap.size wr wq → MoreAt W d q nb cg K (k + 1) (wq.setCell ⟨cg, co + k * 6 + 5, none⟩ (.int .u64 v))) := fun v hv e wq hb => by
        obtain ⟨cur, hcur⟩ := J.out.row
        have hlie := J.out.lie.step hb
        refine ⟨(J.out.box.step hb).far hncg _ _, ⟨cur.set! (co + k * 6 + 5) (.int .u64 v), ?_⟩, ?_, hput1 (bl_step J.out.bel hb) HQ.out.2.2.2.1 _ _⟩
        · exact BoxC.put ((hb.block cg hcl).trans hcur) _ _
        · rw [mixI_next hx, e]
          have hr := row_putN hlie.c HECA.out hmx hv
          have ht : QRow 3 ShapeD.lie (wq.setCell ⟨cg, co + k * 6 + 5, none⟩ (.int .u64 v)) q.tabs q.ts := by
            refine ⟨hlie.t.1, fun i y hy => ?_⟩
            obtain ⟨g, off, e1, hp1⟩ := hlie.t.2 i y hy
            have hi : i < q.ts.length := (List.getElem?_eq_some_iff.1 hy).1
            have hne : g ≠ cg := HTC.out _ e1 (by have := hlie.t.1; dsimp only at this; omega)
            have hbk : (wq.setCell ⟨cg, co + k * 6 + 5, none⟩ (.int .u64 v)).heap[g]? = wq.heap[g]? := (HRn.put cg wq _ _).block g (World.block_lt_of_cell? _ _ hp1.1.1) hne
            exact ⟨g, off, e1, hp1.1.blk hbk, hp1.2.1.blk hbk, hp1.2.2.blk hbk⟩
          exact ⟨hlie.ws, hlie.n1, hlie.n2, ht, hr⟩
      have HSK : Hid (moreI K x' = x' → MoreAt W d q nb cg K (k + 1) wr) := fun e => by
        refine ⟨J.out.box, J.out.row, ?_, J.out.bel⟩
        rw [mixI_next hx, e]
        have : (mixI K k d.cs).set k x' = mixI K k d.cs := by
          have hk2 : k < (mixI K k d.cs).length := (List.getElem?_eq_some_iff.1 hmx).1
          rw [← (List.getElem?_eq_some_iff.1 hmx).2, List.set_getElem_self]
        rw [this]
        exact J.out.lie
      have HFZ : Hid (∀ wq, Below wr.heap.size wr wq → wq.frozen? ⟨cg, co + k * 6 + 5, none⟩ = false) := fun wq hb => by
        obtain ⟨cur, hcur⟩ := J.out.row
        exact BoxC.fz (BoxC.step hcur hb) _
      by_cases q9 : x'.op = 9
      · have hn := hgx.n.1
        have hn6 := hgx.room q9
        obtain ⟨N, hN⟩ : ∃ N : Nat, x'.n = N := ⟨x'.n.toNat, by omega⟩
        have hw1 : IntKind.u64.wrap ((N : Int) + (K : Int)) = ((N + K : Nat) : Int) := by rw [gwrap_u _ (by omega) (by omega)]; omega
        obtain ⟨S, hS⟩ : ∃ S, S = N + K := ⟨_, rfl⟩
        rw [← hS] at hw1
        rw [hN] at p5
        rw [q9] at p0
        have n2' := cell_by n2
        have p5' := cell_by p5
        by_cases h6 : 600 < S
        · have h6i : (600 : Int) < (S : Int) := by omega
          have HE := hid (HNX.out 600 (by decide) (by
            unfold moreI
            rw [if_pos q9, hN, show min ((N : Int) + (K : Int)) 600 = 600 by omega]))
          clear HNX HSK hx hmx hx' hp ea' hgx J q9 hn hn6 hN hS
          go_wp2_with fail
          refine wp_region_cutQ 14 (by kernel_rfl) (by kernel_rfl) ?_
          simp only [List.take_succ_cons, List.take_zero]
          repeat (go_big_quiet_step (fail))
          refine wpQuiet_nil ?_
          intro wq hw'
          obtain ⟨⟨_, hwq⟩, hw''⟩ := hw'
          subst hw''
          simp only [List.drop_succ_cons, List.drop_zero]
          have f0 := HFZ.out wq hwq
          replace p5 := cell_keep p5 hwq
          have hlq : cg < wq.heap.size := World.block_lt_of_cell? _ _ p5
          have HE2 := hid (HE.out wq hwq)
          clear hwq HE HFZ n2 n2' p5' p0 hnl hcl
          go_wp2
          go_roundw
          case rel => exact ⟨k + 1, by omega, by go_num, HE2⟩
          case measure => simp [intOf]; omega
        · have h6i : ¬ (600 : Int) < (S : Int) := by omega
          have hle : (S : Int) ≤ 600 := by omega
          have HE := hid (HNX.out (S : Int) (wf_u64 _ ⟨by omega, by omega⟩) (by
            unfold moreI
            rw [if_pos q9, hN, show min ((N : Int) + (K : Int)) 600 = (S : Int) by omega]))
          clear HNX HSK hx hmx hx' hp ea' hgx J q9 hn hn6 hN hS
          go_wp2_with fail
          refine wp_region_cutQ 14 (by kernel_rfl) (by kernel_rfl) ?_
          simp only [List.take_succ_cons, List.take_zero]
          repeat (go_big_quiet_step (fail))
          refine wpQuiet_nil ?_
          intro wq hw'
          obtain ⟨⟨_, hwq⟩, hw''⟩ := hw'
          subst hw''
          simp only [List.drop_succ_cons, List.drop_zero]
          have f0 := HFZ.out wq hwq
          replace p5 := cell_keep p5 hwq
          have hlq : cg < wq.heap.size := World.block_lt_of_cell? _ _ p5
          have HE2 := hid (HE.out wq hwq)
          clear hwq HE HFZ n2 n2' p5' p0 hnl hcl
          go_wp2
          go_roundw
          case rel => exact ⟨k + 1, by omega, by go_num, HE2⟩
          case measure => simp [intOf]; omega
      · have HE := hid (HSK.out (moreI_same q9))
        have hb9 : (x'.op == 9) = false := by simpa using q9
        generalize x'.op = op at *
        clear HNX HSK HFZ hx hmx hx' hp ea' hgx J p5
        go_wp2
        go_roundw
        case rel => exact ⟨k + 1, by omega, by go_num, HE⟩
        case measure => simp [intOf]; omega
    · have hki : ¬ (k : Int) < (q.code.n : Int) := by omega
      obtain rfl : k = q.code.n := by omega
      have hfin : mixI K q.code.n d.cs = d.cs.map (moreI K) := by
        unfold mixI
        rw [HQ.out.2.2.2.2.2, List.take_length, List.drop_length, List.append_nil]
      have hsl := HFT.out.s
      obtain ⟨N, hN⟩ : ∃ N : Nat, q.slots = N := ⟨q.slots.toNat, by rw [HQ.out.1]; omega⟩
      have hN96 : N ≤ 96 := by have := HQ.out.1; omega
      have hku : IntKind.i64.wrap (K : Int) = (K : Int) := gwrap_i _ (by omega) (by omega)
      have hw1 : IntKind.i64.wrap ((N : Int) + (K : Int)) = ((N + K : Nat) : Int) := by rw [gwrap_i _ (by omega) (by omega)]; omega
      obtain ⟨S, hS⟩ : ∃ S, S = N + K := ⟨_, rfl⟩
      rw [← hS] at hw1
      have n0 : wr.cell? ⟨nb, 0, none⟩ = some (.int .i64 q.slots) := J.out.box.cell 0
      have n1 : wr.cell? ⟨nb, 1, none⟩ = some (.slice q.tabs.a q.tabs.n q.tabs.c) := J.out.box.cell 1
      have f0 := J.out.box.fz 0
      rw [hN] at n0
      obtain ⟨M, hM⟩ : ∃ M : Nat, M = min S 96 := ⟨_, rfl⟩
      have HCK : Hid (Calls Try.prog 8 #[.agg #[.int .i64 (M : Int), .slice q.tabs.a q.tabs.n q.tabs.c, .slice q.code.a q.code.n q.code.c]] (wr.setCell ⟨nb, 0, none⟩ (.int .i64 (M : Int))) fun e w' => (∃ a, e = .returned (.agg #[.int .i64 0, .int .i64 a])) ∧ Below W.heap.size W w') := by
        have hl0 := J.out.lie
        rw [hfin] at hl0
        have hr0 := HRn.put nb wr 0 (.int .i64 (M : Int))
        have hl1 : ProgD.lie ⟨(M : Int), q.tabs, q.ts, q.code, d.cs.map (moreI K)⟩ wr := ⟨hwf_i M (by omega), hl0.n1, hl0.n2, hl0.t, hl0.c⟩
        have hl2 := hr0.lie hl1 (fun ad e n0 => ⟨HTN.out.1 ad e n0, hl1.low.1 ad e n0⟩) (fun ad e n0 => ⟨HTN.out.2 ad e n0, hl1.low.2 ad e n0⟩)
        have hg := guardW_more HD.out.wfs K HZ.out
        rw [← HQ.out.1, hN, ← HQ.out.2.1, show min ((N : Int) + (K : Int)) 96 = (M : Int) by omega] at hg
        refine (hcheck _ _ hl2 HQ.out.2.2.1).mono fun e w' h => ?_
        obtain ⟨h1, h2⟩ := h
        dsimp only at h1
        rw [hg] at h1
        exact ⟨⟨_, h1⟩, (hput1 J.out.bel HQ.out.2.2.2.2.1 _ _).trans (h2.mono (hput1 J.out.bel HQ.out.2.2.2.2.1 _ _).size)⟩
      have hfd2 := fun a w => hfield_code 0 a w
      by_cases h6 : 96 < S
      · have h6i : (96 : Int) < (S : Int) := by omega
        obtain rfl : M = 96 := by omega
        clear J hM hfin hS hN hN96 hsl
        go_wp2_with fail
        refine HCK.out.mono ?_
        rintro e w8 ⟨⟨a8, rfl⟩, hb8⟩
        have B8 := hid hb8
        clear hb8 HCK n0 n1 n2 f0 hnl
        go_wp2
        go_ret
        exact ⟨rfl, B8.out⟩
      · have h6i : ¬ (96 : Int) < (S : Int) := by omega
        have hle : (S : Int) ≤ 96 := by omega
        obtain rfl : M = S := by omega
        clear J hM hfin hS hN hN96 hsl
        go_wp2_with fail
        refine HCK.out.mono ?_
        rintro e w8 ⟨⟨a8, rfl⟩, hb8⟩
        have B8 := hid hb8
        clear hb8 HCK n0 n1 n2 f0 hnl
        go_wp2
        go_ret
        exact ⟨rfl, B8.out⟩
end Go.Proofs.Ytjmlkaciibdpaaa
