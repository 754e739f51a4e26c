/- The walk of the law CodecTorn. -/
import Derived.Test.YthekochmeihdfaaGreatVZTorn
import Derived.Test.YthekochmeihdfaaGreatVZLen
namespace Go.Proofs.YthekochmeihdfaaGreat
open Go.RowKit

/-- ONE BYTE THAT IS ANOTHER ONE: the frame is wrong -/
theorem frame_torn {body : List Int} (hb : Mth.Byt body) {i : Nat} {x y : Int} (hi : (body ++ Mth.four (Mth.crc body))[i]? = some x) (hy : 0 ≤ y ∧ y < 256) (hne : x ≠ y) : (frameF ((body ++ Mth.four (Mth.crc body)).set i y)).1 ≠ 0 := by
  have h4 : (Mth.four (Mth.crc body)).length = 4 := rfl
  have hl : ((body ++ Mth.four (Mth.crc body)).set i y).length - 4 = body.length := by simp [h4]
  have hin : i < body.length + 4 := by
    have := (List.getElem?_eq_some_iff.1 hi).1
    simpa [h4] using this
  unfold frameF
  rw [hl]
  split
  · simp
  split
  · simp
  split
  · simp
  split
  · simp
  · rename_i _ _ _ hd
    exfalso
    simp only [ne_eq, Decidable.not_not] at hd
    by_cases hlt : i < body.length
    · rw [List.set_append_left _ _ hlt, List.drop_append_of_le_length (by simp), List.take_append_of_le_length (by simp)] at hd
      have e1 : (body.set i y).drop body.length = [] := List.drop_eq_nil_of_le (by simp)
      have e2 : (body.set i y).take body.length = body.set i y := List.take_of_length_le (by simp)
      rw [e1, e2, List.nil_append] at hd
      have := Mth.four_inj (Mth.crc_lt _) (Mth.crc_lt _) hd
      rw [List.getElem?_append_left hlt] at hi
      exact Mth.crc_set hb hi hy hne this.symm
    · rw [List.set_append_right _ _ (by omega), List.drop_left, List.take_left] at hd
      rw [List.getElem?_append_right (by omega)] at hi
      have h2 : ((Mth.four (Mth.crc body)).set (i - body.length) y)[i - body.length]? = some y := by
        rw [List.getElem?_set_self (by rw [h4]; omega)]
      rw [hd, hi] at h2
      exact hne (Option.some.inj h2)

/-- a byte is set -/
theorem has_set {w : World} {g n : Nat} {zs : List Int} (hz : Has .u8 w (some ⟨g, 0, none⟩) n zs) {i : Nat} (hi : i < n) {y : Int} (hy : 0 ≤ y ∧ y < 256) : Has .u8 (w.setCell ⟨g, i, none⟩ (.int .u8 y)) (some ⟨g, 0, none⟩) n (zs.set i y) := by
  obtain ⟨b, off, e, hb, hc⟩ := hz.some (by omega)
  simp only [Option.some.injEq, Addr.mk.injEq, and_true] at e
  obtain ⟨rfl, rfl⟩ := e
  refine ⟨by rw [List.length_set]; exact hz.1, fun x hx => ?_, .inr ⟨g, 0, rfl, by rw [World.size_setCell]; exact hb, fun j hj => ?_⟩⟩
  · rcases List.mem_or_eq_of_mem_set hx with h | h
    · exact hz.2.1 x h
    · rw [h]; exact wf_u8 y hy
  · rw [Nat.zero_add]
    have hl := hz.1
    by_cases e : i = j
    · subst e
      have := hc i hi
      rw [Nat.zero_add] at this
      rw [World.cell?_setCell_same _ _ _ this]
      simp only [List.getD_eq_getElem?_getD, List.getElem?_set_self (show i < zs.length by omega), Option.getD_some]
    · rw [World.cell?_setCell_other _ _ _ _ (by intro h; simp only [Addr.mk.injEq] at h; omega)]
      have := hc j hj
      rw [Nat.zero_add] at this
      rw [this]
      simp only [List.getD_eq_getElem?_getD, List.getElem?_set_ne e]

theorem num_byt (n : Int) : Mth.Byt (numL n) := plain_byt _
theorem byt_app {a b : List Int} (ha : Mth.Byt a) (hb : Mth.Byt b) : Mth.Byt (a ++ b) := fun x hx => (List.mem_append.1 hx).elim (ha x) (hb x)
theorem byt_flat {α : Type} {f : α → List Int} {L : List α} (h : ∀ x, Mth.Byt (f x)) : Mth.Byt (L.flatMap f) := fun y hy => by
  obtain ⟨x, _, hx⟩ := List.mem_flatMap.1 hy
  exact h x y hx
theorem byt_nil : Mth.Byt [] := fun _ h => absurd h List.not_mem_nil
theorem byt_ref (x : RefD) : Mth.Byt (refL x) := byt_app (num_byt _) (num_byt _)
theorem byt_step (x : PushD) : Mth.Byt (stepL x) := by
  refine byt_app (num_byt _) ?_
  split
  · exact plain_byt _
  · split
    · exact byt_ref _
    · exact byt_nil
theorem byt_tree (es : List PushD) : Mth.Byt (treeL es) := byt_app (num_byt _) (byt_flat byt_step)
theorem byt_ints (ns : List Int) : Mth.Byt (intsL ns) := byt_app (num_byt _) (byt_flat num_byt)
theorem byt_nums (zs : List Int) : Mth.Byt (numsL zs) := byt_app (num_byt _) (byt_flat fun _ => plain_byt _)
theorem byt_case (x : CaseD) : Mth.Byt (caseL x) := byt_app (plain_byt _) (byt_app (plain_byt _) (num_byt _))
theorem byt_state (x : StateD) : Mth.Byt (stateL x) := by
  refine byt_app (byt_app (num_byt _) (num_byt _)) (byt_app ?_ (byt_app (byt_flat byt_case) (num_byt _)))
  split
  · exact byt_nil
  · exact byt_ref _
theorem byt_op (x : OpD) : Mth.Byt (opL x) := by
  unfold opL
  refine byt_app (num_byt _) ?_
  (repeat' split) <;> first | exact byt_nil | exact num_byt _ | exact byt_tree _ | exact byt_app (byt_ref _) (byt_tree _) | exact byt_app (byt_ref _) (num_byt _)
theorem byt_act (x : ActD) : Mth.Byt (actL x) := byt_app (byt_ints _) (byt_app (num_byt _) (byt_flat byt_op))
theorem byt_tab (x : TabD) : Mth.Byt (tabL x) := byt_app (num_byt _) (byt_app (byt_app (num_byt _) (byt_flat byt_ref)) (byt_app (byt_ints _) (byt_app (byt_app (num_byt _) (num_byt _)) (byt_nums _))))
theorem byt_node (x : NodeD) : Mth.Byt (nodeL x) := by
  unfold nodeL
  refine byt_app (byt_app (num_byt _) (num_byt _)) ?_
  (repeat' split) <;> first | exact num_byt _ | exact byt_app (byt_tree _) (num_byt _) | exact byt_app (num_byt _) (num_byt _)
theorem byt_plan (d : PlanD) : Mth.Byt (planL d) :=
  byt_app (byt_app (num_byt _) (byt_flat fun x => byt_ints x.ws)) (byt_app (byt_ints _) (byt_app (byt_app (num_byt _) (byt_flat byt_state)) (byt_app (byt_app (num_byt _) (byt_flat byt_act)) (byt_app (byt_app (num_byt _) (byt_flat byt_tab)) (byt_app (byt_app (num_byt _) (byt_flat byt_node)) (byt_ints _))))))
theorem byt_body (d : PlanD) : Mth.Byt (bodyL d) := byt_app (fun x hx => by simp only [List.mem_cons, List.not_mem_nil, or_false] at hx; rcases hx with rfl | rfl | rfl <;> decide) (byt_plan d)
/-- what Encode tells are bytes -/
theorem enc_byt (d : PlanD) : Mth.Byt (encL d) := byt_app (byt_body d) (four_byt _)

theorem index_of (at_ : Int) (N : Nat) (h0 : 0 < N) (hN : N ≤ 9000004) : IntKind.u64.wrap (N : Int) = (N : Int) ∧ ∃ i : Nat, wrap64 ((IntKind.u64.wrap at_).tmod (N : Int)) = (i : Int) ∧ i < N := by
  have e1 : IntKind.u64.wrap (N : Int) = (N : Int) := by simp [IntKind.wrap, IntKind.bits, IntKind.signed]; omega
  have e2 : 0 ≤ IntKind.u64.wrap at_ := by simp [IntKind.wrap, IntKind.bits, IntKind.signed]; omega
  obtain ⟨m, hm⟩ : ∃ m : Nat, IntKind.u64.wrap at_ = (m : Int) := ⟨_, (Int.toNat_of_nonneg e2).symm⟩
  refine ⟨e1, ?_⟩
  rw [hm]
  have hlt := Nat.mod_lt m h0
  refine ⟨m % N, ?_, hlt⟩
  have : ((m : Int).tmod (N : Int)) = ((m % N : Nat) : Int) := rfl
  rw [this]
  unfold wrap64
  omega

theorem xor_other (x b : Int) (hx : 0 ≤ x ∧ x < 256) (hb : 0 ≤ b ∧ b ≤ 255) (h0 : b ≠ 0) : ∃ y, bits .xor .u8 x b = y ∧ (0 ≤ y ∧ y < 256) ∧ y ≠ x := by
  have h := u8_xor x b hx.1 hx.2 hb.1 (by omega)
  refine ⟨_, h, ⟨by omega, ?_⟩, ?_⟩
  · have : x.toNat ^^^ b.toNat < 2 ^ 8 := Nat.xor_lt_two_pow (by omega) (by omega)
    omega
  · intro e
    have e2 : x.toNat ^^^ b.toNat = x.toNat := by omega
    have := congrArg (x.toNat ^^^ ·) e2
    simp only [← Nat.xor_assoc, Nat.xor_self, Nat.zero_xor] at this
    omega

set_option maxHeartbeats 16000000 in
set_option maxRecDepth 20000 in
theorem torn_main (d : PlanD) (at_ by_ : Int) (w : World) (hl : d.lie w) (hat : (Lit.int .i64 at_).wf = true) (hby : (Lit.int .u8 by_).wf = true) : Calls Tryz.prog 5 #[d.v, .int .i64 at_, .int .u8 by_] w fun e w' => e = .returned (.bool true) ∧ Below w.heap.size w w' := by
  obtain ⟨W1, hW⟩ : ∃ W1, W1 = w.alloc d.box := ⟨_, rfl⟩
  obtain ⟨s, hs⟩ : ∃ s, s = w.heap.size := ⟨_, rfl⟩
  have hc : W1.cell? ⟨s, 0, none⟩ = some (.slice d.heads.a d.heads.n d.heads.c) ∧ W1.cell? ⟨s, 1, none⟩ = some (.slice d.mta.a d.mta.n d.mta.c) ∧ W1.cell? ⟨s, 2, none⟩ = some (.slice d.states.a d.states.n d.states.c) ∧ W1.cell? ⟨s, 3, none⟩ = some (.slice d.acts.a d.acts.n d.acts.c) ∧ W1.cell? ⟨s, 4, none⟩ = some (.slice d.tabs.a d.tabs.n d.tabs.c) ∧ W1.cell? ⟨s, 5, none⟩ = some (.slice d.nodes.a d.nodes.n d.nodes.c) ∧ W1.cell? ⟨s, 6, none⟩ = some (.slice d.out.a d.out.n d.out.c) := by rw [hW, hs]; refine ⟨?_, ?_, ?_, ?_, ?_, ?_, ?_⟩ <;> exact (World.cell?_alloc_at _ _ _ _ rfl).trans rfl
  have HB0 : Hid (Below w.heap.size w W1) := by rw [hW]; exact bl_alloc (Below.refl _ _)
  have EW := hid hW
  have ES := hid hs
  have HL := hid hl
  have HC := hid hc
  have HAT := hid hat
  have HBY := hid hby
  have HBG := hid (codec_begun W1)
  clear hW hs hc hl hat hby
  go_enter Tryz.func5, Tryz.ntmps5
  go_wp2_with fail
  rw [← EW.out, ← ES.out]
  refine HBG.out.mono ?_
  rintro e w1 ⟨rfl, hb1⟩
  clear EW ES HBG
  have HB1 := hid (bl_step HB0.out hb1)
  have HC1 := hid (ekeep7 HC.out hb1)
  obtain ⟨z0, z1, z2, z3, z4, z5, z6⟩ := ekeep7 HC.out hb1
  have HGR := hid (great_told d w1 (HL.out.step HB1.out))
  clear hb1 HB0 HC
  go_wp2_with fail
  refine HGR.out.mono ?_
  rintro e w2 ⟨b, rfl, hg, hb2⟩
  have HB2 := hid (bl_step HB1.out hb2)
  have HC2 := hid (ekeep7 HC1.out hb2)
  have HG := hid hg
  clear hb2 HB1 HGR z0 z1 z2 z3 z4 z5 z6 hg HC1
  obtain ⟨z0, z1, z2, z3, z4, z5, z6⟩ := HC2.out
  cases b with
  | true =>
    go_wp2
    go_ret
    exact ⟨rfl, HB2.out⟩
  | false =>
    have HLT := hid (HG.out rfl)
    clear HG
    by_cases h0 : by_ = 0
    · subst h0
      go_wp2
      go_ret
      exact ⟨rfl, HB2.out⟩
    have hb0 : (by_ == 0) = false := by rw [beq_eq_false_iff_ne]; exact h0
    have H0 := hid h0
    clear h0
    have HEN := hid (encode_little d w2 (HL.out.step HB2.out) HLT.out)
    go_wp2_with fail
    refine HEN.out.mono ?_
    intro e w3 hE
    clear HEN HC2 z0 z1 z2 z3 z4 z5 z6
    rcases hE with ⟨hc, rfl, hb3⟩ | ⟨hc, g, cap, rfl, ho, hb3⟩
    · have hne : ((chkP d.p).1 != 0) = true := by rw [bne_iff_ne]; exact hc
      have HB3 := hid (bl_step HB2.out hb3)
      generalize (chkP d.p).1 = C at *
      generalize (chkP d.p).2 = A at *
      clear hc hb3 HB2
      go_wp2
      go_ret
      exact ⟨rfl, bl_alloc HB3.out⟩
    · have HB3 := hid (bl_step HB2.out hb3)
      have hbl := body_len (HL.out.step HB2.out) HLT.out hc
      have hZ : encL d = bodyL d ++ Mth.four (Mth.crc (bodyL d)) := rfl
      have hbb := bl_step HB2.out hb3
      have hby := enc_byt d
      have hNl := enc_len d
      generalize bodyL d = body at *
      generalize encL d = zs at *
      obtain ⟨N, hN⟩ : ∃ N, zs.length = N := ⟨_, rfl⟩
      rw [hN] at ho hNl ⊢
      obtain ⟨hwN, i, hidx, hiN⟩ := index_of at_ N (by omega) (by omega)
      have hN0 : ¬ (N : Int) = 0 := by omega
      have hN1 : ¬ N = 0 := by omega
      have hz3 : Has .u8 w3 (some ⟨g, 0, none⟩) N zs := has_of_owns ho (bytes_byt hby)
      have hcap : N ≤ cap := by
        rcases ho.2 with ⟨e2, _⟩ | ⟨g2, c2, cur, e2, _, _, h, _⟩
        · cases e2
        · simp only [Value.slice.injEq, true_and] at e2
          omega
      have hgB : w2.heap.size ≤ g := (ho.lt g rfl).1
      have hgl : g < w3.heap.size := (ho.lt g rfl).2
      obtain ⟨x, hx⟩ : ∃ x, zs[i]? = some x := ⟨zs[i]'(by omega), List.getElem?_eq_getElem (by omega)⟩
      have hxc : w3.cell? ⟨g, i, none⟩ = some (.int .u8 x) := by
        rw [ho.cellAt i (by omega)]
        simp only [BB, List.getElem?_map, hx, Option.map_some]
      have hxf := ho.frozenAt i
      have hxb := hby x (List.mem_of_getElem? hx)
      obtain ⟨y, hyx, hy, hyn⟩ := xor_other x by_ hxb (bounds_u8 HBY.out) H0.out
      have HD : Hid (∀ o, Calls Tryz.prog 11 #[.slice (some ⟨g, 0, none⟩) N cap] ((w3.setCell ⟨g, i, none⟩ (.int .u8 y)).alloc o) fun e w' => ∃ C A, C ≠ 0 ∧ e = .returned (.tuple #[noPlan, .agg #[.int .i64 C, .int .i64 A]]) ∧ Below ((w3.setCell ⟨g, i, none⟩ (.int .u8 y)).alloc o).heap.size ((w3.setCell ⟨g, i, none⟩ (.int .u8 y)).alloc o) w') := fun o =>
        have hne := frame_torn (body := body) (fun z hz => hby z (by rw [hZ]; exact List.mem_append_left _ hz)) (by rw [← hZ]; exact hx) hy (fun e => hyn e.symm)
        (decode_bad _ N cap _ _ (by omega) hcap ((has_set hz3 (by omega) hy).alloc (o := o)) (by rw [hZ]; exact hne)).mono fun e w' ⟨h1, h2⟩ => ⟨_, _, by rw [hZ]; exact hne, h1, h2⟩
      have HB4 : Hid (∀ o, Below w.heap.size w ((w3.setCell ⟨g, i, none⟩ (.int .u8 y)).alloc o)) := fun o => bl_alloc (HB3.out.setCell (p := ⟨g, i, none⟩) (Nat.le_trans HB2.out.size hgB) _)
      have hii : (i : Int) < (N : Int) := by omega
      clear hz3 hcap ho hx hxb hby hN hNl hbl hZ hc hb3 hbb HB3 hy hyn H0 HAT HBY HL HLT hgB HB2 hiN
      go_wp2_with fail
      refine (HD.out _).mono ?_
      rintro e w5 ⟨C, A, hC, rfl, hb5⟩
      have HB5 := hid (bl_step (HB4.out _) hb5)
      have hCn : (C != 0) = true := by rw [bne_iff_ne]; exact hC
      clear HD HB4 hb5 hC
      go_wp2
      go_ret
      exact ⟨rfl, bl_alloc (bl_alloc HB5.out)⟩
end Go.Proofs.YthekochmeihdfaaGreat
