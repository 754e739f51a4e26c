/- WHAT IS CUT OFF IS TOLD: the walk of shuntyardlaw.WordCut. -/
import Derived.Test.YtcdpmpcpgijebaaGBack
namespace Go.Proofs.Ytcdpmpcpgijebaa
open Go.RowKit

theorem Has.front {k : IntKind} {w : World} {a : Option Addr} {len : Nat} {zs : List Int} (h : Has k w a len zs) (n : Nat) (hn : n ≤ len) : Has k w a n (zs.take n) := by
  refine ⟨by rw [List.length_take, h.1]; omega, fun x hx => h.2.1 x (List.mem_of_mem_take hx), ?_⟩
  rcases h.2.2 with e | ⟨b, off, e, hb, hc⟩
  · exact .inl (by rw [e]; simp)
  · refine .inr ⟨b, off, e, hb, fun i hi => ?_⟩
    rw [hc i (by omega)]
    simp only [List.getD_eq_getElem?_getD, List.getElem?_take, if_pos hi]

set_option maxHeartbeats 4000000 in
set_option maxRecDepth 20000 in
theorem wordcut_main (d : ProgD) (at_ : Int) (W : World) (hd : d.lie W) (ha : gwfI at_) : Calls Try.prog 5 #[d.v, .int .i64 at_] W (TellB true W) := by
  obtain ⟨W1, hW1⟩ : ∃ W1, W1 = W.alloc (.cells #[.int .i64 d.slots, .slice d.tabs.a d.tabs.n d.tabs.c, .slice d.code.a d.code.n d.code.c] 25) := ⟨_, rfl⟩
  obtain ⟨pb, hpb⟩ : ∃ b, b = W.heap.size := ⟨_, rfl⟩
  have PB : Hid (PBox d W1 pb) := by rw [hW1, hpb]; exact pbox_new d W
  have b1 : Below W.heap.size W W1 := by rw [hW1]; exact bl_alloc (Below.refl _ _)
  have B1 := hid b1
  have EW := hid hW1
  have EP := hid hpb
  have HBEG := hid (gbegun W1)
  have HGR := hid (fun w => ggreat d w)
  have HD := hid hd
  have HAT := hid ha
  have HNIL := hid (fun w => nil_same w)
  dsimp only [ProgD.v, nilP] at HGR HNIL ⊢
  clear hW1 hpb b1 hd ha
  go_enter Try.func5, Try.ntmps5
  go_wp2_with fail
  rw [← EW.out, ← EP.out]
  refine HBEG.out.mono ?_
  rintro e w2 ⟨rfl, hb2⟩
  have B2 := hid (bl_step B1.out hb2)
  have PB2 := hid (PB.out.step hb2)
  obtain ⟨p0, p1, p2⟩ := PB2.out
  clear HBEG EW EP hb2 B1 PB
  go_wp2_with fail
  refine (HGR.out _).mono ?_
  rintro e w3 ⟨rfl, hb3⟩
  have B3 := hid (bl_step B2.out hb3)
  have PB3 := hid (PB2.out.step hb3)
  clear HGR hb3 B2 PB2 p0 p1 p2
  by_cases hg : (decide (300 < (d.tabs.n : Int)) || decide (65000 < (d.code.n : Int))) = true
  · rw [hg]
    go_wp2
    go_ret
    exact ⟨rfl, B3.out⟩
  have hg' : (decide (300 < (d.tabs.n : Int)) || decide (65000 < (d.code.n : Int))) = false := by simpa using hg
  rw [hg']
  have hsm : d.small := by
    simp only [Bool.or_eq_true, decide_eq_true_eq, not_or] at hg
    exact ⟨by omega, by omega⟩
  have HEN := hid (gencode d w3 (HD.out.step B3.out) hsm)
  dsimp only [ProgD.v] at HEN
  obtain ⟨p0, p1, p2⟩ := PB3.out
  clear hg hg' hsm
  go_wp2_with fail
  refine HEN.out.mono ?_
  clear p0 p1 p2 PB3
  rintro e w4 (⟨hne, rfl, hb4⟩ | ⟨hce, a4, c4, rfl, hrow, hb4⟩)
  · have hnb : ((chkW d.slots d.ts d.cs).1 != 0) = true := by rw [bne_iff_ne]; exact hne
    generalize (chkW d.slots d.ts d.cs).1 = C4 at *
    generalize (chkW d.slots d.ts d.cs).2 = A4 at *
    have B5 := hid (bl_alloc (o := .cells #[.int .i64 C4, .int .i64 A4] 31) (bl_step B3.out hb4))
    clear HEN hne hb4 B3
    go_wp2
    go_ret
    exact ⟨rfl, B5.out⟩
  · have HFIT := hid (chk_fit HD.out.wfs hce)
    have hl := genc_len d.slots d.ts d.cs
    have hn1 := HFIT.out.nt
    have hn2 := HFIT.out.nc
    have hcap : (gencL d.slots d.ts d.cs).length ≤ c4 ∧ c4 ≤ maxLen := by
      rcases hrow.cap with h | h
      · exact ⟨h.1, h.2.1⟩
      · exact ⟨h.1, by unfold maxLen; omega⟩
    have hgl : (gencL d.slots d.ts d.cs).length ≤ 900000 := by omega
    have hpos : 0 < (gencL d.slots d.ts d.cs).length := by omega
    obtain ⟨W5, hW5⟩ : ∃ W5, W5 = w4.alloc (.cells #[.int .i64 0, .int .i64 0] 31) := ⟨_, rfl⟩
    have b5 : Below w4.heap.size w4 W5 := by rw [hW5]; exact bl_alloc (Below.refl _ _)
    have B5 := hid (bl_step (bl_step B3.out hb4) b5)
    have HROW := hid (hrow.step b5)
    have HH := hid ((hrow.has genc_byt).step b5)
    have HW3 : Hid (W.heap.size ≤ w3.heap.size) := B3.out.size
    have HS35 : Hid (w3.heap.size ≤ W5.heap.size) := Nat.le_trans hb4.size b5.size
    obtain ⟨g, off, rfl, hgl5, -⟩ := HH.out.some hpos
    have DC := hid (fun k hk => dec_cut HFIT.out k hk)
    have DM := hid (dec_more HFIT.out)
    obtain ⟨L, hL⟩ : ∃ L, L = gencL d.slots d.ts d.cs := ⟨_, rfl⟩
    rw [← hL] at hcap hgl hpos HROW HH DC DM ⊢
    obtain ⟨N, hN⟩ : ∃ N, N = L.length := ⟨_, rfl⟩
    rw [← hN] at hcap hgl hpos DC DM ⊢
    have HNL := hid hN
    have hb := bounds_i64 HAT.out
    have hu0 : 0 ≤ IntKind.u64.wrap at_ := by
      simp [IntKind.wrap, IntKind.bits, IntKind.signed]
      omega
    have hu1 := Int.emod_nonneg (IntKind.u64.wrap at_) (show (N : Int) ≠ 0 by omega)
    have hu2 := Int.emod_lt_of_pos (IntKind.u64.wrap at_) (show (0 : Int) < (N : Int) by omega)
    obtain ⟨k, hk⟩ : ∃ k : Nat, (k : Int) = (IntKind.u64.wrap at_) % (N : Int) := ⟨((IntKind.u64.wrap at_) % (N : Int)).toNat, by omega⟩
    have hkN : k < N := by omega
    have hki : (IntKind.u64.wrap at_).tmod (N : Int) = (k : Int) := by rw [Int.tmod_eq_emod_of_nonneg hu0, hk]
    have hwN := gwrap_u (N : Int) (by omega) (by omega)
    have hwk := gwrap_i (k : Int) (by omega) (by omega)
    have hkc : (k : Int) ≤ (c4 : Int) := by omega
    have hkc' : k ≤ c4 := by omega
    have hN0 : ¬ (N : Int) = 0 := by omega
    have HCAP := hid hcap
    have HGL := hid hgl
    have E5 := hid hW5
    have HK := hid hkN
    clear HEN hb4 B3 hW5 b5 hrow hce hL hN hl hn1 hn2 hcap hgl hk hb hgl5 hu0 hu1 hu2
    have HDX := hid (gdecode (some ⟨g, off, none⟩) k k (L.take k) W5 (HH.out.front k (by have := HNL.out; omega)) (Nat.le_refl _) (by have := HCAP.out.1; have := HCAP.out.2; omega) (by have := HGL.out; omega))
    have hDC := DC.out k hkN
    unfold GDecDone at HDX
    rw [hDC] at HDX
    go_wp2_with fail
    rw [← E5.out]
    refine HDX.out.mono ?_
    rintro e w6 (⟨_, rfl, hb6⟩ | ⟨hbad, _⟩)
    rotate_left
    · exact absurd hbad (by simp)
    dsimp only [nilP]
    obtain ⟨A, hA⟩ : ∃ A, A = Obj.cells #[.int .i64 0, .slice none 0 0, .slice none 0 0] 25 (0, 0) := ⟨_, rfl⟩
    obtain ⟨F, hF⟩ : ∃ F, F = Obj.cells #[.int .i64 3, .int .i64 (k : Int)] 31 (0, 0) := ⟨_, rfl⟩
    have hsz : ((w6.alloc A).alloc F).heap.size = w6.heap.size + 1 + 1 := by simp
    have bb : Below w6.heap.size w6 ((w6.alloc A).alloc F) := bl_alloc (bl_alloc (Below.refl _ _))
    have bc : Below w6.heap.size w6 (((w6.alloc A).alloc F).alloc (.cells #[.int .u8 0] 5)) := bl_alloc bb
    have hrow8 := (HROW.out.step hb6).step bc
    have hs56 : w3.heap.size ≤ w6.heap.size := Nat.le_trans HS35.out hb6.size
    obtain ⟨g8, cap8, w8, hrun, ho, hgr⟩ := hrow8.app (ad := ⟨((w6.alloc A).alloc F).heap.size, 0, none⟩) (m := 1) (c2 := 1) (zs := [0]) rfl gsrc_of (by decide) (by have := HGL.out; have := HNL.out; omega) (Nat.le_trans hs56 bc.size)
    have ha1 : (((w6.alloc A).alloc F).alloc (.cells #[.int .u8 0] 5)).heap[w6.heap.size]? = some A := by
      have b2 : Below (w6.alloc A).heap.size (w6.alloc A) (((w6.alloc A).alloc F).alloc (.cells #[.int .u8 0] 5)) := bl_alloc (bl_alloc (Below.refl _ _))
      rw [b2.block w6.heap.size (by simp)]
      exact heap_alloc_new w6 A
    have ha2 : (((w6.alloc A).alloc F).alloc (.cells #[.int .u8 0] 5)).heap[w6.heap.size + 1]? = some F := by
      have b2 : Below ((w6.alloc A).alloc F).heap.size ((w6.alloc A).alloc F) (((w6.alloc A).alloc F).alloc (.cells #[.int .u8 0] 5)) := bl_alloc (Below.refl _ _)
      rw [b2.block (w6.heap.size + 1) (by rw [hsz]; omega)]
      have := heap_alloc_new (w6.alloc A) F
      simpa using this
    have hnr : ∀ b X T f, (((w6.alloc A).alloc F).alloc (.cells #[.int .u8 0] 5)).heap[b]? = some (.cells X T f) → T ≠ 5 → some b ≠ (Value.slice (some ⟨g, off, none⟩) L.length c4).ownBlock := fun b X T f hb hT e => by
      obtain ⟨_, cur, f', hh⟩ := hrow8.blk e.symm
      rw [hb] at hh
      simp only [Option.some.injEq, Obj.cells.injEq] at hh
      exact hT hh.2.1
    have ha3 : w8.heap[w6.heap.size]? = some A := (hgr.block _ (by simp; omega) (hnr _ _ _ _ (ha1.trans (congrArg Option.some hA)) (by decide))).trans ha1
    have ha4 : w8.heap[w6.heap.size + 1]? = some F := (hgr.block _ (by simp) (hnr _ _ _ _ (ha2.trans (congrArg Option.some hF)) (by decide))).trans ha2
    have B6 := bl_step B5.out hb6
    have B8 : Below W.heap.size W w8 := ((B6.trans (bc.mono B6.size)).trans ((Below.refl W.heap.size _).grown hgr (Nat.le_trans B6.size bc.size) fun k hk => Nat.le_trans (by have := HS35.out; exact HW3.out) (hrow8.blk hk).1))
    rw [hsz] at hrun
    have hown8 : Has .u8 w8 (some ⟨g8, 0, none⟩) (L.length + 1) (L ++ [0]) := has_of_owns ho (gbytes_byt (fun x hx => by
      rcases List.mem_append.1 hx with h | h
      · exact HH.out.byt x h
      · simp only [List.mem_cons, List.not_mem_nil, or_false] at h; rw [h]; decide))
    have hcap8 : L.length + 1 ≤ cap8 ∧ cap8 ≤ maxLen := by
      rcases ho.2 with ⟨e, _⟩ | ⟨_, cap, _, e, _, _, h1, h2, _⟩
      · cases e
      · simp only [Value.slice.injEq] at e
        rw [← e.2.2] at h1 h2
        exact ⟨h1, h2⟩
    have HDY := hid (gdecode _ _ cap8 _ w8 hown8 hcap8.1 hcap8.2 (by have := HGL.out; have := HNL.out; omega))
    unfold GDecDone at HDY
    rw [DM.out] at HDY
    have HA3 := hid ha3
    have HA4 := hid ha4
    have HB8 := hid B8
    have HEA := hid hA
    have HEF := hid hF
    rw [hA, hF, ← HNL.out] at hrun
    rw [← HNL.out] at HDY
    clear HDX hDC E5 hb6 hsz bb bc hrow8 hs56 ho hgr ha1 ha2 hnr ha3 ha4 B6 B8 hown8 hcap8 hA hF HROW HH B5
    go_wp2_with (at_builtin; refine gapp_run rfl _ _ rfl rfl rfl hrun ?_)
    refine HDY.out.mono ?_
    rintro e w9 (⟨_, rfl, hb9⟩ | ⟨hbad, _⟩)
    rotate_left
    · exact absurd hbad (by simp)
    dsimp only [nilP]
    have k3 := (hb9.block _ (Array.getElem?_eq_some_iff.1 HA3.out).1).trans HA3.out
    have k4 := (hb9.block _ (Array.getElem?_eq_some_iff.1 HA4.out).1).trans HA4.out
    rw [HEA.out] at k3
    rw [HEF.out] at k4
    have l3 : w6.heap.size < w9.heap.size := (Array.getElem?_eq_some_iff.1 k3).1
    have l4 : w6.heap.size + 1 < w9.heap.size := (Array.getElem?_eq_some_iff.1 k4).1
    have c0 := gbox_cell k3 0
    have c1 := gbox_cell k3 1
    have c2 := gbox_cell k3 2
    have f0 := gbox_cell k4 0
    have f1 := gbox_cell k4 1
    have B9 := hid (bl_step HB8.out hb9)
    clear hrun HDY k3 k4 hb9 HA3 HA4 HB8 HEA HEF
    go_wp2_with fail
    refine (HNIL.out _).mono ?_
    rintro e w10 ⟨rfl, b10⟩
    have k5 : ((w9.alloc (.cells #[.int .i64 0, .slice none 0 0, .slice none 0 0] 25)).alloc (.cells #[.int .i64 4, .int .i64 (N : Int)] 31)).heap[w9.heap.size + 1]? = some (.cells #[.int .i64 4, .int .i64 (N : Int)] 31 (0, 0)) := by
      have := galloc_at (w9.alloc (.cells #[.int .i64 0, .slice none 0 0, .slice none 0 0] 25)) #[.int .i64 4, .int .i64 (N : Int)] 31
      simpa using this
    have k6 := (b10.block _ (Array.getElem?_eq_some_iff.1 k5).1).trans k5
    have v0 := gbox_cell k6 0
    have v1 := gbox_cell k6 1
    have B10 := hid (bl_step (bl_alloc (bl_alloc B9.out)) b10)
    clear k5 k6 b10 B9 c0 c1 c2 f0 f1 l3 l4
    go_wp2
    go_ret
    exact ⟨rfl, B10.out⟩
end Go.Proofs.Ytcdpmpcpgijebaa
