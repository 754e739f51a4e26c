/- Texts of one chain, joined: SSLaw. -/
import Derived.Test.YtffbnggdckjogaaGreatG43
import Derived.Test.YtffbnggdckjogaaGreatG53
import Derived.Test.YtffbnggdckjogaaGreatG51
import Derived.Test.YtffbnggdckjogaaGreatG17
import Derived.Deep.CutBlock
import Derived.Deep.CutRange
import Derived.Deep.DeepCutAuto
import Derived.Deep.RegionHeld3
namespace Go.Proofs.YtffbnggdckjogaaGreat
open Go.RowKit Mth
def EsOk (k : FK) (f : FSt) : Prop := k.kind = 2 → (f.es.length : Int) ≤ k.most
theorem es_add {k : FK} {f : FSt} {ws : List Int} {Ms : List (Int × List Int)} {e : TE} {ln : Int} (h : EsOk k f) : EsOk k (stAdd k f ws Ms e ln).2 := fun hk => by
  have h0 := h hk
  unfold stAdd
  split
  · exact h0
  unfold faceAdd
  rw [if_neg (by omega), if_pos hk]
  show ((addE f.C f.es k.wd k.most (key0 e) ln).length : Int) ≤ k.most
  unfold addE
  split
  · rename_i hc
    unfold addCode at hc
    split at hc
    · split at hc
      · cases hc
      · split at hc
        · cases hc
        · rw [List.length_append]
          show ((f.es.length + 1 : Nat) : Int) ≤ _
          omega
    · cases hc
  · exact h0
theorem es_chg {k : FK} {f : FSt} {ws : List Int} {Ms : List (Int × List Int)} {e : TE} {ln : Int} (h : EsOk k f) : EsOk k (stChg k f ws Ms e ln).2 := fun hk => by
  have h0 := h hk
  unfold stChg
  split
  · exact h0
  unfold faceChg
  rw [if_neg (by omega), if_pos hk]
  exact h0
theorem es_drop {k : FK} {f : FSt} {ws : List Int} {e : TE} {ln : Int} (h : EsOk k f) : EsOk k (stDrop k f ws e ln).2 := fun hk => by
  have h0 := h hk
  unfold stDrop
  split
  · exact h0
  unfold faceDrop
  rw [if_neg (by omega), if_pos hk]
  show ((dropE f.C f.es k.wd (key0 e) ln).length : Int) ≤ k.most
  unfold dropE
  split
  · have := List.length_erase_le (a := place k.wd (key0 e) ln) (l := f.es)
    omega
  · exact h0
theorem snext_at (cut : Int) (N j : Nat) (hN : 0 < N) : ∃ cc idx : Nat, (IntKind.u64.wrap cut % (N : Int)).toNat = cc ∧ cc < N ∧ idx = (j + cc) % N ∧ idx < N ∧ (IntKind.u64.wrap cut).tmod (N : Int) = (cc : Int) ∧ ((j : Int) + (cc : Int)).tmod (N : Int) = (idx : Int) ∧ ((j : Int) + (cc : Int)) % (N : Int) = (idx : Int) := by
  have h0 : 0 ≤ IntKind.u64.wrap cut := by rw [IntKind.wrap_u64]; omega
  have h1 : 0 ≤ IntKind.u64.wrap cut % (N : Int) := Int.emod_nonneg _ (by omega)
  have h2 : IntKind.u64.wrap cut % (N : Int) < N := Int.emod_lt_of_pos _ (by omega)
  obtain ⟨cc, hcc⟩ := Int.eq_ofNat_of_zero_le h1
  have hc : cc < N := by omega
  have hi : (j + cc) % N < N := Nat.mod_lt _ hN
  have e : ((j : Int) + (cc : Int)) % (N : Int) = (((j + cc) % N : Nat) : Int) := by simp
  refine ⟨cc, (j + cc) % N, by rw [hcc]; rfl, hc, rfl, hi, ?_, ?_, e⟩
  · rw [Int.tmod_eq_emod_of_nonneg h0]; exact hcc
  · rw [Int.tmod_eq_emod_of_nonneg (by omega)]; exact e
theorem clAll1 (args : Array Value) (w : World) : Sem.run Tryz.prog (callFunc 55 args) w = .ok (.enter 55 args) w := by kernel_rfl
theorem clAll2 (args : Array Value) (w : World) : Sem.run Tryz.prog (callFunc 96 args) w = .ok (.enter 96 args) w := by kernel_rfl
theorem clAll3 (args : Array Value) (w : World) : Sem.run Tryz.prog (callFunc 115 args) w = .ok (.enter 115 args) w := by kernel_rfl
theorem clLen1 (args : Array Value) (w : World) : Sem.run Tryz.prog (callFunc 59 args) w = .ok (.enter 59 args) w := by kernel_rfl
theorem clLen2 (args : Array Value) (w : World) : Sem.run Tryz.prog (callFunc 100 args) w = .ok (.enter 100 args) w := by kernel_rfl
theorem clLen3 (args : Array Value) (w : World) : Sem.run Tryz.prog (callFunc 119 args) w = .ok (.enter 119 args) w := by kernel_rfl
theorem face_meth {w : World} {k : FK} {f : FSt} (h : FaceAt w k f) : ∃ T v FA rA FL rL, faceV k = .iface T v ∧ (∀ args w', Sem.run Tryz.prog (callFunc FA args) w' = .ok (.enter FA args) w') ∧ (∀ args w', Sem.run Tryz.prog (callFunc FL args) w' = .ok (.enter FL args) w') ∧ (∀ w', Sem.run Tryz.prog (method 296 T v "All") w' = .ok (FA, rA) w') ∧ (∀ w', Sem.run Tryz.prog (method 296 T v "Len") w' = .ok (FL, rL) w') ∧
    (∀ w1 f1, FaceAt w1 k f1 → Calls Tryz.prog FA #[rA] w1 fun r w' => ∃ v, r = .returned v ∧ AllIs w' k f1 v ∧ AllNew w' w1.heap.size k f1 v ∧ Below w1.heap.size w1 w') ∧
    ∀ w1 f1, FaceAt w1 k f1 → Calls Tryz.prog FL #[rL] w1 fun r w' => r = .returned (.int .i64 (faceLen k f1)) ∧ Below w1.heap.size w1 w' := by
  rcases h.kinds with e | e | e
  · exact ⟨_, _, _, _, _, _, faceV1 e, clAll1, clLen1, meth1All k.p, meth1Len k.p, fun w1 f1 h1 => (face1_all e h1).mono fun r w' ⟨v, a, b, c⟩ => ⟨v, a, b, fun e' => by omega, c⟩, fun w1 f1 h1 => (face1_len e h1).mono fun r w' ⟨a, b⟩ => ⟨a, b ▸ Below.refl _ _⟩⟩
  · exact ⟨_, _, _, _, _, _, faceV2 e, clAll2, clLen2, meth2All k.p, meth2Len k.p, fun w1 f1 h1 => (face2_all e h1).mono fun r w' ⟨v, a, b, c⟩ => ⟨v, a, b, fun e' => by omega, c⟩, fun w1 f1 h1 => (face2_len e h1).mono fun r w' ⟨a, b⟩ => ⟨a, b ▸ Below.refl _ _⟩⟩
  · exact ⟨_, _, _, _, _, _, faceV3 e, clAll3, clLen3, meth3All k.p, meth3Len k.p, fun w1 f1 h1 => face3_allN e h1, fun w1 f1 h1 => (face3_len e h1).mono fun r w' ⟨a, b⟩ => ⟨a, b ▸ Below.refl _ _⟩⟩
def SL1 (W : World) (K0 s : Nat) (k : FK) (ws : List Int) (Ms : List (Int × List Int)) (h : HitM) (N : Nat) (X : Nat → Prop) (wr : World) : Prop := ∃ f, StAt wr s k f ws Ms h N X ∧ EsOk k f ∧ Rt k ws Ms f ∧ FKeep W wr k ∧ Below K0 W wr
def SL2 (W : World) (K0 u : Nat) (k ku : FK) (f : FSt) (ws : List Int) (Ms : List (Int × List Int)) (h : HitM) (N : Nat) (X : Nat → Prop) (c m : Nat) (wr : World) : Prop := ∃ fu, StAt wr u ku fu ws Ms h N X ∧ PartIs k f fu c m ∧ FKeep W wr ku ∧ Below K0 W wr
def SL3 (K0 s u : Nat) (k ku : FK) (f fu : FSt) (ws : List Int) (Ms : List (Int × List Int)) (h : HitM) (N Nu : Nat) (X Xu : Nat → Prop) (v : Value) (w wr : World) : Prop := StAt wr s k f ws Ms h N X ∧ StAt wr u ku fu ws Ms h Nu Xu ∧ AllIs wr k f v ∧ Below K0 w wr
set_option maxHeartbeats 16000000 in
set_option maxRecDepth 20000 in
theorem storeset_main (t : TabD) (wq : QSl) (wl : List Int) (aq : QSl) (al : List ActD) (la : Option Addr) (n lc : Nat) (S : List SD) (cut : Int) (w : World) (hw : Has .i64 w wq.a wq.n wl) (hwn : wq.nil0) (hcap : (Lit.int .i64 t.cap).wf = true) (ht : Has .i64 w t.acts.a t.acts.n t.al) (hz : Has .u64 w t.args.a t.args.n t.zs) (hz0 : t.args.nil0) (ha : QRow 2 ActD.lie w aq al) (hS : Steps w la n S) :
    Calls Tryz.prog 3 #[t.v', .slice wq.a wq.n wq.c, .slice aq.a aq.n aq.c, .slice la n lc, .int .i64 cut] w fun e w' => e = .returned (.bool true) ∧ Below w.heap.size w w' := by
  obtain ⟨W1, hW⟩ : ∃ W1, W1 = w.alloc t.box' := ⟨_, rfl⟩
  obtain ⟨tb, etb⟩ : ∃ b, b = w.heap.size := ⟨_, rfl⟩
  have b1 : Below w.heap.size w W1 := by rw [hW]; exact bl_alloc (Below.refl _ _)
  have hc : ∀ (o : Nat) (v : Value), (#[.int .i64 t.kind, .slice t.keys.a t.keys.n t.keys.c, .slice t.acts.a t.acts.n t.acts.c, .int .i64 t.cap, .int .i64 t.dflt, .slice t.args.a t.args.n t.args.c] : Array Value)[o]? = some v → W1.cell? ⟨tb, o, none⟩ = some v := fun o v hv => by rw [hW, etb]; exact (World.cell?_alloc_at _ _ _ _ rfl).trans hv
  have HCT := hid hc
  have HT : Hid (w.heap.size ≤ tb ∧ tb < W1.heap.size) := by rw [hW, etb]; exact ⟨Nat.le_refl _, by simp⟩
  have HBG := hid (store_begun W1)
  have HB1 := hid b1
  have HA : Hid (Has .i64 w wq.a wq.n wl ∧ Has .i64 w t.acts.a t.acts.n t.al ∧ Has .u64 w t.args.a t.args.n t.zs ∧ QRow 2 ActD.lie w aq al) := ⟨hw, ht, hz, ha⟩
  have HN0 : Hid (wq.nil0 ∧ t.args.nil0 ∧ (Lit.int .i64 t.cap).wf = true) := ⟨hwn, hz0, hcap⟩
  have HS := hid hS
  have EW := hid hW
  have ET := hid etb
  clear hW etb b1 hc hw hwn hcap ht hz hz0 ha hS
  go_enter Tryz.func3, Tryz.ntmps3
  go_wp2_with fail
  rw [← EW.out, ← ET.out]
  refine HBG.out.mono ?_
  rintro e w2 ⟨rfl, hb2⟩
  clear EW ET HBG
  have HB2 := hid (bl_step HB1.out hb2)
  have HC2 : Hid (∀ (o : Nat) (v : Value), (#[.int .i64 t.kind, .slice t.keys.a t.keys.n t.keys.c, .slice t.acts.a t.acts.n t.acts.c, .int .i64 t.cap, .int .i64 t.dflt, .slice t.args.a t.args.n t.args.c] : Array Value)[o]? = some v → w2.cell? ⟨tb, o, none⟩ = some v) := fun o v hv => cell_keep (HCT.out o v hv) hb2
  have HT2 : Hid (w.heap.size ≤ tb ∧ tb < w2.heap.size) := ⟨HT.out.1, Nat.lt_of_lt_of_le HT.out.2 hb2.size⟩
  clear hb2 HB1 HCT HT
  have z0 := HC2.out 0 _ rfl
  have z1 := HC2.out 1 _ rfl
  have z2 := HC2.out 2 _ rfl
  have z3 := HC2.out 3 _ rfl
  have z4 := HC2.out 4 _ rfl
  have z5 := HC2.out 5 _ rfl
  have HTG := hid (tgreat t wq.a wq.n wq.c aq al w2 (HA.out.2.2.2.step ActD.keeps HB2.out))
  go_wp2_with fail
  refine HTG.out.mono ?_
  rintro e w3 ⟨hb3, b, rfl, hgr⟩
  have HB3 := hid (bl_step HB2.out hb3)
  have HGR := hid hgr
  have HC3 : Hid (∀ (o : Nat) (v : Value), (#[.int .i64 t.kind, .slice t.keys.a t.keys.n t.keys.c, .slice t.acts.a t.acts.n t.acts.c, .int .i64 t.cap, .int .i64 t.dflt, .slice t.args.a t.args.n t.args.c] : Array Value)[o]? = some v → w3.cell? ⟨tb, o, none⟩ = some v) := fun o v hv => cell_keep (HC2.out o v hv) hb3
  have HT3 : Hid (w.heap.size ≤ tb ∧ tb < w3.heap.size) := ⟨HT2.out.1, Nat.lt_of_lt_of_le HT2.out.2 hb3.size⟩
  clear hb3 HB2 HC2 HT2 HTG hgr z0 z1 z2 z3 z4 z5
  cases b with
  | true =>
    go_wp2
    go_ret
    exact ⟨rfl, HB3.out⟩
  | false =>
    obtain ⟨g1, g2, g3, g4, g5⟩ := HGR.out rfl
    have HSG := hid (lgreat_any (c := lc) (HS.out.step HB3.out))
    have HG : Hid (t.acts.n ≤ 50 ∧ t.args.n ≤ 50 ∧ wq.n ≤ 50 ∧ aq.n ≤ 50 ∧ ∀ x ∈ al, x.w.n ≤ 50) := ⟨g1, g2, g3, g4, g5⟩
    clear HGR g1 g2 g3 g4 g5
    go_wp2_with fail
    refine HSG.out.mono ?_
    rintro e w4 ⟨hto, rfl⟩
    clear HSG
    rcases hto with rfl | ⟨rfl, hn200, hsm⟩
    · go_wp2
      go_ret
      exact ⟨rfl, HB3.out⟩
    have HSM := hid hsm
    clear hsm
    have HNW : Hid (∀ wx, Below w4.heap.size w4 wx → Calls Tryz.prog 7 #[t.v', .slice wq.a wq.n wq.c, .slice aq.a aq.n aq.c] wx (NewDone t wl al wx)) := fun wx hb => by
      have hbx := bl_step HB3.out hb
      exact snew t wq wl aq al wx (HA.out.1.step hbx) HN0.out.1 (by have := HG.out.2.2.1; omega) HN0.out.2.2 (HA.out.2.1.step hbx) (by have := HG.out.1; omega) (HA.out.2.2.1.step hbx) HN0.out.2.1 (by have := HG.out.2.1; omega) (HA.out.2.2.2.step ActD.keeps hbx) (by have := HG.out.2.2.2.1; omega) (fun x hx => by have := HG.out.2.2.2.2 x hx; omega)
    have HN1 := hid (HNW.out w4 (Below.refl _ _))
    have z0 := HC3.out 0 _ rfl
    have z1 := HC3.out 1 _ rfl
    have z2 := HC3.out 2 _ rfl
    have z3 := HC3.out 3 _ rfl
    have z4 := HC3.out 4 _ rfl
    have z5 := HC3.out 5 _ rfl
    go_wp2_with fail
    refine HN1.out.mono ?_
    rintro e w5 ⟨hb5, hN⟩
    clear HN1 z0 z1 z2 z3 z4 z5
    rcases hN with ⟨hc0, rfl⟩ | ⟨hc0, s, k, N, X, rfl, st, nf, hkB, hsB, hNN, hXX, hZ⟩
    · obtain ⟨W6, e6⟩ : ∃ W6, W6 = w5.alloc (.cells #[.int .i64 (storeC t.p wl (al.map ActD.p)), .int .i64 (-1)] 34) := ⟨_, rfl⟩
      obtain ⟨fb, efb⟩ : ∃ b, b = w5.heap.size := ⟨_, rfl⟩
      have b56 : Below w5.heap.size w5 W6 := by rw [e6]; exact bl_alloc (Below.refl _ _)
      have HF6 : Hid (W6.cell? ⟨fb, 0, none⟩ = some (.int .i64 (storeC t.p wl (al.map ActD.p))) ∧ W6.cell? ⟨fb, 1, none⟩ = some (.int .i64 (-1))) := by rw [e6, efb]; exact ⟨by simp, by simp⟩
      have b46 := bl_step hb5 b56
      have HN2 := hid (HNW.out W6 b46)
      have HB6 := hid (bl_step HB3.out b46)
      have z0 := cell_keep (HC3.out 0 _ rfl) b46
      have z1 := cell_keep (HC3.out 1 _ rfl) b46
      have z2 := cell_keep (HC3.out 2 _ rfl) b46
      have z3 := cell_keep (HC3.out 3 _ rfl) b46
      have z4 := cell_keep (HC3.out 4 _ rfl) b46
      have z5 := cell_keep (HC3.out 5 _ rfl) b46
      have E6 := hid e6
      have EF := hid efb
      have HC0 := hid hc0
      clear hb5 b56 e6 efb b46 HNW hc0 HC3 HT3 HG
      dsimp only
      go_upto_region 6 with fail
      rw [← E6.out, ← EF.out]
      clear E6 EF
      go_wp2_with fail
      refine HN2.out.mono ?_
      rintro e w7 ⟨hb7, hN⟩
      rcases hN with ⟨-, rfl⟩ | ⟨hcx, -⟩
      · have HB7 := hid (bl_step HB6.out hb7)
        have y0 := cell_keep HF6.out.1 hb7
        have y1 := cell_keep HF6.out.2 hb7
        have hne : (storeC t.p wl (al.map ActD.p) != 0) = true := by have := HC0.out; simpa using this
        have hfl : fb < w7.heap.size := World.block_lt_of_cell? _ _ y0
        have hfn : ¬ fb = w7.heap.size := by omega
        generalize storeC t.p wl (al.map ActD.p) = C at *
        clear hb7 HN2 HF6 HB6 HC0 z0 z1 z2 z3 z4 z5
        go_wp2
        go_ret
        exact ⟨rfl, bl_alloc HB7.out⟩
      · exact absurd hcx HC0.out
    obtain ⟨W6, e6⟩ : ∃ W6, W6 = w5.alloc (.cells #[.int .i64 0, .int .i64 0] 34) := ⟨_, rfl⟩
    obtain ⟨fb, efb⟩ : ∃ b, b = w5.heap.size := ⟨_, rfl⟩
    have b56 : Below w5.heap.size w5 W6 := by rw [e6]; exact bl_alloc (Below.refl _ _)
    have hf6 : W6.cell? ⟨fb, 0, none⟩ = some (.int .i64 0) := by rw [e6, efb]; simp
    have HF6 := hid hf6
    clear hf6
    have b46 := bl_step hb5 b56
    have HN2 := hid (HNW.out W6 b46)
    have HB6 := hid (bl_step HB3.out b46)
    have z0 := cell_keep (HC3.out 0 _ rfl) b46
    have z1 := cell_keep (HC3.out 1 _ rfl) b46
    have z2 := cell_keep (HC3.out 2 _ rfl) b46
    have z3 := cell_keep (HC3.out 3 _ rfl) b46
    have z4 := cell_keep (HC3.out 4 _ rfl) b46
    have z5 := cell_keep (HC3.out 5 _ rfl) b46
    have HX : Hid (tb + 1 ≤ k.B ∧ tb + 1 ≤ w4.heap.size ∧ w.heap.size ≤ tb) := ⟨by have := HT3.out.2; omega, by have := HT3.out.2; omega, HT3.out.1⟩
    have H5 : Hid (StAt w5 s k FSt.none wl (sayL al t.al) (t.dflt, t.zs) N X ∧ N = w5.heap.size ∧ k.Z = zoneN w5 k.p ∧ NewFace t wl k.B k ∧ Below w5.heap.size w5 W6 ∧ Below w4.heap.size w4 W6) := ⟨st, hNN, hZ, nf, b56, b46⟩
    have E6 := hid e6
    have EF := hid efb
    have HC0 := hid hc0
    clear hb5 b56 e6 efb b46 HNW hc0 HC3 HT3 HG st nf hkB hsB hNN hXX hZ HB3
    dsimp only
    go_upto_region 6 with fail
    rw [← E6.out, ← EF.out]
    clear E6 EF
    go_wp2_with fail
    refine HN2.out.mono ?_
    rintro e w7 ⟨hb7, hN⟩
    clear z0 z1 z2 z3 z4 z5
    rcases hN with ⟨hcx, -⟩ | ⟨-, u, ku, Nu, Xu, rfl, su, nu, hkBu, hsBu, -, hXu, hZu⟩
    · exact absurd HC0.out hcx
    obtain ⟨W8, e8⟩ : ∃ W8, W8 = w7.alloc (.cells #[.int .i64 0, .int .i64 0] 34) := ⟨_, rfl⟩
    obtain ⟨gb, egb⟩ : ∃ b, b = w7.heap.size := ⟨_, rfl⟩
    have b78 : Below w7.heap.size w7 W8 := by rw [e8]; exact bl_alloc (Below.refl _ _)
    obtain ⟨h51, h52, h53, h54, h55, h56⟩ := H5.out
    have PR0 := pair_new h51 h52 h53 h54 h55 su hZu nu hkBu hXu hb7 b78
    have hkk : (k.at (zoneN W8 k.p)).B = k.B := rfl
    have hkku : (ku.at (zoneN W8 ku.p)).B = ku.B := rfl
    have hnfk : (k.at (zoneN W8 k.p)).kind = 2 → (k.at (zoneN W8 k.p)).most = t.cap := fun e => (h54.wd (by rw [← h54.kind]; exact e)).2
    generalize k.at (zoneN W8 k.p) = k1 at *
    generalize ku.at (zoneN W8 ku.p) = k2 at *
    have HP := hid PR0
    have hcp : 0 ≤ t.cap := (store_ok HC0.out).2.2.2.2.1
    have HXK : Hid (tb + 1 ≤ k1.B ∧ tb + 1 ≤ k2.B ∧ tb + 1 ≤ W8.heap.size) := by
      have h1 := HX.out.1
      have h2 := HX.out.2.1
      have h3 := h56.size
      have h4 := hb7.size
      have h5 := b78.size
      exact ⟨by omega, by omega, by omega⟩
    have HL0 : Hid (SL1 W8 (tb + 1) s k1 wl (sayL al t.al) (t.dflt, t.zs) N X W8) := ⟨FSt.none, PR0.ss, fun e => by rw [hnfk e]; exact hcp, rt_none _ _ _, fkeep_below (Below.refl _ _) PR0.ss.face.head, Below.refl _ _⟩
    have HB8 := hid (bl_step (bl_step HB6.out hb7) b78)
    have y0 := cell_keep (cell_keep HF6.out hb7) b78
    have y1 : W8.cell? ⟨gb, 0, none⟩ = some (.int .i64 0) := by rw [e8, egb]; simp
    have E8 := hid e8
    have EG := hid egb
    clear e8 egb b78 h51 h52 h53 h54 h55 h56 su hZu nu hkBu hsBu hXu hb7 PR0 hkk hkku hnfk hcp H5 HF6 HB6 HC0 HN2
    dsimp only
    go_upto_region 7 with fail
    rw [← E8.out, ← EG.out]
    clear E8 EG
    go_upto_region 9 with fail
    clear y0 y1
    go_wp2
    go_loopw [15] (fun q wr => ∃ i : Nat, i ≤ n ∧ q = .int .i64 i ∧ Hid (SL1 W8 (tb + 1) s k1 wl (sayL al t.al) (t.dflt, t.zs) N X wr)) (fun q _ => n - (intOf q).toNat)
    case atStart => exact ⟨0, Nat.zero_le _, rfl, HL0.out⟩
    case round =>
      obtain ⟨i, hi, rfl, hst⟩ := hrel
      clear HL0
      obtain ⟨f, st, hes, hrt, hfk, hbk⟩ := hst.out
      have HBW : Hid (Below w.heap.size w wr) := HB8.out.trans (hbk.mono (by have := HX.out.2.2; omega))
      by_cases hlt : i < n
      · have hd : S[i]? = some (S[i]'(by have := HS.out.1; omega)) := List.getElem?_eq_getElem _
        have hsmall := HSM.out _ (List.mem_of_getElem? hd)
        obtain ⟨g, off, rfl, hat, hok⟩ := (HS.out.step HBW.out).2 i _ hd
        generalize S[i]'(by have := HS.out.1; omega) = d at *
        have HGD := hid (hok.good hsmall)
        have hki : (i : Int) < (n : Int) := by omega
        have HST := hid st
        have HES := hid hes
        have HRT := hid hrt
        have HFK := hid hfk
        have HBK := hid hbk
        obtain ⟨x0, x1, x2, x3, x4, x5, x6⟩ := hat
        clear hst st hes hrt hfk hbk hd hok hsmall
        by_cases d0 : d.doo = 0
        · have q0 : (d.doo == 0) = true := by simpa using d0
          clear d0
          have HAD := hid (st_add HST.out HGD.out)
          go_wp2_with fail
          refine HAD.out.mono ?_
          rintro e wm ⟨rfl, stm, hbB, -, hfk2⟩
          have HNX : Hid (SL1 W8 (tb + 1) s k1 wl (sayL al t.al) (t.dflt, t.zs) N X wm) := ⟨_, stm, es_add HES.out, rt_add HRT.out HST.out.one HGD.out.ks.nums, HFK.out.trans hfk2, HBK.out.trans (hbB.mono HXK.out.1)⟩
          clear stm hbB hfk2 HAD x0 x1 x2 x3 x4 x5 x6
          generalize (stAdd k1 f wl (sayL al t.al) d.te d.md.ln).1 = C at *
          go_wp2
          go_roundw
          case rel => exact ⟨i + 1, by omega, by go_num, HNX.out⟩
          case measure => simp [intOf]; omega
        by_cases d1 : d.doo = 1
        · have q0 : (d.doo == 0) = false := by simpa using d0
          have q1 : (d.doo == 1) = true := by simpa using d1
          clear d0 d1
          have HAD := hid (st_chg HST.out HGD.out)
          go_wp2_with fail
          refine HAD.out.mono ?_
          rintro e wm ⟨rfl, stm, hbB, -, hfk2⟩
          have HNX : Hid (SL1 W8 (tb + 1) s k1 wl (sayL al t.al) (t.dflt, t.zs) N X wm) := ⟨_, stm, es_chg HES.out, rt_chg HRT.out HST.out.one HGD.out.ks.nums, HFK.out.trans hfk2, HBK.out.trans (hbB.mono HXK.out.1)⟩
          clear stm hbB hfk2 HAD x0 x1 x2 x3 x4 x5 x6
          generalize (stChg k1 f wl (sayL al t.al) d.te d.md.ln).1 = C at *
          go_wp2
          go_roundw
          case rel => exact ⟨i + 1, by omega, by go_num, HNX.out⟩
          case measure => simp [intOf]; omega
        by_cases d2 : d.doo = 2
        · have q0 : (d.doo == 0) = false := by simpa using d0
          have q1 : (d.doo == 1) = false := by simpa using d1
          have q2 : (d.doo == 2) = true := by simpa using d2
          clear d0 d1 d2
          have HAD := hid (st_drop HST.out HGD.out)
          go_wp2_with fail
          refine HAD.out.mono ?_
          rintro e wm ⟨rfl, stm, hbB, -, hfk2⟩
          have HNX : Hid (SL1 W8 (tb + 1) s k1 wl (sayL al t.al) (t.dflt, t.zs) N X wm) := ⟨_, stm, es_drop HES.out, rt_drop HRT.out, HFK.out.trans hfk2, HBK.out.trans (hbB.mono HXK.out.1)⟩
          clear stm hbB hfk2 HAD x0 x1 x2 x3 x4 x5 x6
          generalize (stDrop k1 f wl d.te d.md.ln).1 = C at *
          go_wp2
          go_roundw
          case rel => exact ⟨i + 1, by omega, by go_num, HNX.out⟩
          case measure => simp [intOf]; omega
        · have q0 : (d.doo == 0) = false := by simpa using d0
          have q1 : (d.doo == 1) = false := by simpa using d1
          have q2 : (d.doo == 2) = false := by simpa using d2
          have HNX : Hid (SL1 W8 (tb + 1) s k1 wl (sayL al t.al) (t.dflt, t.zs) N X wr) := ⟨f, HST.out, HES.out, HRT.out, HFK.out, HBK.out⟩
          clear d0 d1 d2 HST HES HRT HFK HBK
          go_wp2
          go_roundw
          case rel => exact ⟨i + 1, by omega, by go_num, HNX.out⟩
          case measure => simp [intOf]; omega
      · have HMT := hid (face_meth st.face)
        obtain ⟨T, vv, FA, rA, FL, rL, ev, hca, hcl, hmt, mL, hA, hL⟩ := HMT.out
        have HALL := hid (hA wr f st.face)
        have c0 := st.c0
        rw [ev] at c0
        have HST := hid st
        have HES := hid hes
        have HRT := hid hrt
        have HFK := hid hfk
        have HBK := hid hbk
        have hki : ¬ (i : Int) < (n : Int) := by omega
        clear hst st hes hrt hfk hbk mL hA hL ev hcl
        go_wp2_with fail
        refine HALL.out.mono ?_
        rintro e w10 ⟨v, rfl, hall, hnew, hb10⟩
        clear c0 hmt HMT hca
        obtain ⟨a, c, rfl, htl⟩ := told_at hall
        obtain ⟨su, how⟩ := HP.out.turned HST.out HFK.out (HBK.out.mono (Nat.zero_le _)) hb10
        have hal := HP.out.al
        have hk2 : k2.B = (k2.at (zoneN w10 k2.p)).B := rfl
        have hal' : Alike k1 (k2.at (zoneN w10 k2.p)) := ⟨hal.kind, hal.K, hal.wd, hal.keys⟩
        have HXK3 : Hid (tb + 1 ≤ (k2.at (zoneN w10 k2.p)).B ∧ tb + 1 ≤ w10.heap.size) := ⟨HXK.out.2.1, by have := HXK.out.2.2; have := HBK.out.size; have := hb10.size; omega⟩
        generalize k2.at (zoneN w10 k2.p) = k3 at *
        clear hk2 hal
        have HT10 := hid (HST.out.step hb10)
        have HSTAY : Hid (∀ w', FKeep w10 w' k3 → Below 0 w10 w' → StAt w' s k1 f wl (sayL al t.al) (t.dflt, t.zs) N X ∧ AllIs w' k1 f (.slice a (faceLen k1 f) c)) := fun w' hf hb => HT10.out.stay su.face hal'.kind how hf hb hall hnew
        have HB10 : Hid (Below w.heap.size w w10) := bl_step (HB8.out.trans (HBK.out.mono (by have := HX.out.2.2; omega))) hb10
        have HAL := hid hal'
        have HLN := hid (tldE_length HT10.out.face)
        have HFF := hid su.face
        have HPZ := hid (fun cc => prt_zero HT10.out.face cc)
        obtain ⟨L, hL⟩ : ∃ L, L = faceLen k1 f := ⟨_, rfl⟩
        have HLE := hid hL
        rw [← hL]
        have HL2 : Hid (∀ cc, SL2 w10 (tb + 1) u k1 k3 f wl (sayL al t.al) (t.dflt, t.zs) Nu Xu cc 0 w10) := fun cc => ⟨FSt.none, su, HPZ.out cc, fkeep_below (Below.refl _ _) su.face.head, Below.refl _ _⟩
        clear su how hal' hall hnew htl hb10 HST HFK HBK HALL hL HPZ HBW HP
        dsimp only
        go_upto_region 20 with fail
        go_wp2
        go_loopw [17] (fun q wr => ∃ m : Nat, m ≤ L ∧ q = .int .i64 m ∧ Hid (SL2 w10 (tb + 1) u k1 k3 f wl (sayL al t.al) (t.dflt, t.zs) Nu Xu (IntKind.u64.wrap cut % (L : Int)).toNat m wr)) (fun q _ => L - (intOf q).toNat)
        case atStart => exact ⟨0, Nat.zero_le _, rfl, HL2.out _⟩
        case round =>
          obtain ⟨m, hm, rfl, hst⟩ := hrel
          clear HL2
          obtain ⟨fu, st, hpt, hfk, hbk⟩ := hst.out
          obtain ⟨hs1, hall⟩ := HSTAY.out wr hfk (hbk.mono (Nat.zero_le _))
          by_cases hlt2 : m < L
          · obtain ⟨cc, idx, hcc, hcN, hidx, hiN, m1, m2, m3⟩ := snext_at cut L m (by omega)
            rw [hcc] at hpt
            obtain ⟨a', c', ea, htl⟩ := told_at hall
            cases ea
            have hLE := HLE.out
            obtain ⟨x, hx⟩ : ∃ x, (tldE k1 f)[idx]? = some x := ⟨_, List.getElem?_eq_getElem (by rw [HLN.out]; omega)⟩
            obtain ⟨g, d, rfl, hat, hgd, hln⟩ := htl idx x hx
            have hnx := prt_next hs1.face HAL.out HES.out HRT.out hpt (by omega) (by omega) (by rw [← hLE, ← hidx]; exact hx)
            have HAD := hid (st_add st hgd)
            rw [hln] at HAD
            obtain ⟨hn0, hnp⟩ := hnx
            have HZ0 := hid hn0
            obtain ⟨x0, x1, x2, x3, x4, x5⟩ := hat
            have hki2 : (m : Int) < (L : Int) := by omega
            have hcN' : (cc : Int) < (L : Int) := by omega
            have hiN' : (idx : Int) < (L : Int) := by omega
            have HCC := hid hcc
            have HNP := hid hnp
            have HFK := hid hfk
            have HBK := hid hbk
            have HLB : Hid (L ≤ 100000) := by
              have := HSTAY
              rw [hLE]
              unfold faceLen
              rcases hs1.face with ⟨e, tt, _, _, h3⟩ | ⟨e, tt, h3, _⟩ | ⟨e, tt, h3, _⟩
              · rw [if_pos e]; exact Nat.le_trans tt.most h3
              · rw [if_neg (by omega), if_pos e]; exact h3
              · rw [if_neg (by omega), if_neg (by omega)]; exact h3
            have hLb := HLB.out
            clear hst st hpt hfk hbk hs1 hall htl hx hgd hln hn0 hnp hcc hidx hLE HLB
            go_wp2_with fail
            refine HAD.out.mono ?_
            rintro e wm ⟨he, stm, hbB, -, hfk2⟩
            rw [HZ0.out] at he
            subst he
            have HNX : Hid (SL2 w10 (tb + 1) u k1 k3 f wl (sayL al t.al) (t.dflt, t.zs) Nu Xu (IntKind.u64.wrap cut % (L : Int)).toNat (m + 1) wm) := ⟨_, stm, by rw [HCC.out]; exact HNP.out, HFK.out.trans hfk2, HBK.out.trans (hbB.mono HXK3.out.1)⟩
            clear stm hbB hfk2 HAD HZ0 x0 x1 x2 x3 x4 x5
            go_wp2
            go_roundw
            case rel => exact ⟨m + 1, by omega, by go_num, HNX.out⟩
            case measure => simp [intOf]; omega
          · have em : m = L := by omega
            subst em
            have hL2 := HLE.out
            obtain ⟨hff, hfl, hfa⟩ := prt_end hs1.face st.face HAL.out (by rw [← hL2]; exact hpt)
            have HBR : Hid (Below w.heap.size w wr) := HB10.out.trans (hbk.mono (by have := HX.out.2.2; omega))
            have HL3 : Hid (SL3 (tb + 1) s u k1 k3 f fu wl (sayL al t.al) (t.dflt, t.zs) N Nu X Xu (.slice a m c) wr wr) := ⟨hs1, st, by rw [hL2]; exact hall, Below.refl _ _⟩
            have HFI := hid hff
            have HFL := hid hfl
            have HFA := hid hfa
            have hki2 : ¬ (m : Int) < (m : Int) := by omega
            have HLB : Hid (tb + 1 ≤ wr.heap.size) := by have := HXK3.out.2; have := hbk.size; show _ ≤ _; omega
            clear hst st hpt hfk hbk hs1 hall hL2 hff hfl hfa
            obtain ⟨W3, hW3⟩ : ∃ W3, W3 = wr := ⟨_, rfl⟩
            rw [← hW3] at HL3 HBR HLB
            have HL3' : Hid (SL3 (tb + 1) s u k1 k3 f fu wl (sayL al t.al) (t.dflt, t.zs) N Nu X Xu (.slice a m c) W3 wr) := by rw [← hW3]; exact HL3.out
            clear hW3 HL3
            go_upto_region 26 with fail
            go_wp2
            go_loopw [19] (fun q wr => ∃ i : Nat, i ≤ n ∧ q = .int .i64 i ∧ Hid (SL3 (tb + 1) s u k1 k3 f fu wl (sayL al t.al) (t.dflt, t.zs) N Nu X Xu (.slice a m c) W3 wr)) (fun q _ => n - (intOf q).toNat)
            case atStart => exact ⟨0, Nat.zero_le _, rfl, HL3'.out⟩
            case round =>
              obtain ⟨j, hj, rfl, hst⟩ := hrel
              clear HL3'
              obtain ⟨hs, hu, hall, hbk⟩ := hst.out
              have HBW : Hid (Below w.heap.size w wr) := HBR.out.trans (hbk.mono (by have := HX.out.2.2; omega))
              by_cases hlt3 : j < n
              · have hd : S[j]? = some (S[j]'(by have := HS.out.1; omega)) := List.getElem?_eq_getElem _
                have hsmall := HSM.out _ (List.mem_of_getElem? hd)
                obtain ⟨g, off, rfl, hat, hok⟩ := (HS.out.step HBW.out).2 j _ hd
                generalize S[j]'(by have := HS.out.1; omega) = d at *
                have HGD := hid (hok.good hsmall)
                have hki3 : (j : Int) < (n : Int) := by omega
                have HAT := hid hat
                have HFS := hid (st_find (a := d.ka) (n := d.kn) (c := d.kc) (ks := d.ks) hs HGD.out.ks (by have := hsmall.1; omega))
                have HSS := hid hs
                have HUU := hid hu
                have HAA := hid hall
                have HBK := hid hbk
                have HSMA := hid hsmall
                obtain ⟨x0, x1, x2, x3, x4, x5, x6⟩ := hat
                have HEQ : Hid (stFind k3 fu wl d.ks = stFind k1 f wl d.ks) := by show stFind k3 fu wl d.ks = _; unfold stFind; rw [HFI.out]
                clear hst hs hu hall hbk hd hok hsmall
                go_wp2_with fail
                refine HFS.out.mono ?_
                rintro e w8 ⟨v1, rfl, hs1, hb8⟩
                have HU8 := hid (HUU.out.step hb8)
                have hs1' := hs1
                obtain ⟨a1, n1, c1, rfl, -⟩ := hs1
                generalize hR : stFind k1 f wl d.ks = R at *
                generalize hH : R.getD (t.dflt, t.zs) = H at *
                obtain ⟨W9, e9⟩ : ∃ W9, W9 = w8.alloc (.cells #[.int .i64 H.1, .slice a1 n1 c1] 50) := ⟨_, rfl⟩
                obtain ⟨xb, exb⟩ : ∃ b, b = w8.heap.size := ⟨_, rfl⟩
                have b89 : Below w8.heap.size w8 W9 := by rw [e9]; exact bl_alloc (Below.refl _ _)
                have b9 := bl_step hb8 b89
                have HY : Hid (W9.cell? ⟨xb, 0, none⟩ = some (.int .i64 H.1) ∧ W9.cell? ⟨xb, 1, none⟩ = some (.slice a1 n1 c1)) := by rw [e9, exb]; exact ⟨(World.cell?_alloc_at _ _ _ _ rfl).trans rfl, (World.cell?_alloc_at _ _ _ _ rfl).trans rfl⟩
                have HS9 := hid (hs1'.moved (moved_below b89))
                have HFU := hid (st_find (a := d.ka) (n := d.kn) (c := d.kc) (ks := d.ks) (HUU.out.step b9) (HGD.out.ks.step b9) (by have := HSMA.out.1; omega))
                rw [HEQ.out] at HFU
                have HB9 := hid b9
                obtain ⟨x0, x1, x2, x3, x4, x5, x6⟩ := HAT.out.moved (moved_below b9)
                have E9 := hid e9
                have EX := hid exb
                clear e9 exb b89 b9 hb8 hs1' HFS
                dsimp only
                go_upto_region 30 with fail
                rw [← E9.out, ← EX.out]
                clear E9 EX
                go_wp2_with fail
                refine HFU.out.mono ?_
                rintro e w12 ⟨v2, rfl, hs2, hb12⟩
                rw [hH] at hs2
                have hs2' := hs2
                obtain ⟨a2, n2, c2, rfl, -⟩ := hs2
                obtain ⟨W13, e13⟩ : ∃ W13, W13 = w12.alloc (.cells #[.int .i64 H.1, .slice a2 n2 c2] 50) := ⟨_, rfl⟩
                obtain ⟨yb, eyb⟩ : ∃ b, b = w12.heap.size := ⟨_, rfl⟩
                have b1213 : Below w12.heap.size w12 W13 := by rw [e13]; exact bl_alloc (Below.refl _ _)
                have b13 := bl_step hb12 b1213
                have HS13 := hid (HS9.out.moved (moved_below b13))
                have HU13 := hid (hs2'.moved (moved_below b1213))
                have y0 := cell_keep HY.out.1 b13
                have y1 := cell_keep HY.out.2 b13
                have y2 : W13.cell? ⟨yb, 0, none⟩ = some (.int .i64 H.1) := by rw [e13, eyb]; exact (World.cell?_alloc_at _ _ _ _ rfl).trans rfl
                have y3 : W13.cell? ⟨yb, 1, none⟩ = some (.slice a2 n2 c2) := by rw [e13, eyb]; exact (World.cell?_alloc_at _ _ _ _ rfl).trans rfl
                have b13w := bl_step HB9.out b13
                have HNX : Hid (∀ w', Below W13.heap.size W13 w' → SL3 (tb + 1) s u k1 k3 f fu wl (sayL al t.al) (t.dflt, t.zs) N Nu X Xu (.slice a m c) W3 w') := fun w' hb => by
                  have hbb := bl_step b13w hb
                  exact ⟨HSS.out.step hbb, HUU.out.step hbb, HAA.out.step hbb, HBK.out.trans (hbb.mono (by have := HBK.out.size; have := HLB.out; omega))⟩
                have hoo : (R.isSome != R.isSome) = false := by simp
                have E13 := hid e13
                have EY := hid eyb
                clear e13 eyb b1213 b13 b13w hb12 hs2' HS9 HU8 HFU HB9 HY HSS HUU HAA HBK HAT HGD HEQ x0 x1 x2 x3 x4 x5 x6 hR hH
                generalize R.isSome = ok at *
                dsimp only
                go_upto_region 31 with fail
                rw [← E13.out, ← EY.out]
                clear E13 EY
                go_wp2_with (go_at_call 12; refine (same_hit HS13.out HU13.out).mono ?_; rintro e w14 ⟨rfl, hb14⟩)
                have HN := hid (HNX.out _ hb14)
                clear hb14
                go_roundw
                case rel => exact ⟨j + 1, by omega, by go_num, HN.out⟩
                case measure => simp [intOf]; omega
              · obtain ⟨T1, v1, FA1, rA1, FL1, rL1, ev1, ca1, cl1, mA1, mL1, hA1, hL1⟩ := face_meth hs.face
                obtain ⟨T2, v2, FA2, rA2, FL2, rL2, ev2, ca2, cl2, mA2, mL2, hA2, hL2⟩ := face_meth hu.face
                have c0 := hs.c0
                have c1 := hu.c0
                rw [ev1] at c0
                rw [ev2] at c1
                have HSS := hid hs
                have HUU := hid hu
                have HAA := hid hall
                have HAU : Hid (∀ w', Below wr.heap.size wr w' → Calls Tryz.prog FA2 #[rA2] w' fun r w'' => ∃ v, r = .returned v ∧ AllIs w'' k1 f v ∧ Below w'.heap.size w' w'') := fun w' hb => (hA2 w' fu (HUU.out.face.step hb)).mono fun r w'' ⟨v, h1, h2, _, h4⟩ => ⟨v, h1, HFA.out _ _ h2, h4⟩
                have HSE : Hid (∀ w' x, Below wr.heap.size wr w' → AllIs w' k1 f x → Calls Tryz.prog 13 #[x, .slice a m c] w' fun e w'' => e = .returned (.bool true) ∧ Below w'.heap.size w' w'') := fun w' x hb hu => all_same (HSS.out.face.step hb) hu (HAA.out.step hb)
                have HLS : Hid (∀ w', Below wr.heap.size wr w' → Calls Tryz.prog FL1 #[rL1] w' fun r w'' => r = .returned (.int .i64 (faceLen k1 f)) ∧ Below w'.heap.size w' w'') := fun w' hb => hL1 w' f (HSS.out.face.step hb)
                have HLU : Hid (∀ w', Below wr.heap.size wr w' → Calls Tryz.prog FL2 #[rL2] w' fun r w'' => r = .returned (.int .i64 (faceLen k1 f)) ∧ Below w'.heap.size w' w'') := fun w' hb => by have := hL2 w' fu (HUU.out.face.step hb); rw [HFL.out] at this; exact this
                have HBD : Hid (Below wr.heap.size wr wr.drew) := (Below.refl _ _).drew
                have hsl : s < wr.heap.size := World.block_lt_of_cell? _ _ c0
                have hul : u < wr.heap.size := World.block_lt_of_cell? _ _ c1
                have hki3 : ¬ (j : Int) < (n : Int) := by omega
                generalize (faceLen k1 f : Int) = LL at *
                have hself : (LL == LL) = true := by simp
                clear hst hs hu hall hbk hA1 hL1 hA2 hL2 ev1 ev2 HSS HUU HAA ca1 mA1
                go_upto_region 33 with fail
                go_region_held3 (fun w' => w'.cell? ⟨s, 0, none⟩ = some (.iface T1 v1) ∧ w'.cell? ⟨u, 0, none⟩ = some (.iface T2 v2))
                  (first
                    | (go_split_ands
                       first
                         | exact ⟨by assumption, by assumption⟩
                         | exact ⟨cell_keep (by assumption) hbd, cell_keep (by assumption) hbd⟩
                         | exact ⟨cell_keep (by assumption) hbc, cell_keep (by assumption) hbc⟩
                         | exact ⟨cell_keep (by assumption) hbb2, cell_keep (by assumption) hbb2⟩
                         | exact ⟨cell_keep (by assumption) hba, cell_keep (by assumption) hba⟩)
                    | go_keep)
                  (first
                    | (refine (HAU.out _ HBD.out).mono ?_; rintro e wa ⟨va, rfl, hva, hba⟩; have BA := hid (bl_step HBD.out hba); have HVA := hid hva)
                    | (go_at_call 13; refine (HSE.out _ _ BA.out HVA.out).mono ?_; rintro e wb ⟨rfl, hbb2⟩; have BB := hid (bl_step BA.out hbb2))
                    | (refine (HLS.out _ BB.out).mono ?_; rintro e wz ⟨rfl, hbc⟩; have BC := hid (bl_step BB.out hbc))
                    | (refine (HLU.out _ BC.out).mono ?_; rintro e wd ⟨rfl, hbd⟩; have BD := hid (bl_step BC.out hbd)))
                all_goals
                  have HEND := hid (bl_step HBW.out BD.out)
                  clear BA BB BC BD HVA
                  go_wp2
                  go_ret
                  exact ⟨rfl, HEND.out⟩
end Go.Proofs.YtffbnggdckjogaaGreat
