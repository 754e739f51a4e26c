/- The document's TableFault. -/
import Derived.Test.YtlnkfgdepddmladGreatVQR5
namespace Go.Proofs.YtlnkfgdepddmladGreat
open Go.RowKit

theorem most_le (k : Int) : mostK k ≤ 3 := by unfold mostK; split <;> omega

theorem inc_one (lo hi x : Int) : InC lo hi [x] = false ↔ ¬ (lo ≤ x ∧ x ≤ hi) := by simp [InC]

theorem inc_drop {lo hi : Int} {L : List Int} {k : Nat} {x : Int} (h : L[k]? = some x) : InC lo hi (L.drop k) = (decide (lo ≤ x ∧ x ≤ hi) && InC lo hi (L.drop (k + 1))) := by
  obtain ⟨hk, e⟩ := List.getElem?_eq_some_iff.1 h
  rw [List.drop_eq_getElem_cons hk, e]
  rfl

theorem store_plain (t : PTab) (wl : List Int) (al : List PAct) : storeC t wl al = if ¬ (1 ≤ t.kind ∧ t.kind ≤ 3) then 5 else if ¬ (1 ≤ (wl.length : Int) ∧ (wl.length : Int) ≤ mostK t.kind) ∨ ¬ (1 ≤ (t.al.length : Int) ∧ (t.al.length : Int) ≤ 4) then 2 else if ¬ (0 ≤ t.cap ∧ t.cap ≤ 16) then 1 else if InC 1 48 wl = false then 6 else if InC 0 ((al.length : Int) - 1) t.al = false then 1 else saysC al t.al t.dflt t.zs := by
  have hk : isK t.kind = false ↔ ¬ (1 ≤ t.kind ∧ t.kind ≤ 3) := by unfold isK; rw [decide_eq_false_iff_not]; omega
  unfold storeC
  simp only [hk, inc_one]

set_option maxHeartbeats 32000000 in
set_option maxRecDepth 20000 in
theorem rtab_any (t : TabD) (wq : QSl) (wl : List Int) (aq : QSl) (al : List ActD) (w : World) (hw : Has .i64 w wq.a wq.n wl) (ht : Has .i64 w t.acts.a t.acts.n t.al) (hz : Has .u64 w t.args.a t.args.n t.zs) (ha : QRow 2 ActD.lie w aq al) (hpw : ∀ x ∈ al, ∀ y ∈ x.ws, 1 ≤ y ∧ y ≤ 64) (hpn : ∀ x ∈ al, x.w.n ≤ 100000) (htn : t.acts.n ≤ 100000) :
    Calls Tryz.prog 60 #[t.v', .slice wq.a wq.n wq.c, .slice aq.a aq.n aq.c] w fun e w' => e = .returned (.int .i64 (storeC t.p wl (al.map ActD.p))) ∧ Below w.heap.size w w' := by
  have HRES : Hid (storeC t.p wl (al.map ActD.p) = if ¬ (1 ≤ t.kind ∧ t.kind ≤ 3) then 5 else if ¬ (1 ≤ (wq.n : Int) ∧ (wq.n : Int) ≤ mostK t.kind) ∨ ¬ (1 ≤ (t.acts.n : Int) ∧ (t.acts.n : Int) ≤ 4) then 2 else if ¬ (0 ≤ t.cap ∧ t.cap ≤ 16) then 1 else if InC 1 48 wl = false then 6 else if InC 0 ((aq.n : Int) - 1) t.al = false then 1 else saysC (al.map ActD.p) t.al t.dflt t.zs) := by
    show storeC t.p wl (al.map ActD.p) = _
    rw [store_plain, hw.1, List.length_map, ha.1, show t.p.al.length = t.acts.n from ht.1]
    rfl
  have HSA : Hid (InC 0 ((aq.n : Int) - 1) t.al = true → ∀ w', Below w.heap.size w w' → Calls Tryz.prog 121 #[t.v', .slice aq.a aq.n aq.c, .agg #[.int .i64 t.dflt, .slice t.args.a t.args.n t.args.c]] w' fun e w'' => e = .returned (.int .i64 (saysC (al.map ActD.p) t.al t.dflt t.zs)) ∧ Below w'.heap.size w' w'') := fun hin w' h =>
    rsays_any t aq al t.dflt t.args.a t.args.n t.args.c t.zs w' (ht.step h) htn (ha.step ActD.keeps h) (fun i hi => by
      have := List.all_eq_true.1 hin i hi
      have := of_decide_eq_true this
      omega) hpw hpn (hz.step h)
  have HW := hid hw
  have HT := hid ht
  have HWL := hid hw.1
  have HTL := hid ht.1
  obtain ⟨wa, ewa⟩ : ∃ wa, wq.a = wa := ⟨_, rfl⟩
  rw [ewa]
  have EWA := hid ewa
  clear hw ht hz ha hpw hpn htn ewa
  by_cases kA : t.kind < 1
  · have dkA := decide_eq_true kA
    have HG : Hid (storeC t.p wl (al.map ActD.p) = 5) := by show _ = _; rw [HRES.out]; exact if_pos (by omega)
    clear HSA
    go_enter Tryz.func60, Tryz.ntmps60
    go_wp2
    go_ret
    exact ⟨by rw [HG.out]; rfl, bl_alloc (Below.refl _ _)⟩
  have dkA := decide_eq_false kA
  by_cases kB : 3 < t.kind
  · have dkB := decide_eq_true kB
    have HG : Hid (storeC t.p wl (al.map ActD.p) = 5) := by show _ = _; rw [HRES.out]; exact if_pos (by omega)
    clear HSA
    go_enter Tryz.func60, Tryz.ntmps60
    go_wp2
    go_ret
    exact ⟨by rw [HG.out]; rfl, bl_alloc (Below.refl _ _)⟩
  have dkB := decide_eq_false kB
  have KK : Hid (¬ ¬ (1 ≤ t.kind ∧ t.kind ≤ 3)) := by show ¬ ¬ (1 ≤ t.kind ∧ t.kind ≤ 3); omega
  by_cases nA : (wq.n : Int) < 1
  · have dnA := decide_eq_true nA
    have HG : Hid (storeC t.p wl (al.map ActD.p) = 2) := by show _ = _; rw [HRES.out]; rw [if_neg KK.out]; exact if_pos (.inl (by omega))
    clear HSA
    go_enter Tryz.func60, Tryz.ntmps60
    go_wp2
    go_ret
    exact ⟨by rw [HG.out]; rfl, bl_alloc (Below.refl _ _)⟩
  have dnA := decide_eq_false nA
  by_cases nB : (3 : Int) < (wq.n : Int)
  · have dnB := decide_eq_true nB
    have HG : Hid (storeC t.p wl (al.map ActD.p) = 2) := by show _ = _; rw [HRES.out]; rw [if_neg KK.out]; exact if_pos (.inl (by have := most_le t.kind; omega))
    clear HSA
    go_enter Tryz.func60, Tryz.ntmps60
    go_wp2
    go_ret
    exact ⟨by rw [HG.out]; rfl, bl_alloc (Below.refl _ _)⟩
  have dnB := decide_eq_false nB
  by_cases k2 : t.kind = 2
  · have e2 : (t.kind == 2) = true := by simpa using k2
    have MK : Hid (mostK t.kind = 1) := if_pos k2
    clear k2
    by_cases nC : (1 : Int) < (wq.n : Int)
    · have dnC := decide_eq_true nC
      have HG : Hid (storeC t.p wl (al.map ActD.p) = 2) := by show _ = _; rw [HRES.out]; rw [if_neg KK.out]; exact if_pos (.inl (by rw [MK.out]; omega))
      clear HSA
      go_enter Tryz.func60, Tryz.ntmps60
      go_wp2
      go_ret
      exact ⟨by rw [HG.out]; rfl, bl_alloc (Below.refl _ _)⟩
    have dnC := decide_eq_false nC
    by_cases aA : (t.acts.n : Int) < 1
    · have daA := decide_eq_true aA
      have HG : Hid (storeC t.p wl (al.map ActD.p) = 2) := by show _ = _; rw [HRES.out]; rw [if_neg KK.out]; exact if_pos (.inr (by omega))
      clear HSA
      go_enter Tryz.func60, Tryz.ntmps60
      go_wp2
      go_ret
      exact ⟨by rw [HG.out]; rfl, bl_alloc (Below.refl _ _)⟩
    have daA := decide_eq_false aA
    by_cases aB : (4 : Int) < (t.acts.n : Int)
    · have daB := decide_eq_true aB
      have HG : Hid (storeC t.p wl (al.map ActD.p) = 2) := by show _ = _; rw [HRES.out]; rw [if_neg KK.out]; exact if_pos (.inr (by omega))
      clear HSA
      go_enter Tryz.func60, Tryz.ntmps60
      go_wp2
      go_ret
      exact ⟨by rw [HG.out]; rfl, bl_alloc (Below.refl _ _)⟩
    have daB := decide_eq_false aB
    have NN : Hid (¬ (¬ (1 ≤ (wq.n : Int) ∧ (wq.n : Int) ≤ mostK t.kind) ∨ ¬ (1 ≤ (t.acts.n : Int) ∧ (t.acts.n : Int) ≤ 4))) := by show ¬ (¬ (1 ≤ (wq.n : Int) ∧ (wq.n : Int) ≤ mostK t.kind) ∨ ¬ (1 ≤ (t.acts.n : Int) ∧ (t.acts.n : Int) ≤ 4)); rw [MK.out]; omega
    by_cases cA : t.cap < 0
    · have dcA := decide_eq_true cA
      have HG : Hid (storeC t.p wl (al.map ActD.p) = 1) := by show _ = _; rw [HRES.out]; rw [if_neg KK.out, if_neg NN.out]; exact if_pos (by omega)
      clear HSA
      go_enter Tryz.func60, Tryz.ntmps60
      go_wp2
      go_ret
      exact ⟨by rw [HG.out]; rfl, bl_alloc (Below.refl _ _)⟩
    have dcA := decide_eq_false cA
    by_cases cB : 16 < t.cap
    · have dcB := decide_eq_true cB
      have HG : Hid (storeC t.p wl (al.map ActD.p) = 1) := by show _ = _; rw [HRES.out]; rw [if_neg KK.out, if_neg NN.out]; exact if_pos (by omega)
      clear HSA
      go_enter Tryz.func60, Tryz.ntmps60
      go_wp2
      go_ret
      exact ⟨by rw [HG.out]; rfl, bl_alloc (Below.refl _ _)⟩
    have dcB := decide_eq_false cB
    rw [if_neg KK.out, if_neg NN.out, if_neg (by omega)] at HRES
    clear KK NN
    have HB0 : Hid (Below w.heap.size w (w.alloc t.box')) := bl_alloc (Below.refl _ _)
    obtain ⟨W1, hW⟩ : ∃ W1, W1 = w.alloc t.box' := ⟨_, rfl⟩
    obtain ⟨b0, h0⟩ : ∃ b0, b0 = w.heap.size := ⟨_, rfl⟩
    have z : ∀ i, W1.cell? ⟨b0, i, none⟩ = (#[.int .i64 t.kind, .slice t.keys.a t.keys.n t.keys.c, .slice t.acts.a t.acts.n t.acts.c, .int .i64 t.cap, .int .i64 t.dflt, .slice t.args.a t.args.n t.args.c] : Array Value)[i]? := fun i => by rw [hW, h0]; exact World.cell?_alloc_at _ _ _ _ rfl
    have z0 : W1.cell? ⟨b0, 0, none⟩ = some (.int .i64 t.kind) := z 0
    have z1 : W1.cell? ⟨b0, 1, none⟩ = some (.slice t.keys.a t.keys.n t.keys.c) := z 1
    have z2 : W1.cell? ⟨b0, 2, none⟩ = some (.slice t.acts.a t.acts.n t.acts.c) := z 2
    have z3 : W1.cell? ⟨b0, 3, none⟩ = some (.int .i64 t.cap) := z 3
    have z4 : W1.cell? ⟨b0, 4, none⟩ = some (.int .i64 t.dflt) := z 4
    have z5 : W1.cell? ⟨b0, 5, none⟩ = some (.slice t.args.a t.args.n t.args.c) := z 5
    have HB : Hid (Below w.heap.size w W1) := by rw [hW]; exact bl_alloc (Below.refl _ _)
    have EW := hid hW
    have E0 := hid h0
    clear hW h0 z HB0
    go_enter Tryz.func60, Tryz.ntmps60
    go_wp2
    rw [← EW.out, ← E0.out]
    clear EW E0
    go_loopw [7] (fun q wr => ∃ k : Nat, k ≤ wq.n ∧ q = .int .i64 k ∧ Hid (InC 1 48 wl = InC 1 48 (wl.drop k)) ∧ Hid (W1 = wr)) (fun q _ => wq.n - (intOf q).toNat)
    case atStart => exact ⟨0, Nat.zero_le _, rfl, rfl, rfl⟩
    case round =>
      obtain ⟨k, hk, rfl, hgo, hWr⟩ := hrel
      obtain rfl := hWr.out
      clear hWr
      by_cases hlt : k < wq.n
      · obtain ⟨g, off, u, eu, hu, r0⟩ := int_at' (HW.out.step HB.out) hlt
        obtain rfl : wa = some ⟨g, off, none⟩ := by rw [← EWA.out]; exact eu
        have hki : (k : Int) < (wq.n : Int) := by omega
        have hst := inc_drop (lo := 1) (hi := 48) hu
        clear eu hu
        by_cases g1 : u < 1
        · have f1 := decide_eq_true g1
          have HG : Hid (storeC t.p wl (al.map ActD.p) = 6) := by show _ = _; rw [HRES.out]; exact if_pos (by rw [hgo.out, hst, decide_eq_false (by omega)]; rfl)
          clear hst hgo g1
          go_wp2
          go_ret
          exact ⟨by rw [HG.out]; rfl, HB.out⟩
        have f1 := decide_eq_false g1
        by_cases g2 : 48 < u
        · have f2 := decide_eq_true g2
          have HG : Hid (storeC t.p wl (al.map ActD.p) = 6) := by show _ = _; rw [HRES.out]; exact if_pos (by rw [hgo.out, hst, decide_eq_false (by omega)]; rfl)
          clear hst hgo g1 g2
          go_wp2
          go_ret
          exact ⟨by rw [HG.out]; rfl, HB.out⟩
        · have f2 := decide_eq_false g2
          have HG : Hid (InC 1 48 wl = InC 1 48 (wl.drop (k + 1))) := by show _ = _; rw [hgo.out, hst, decide_eq_true (by omega)]; rfl
          clear hst hgo g1 g2
          go_wp2
          go_roundw
          case rel => exact ⟨k + 1, by omega, by go_num, HG, trivial⟩
          case measure => simp [intOf]; omega
      · have ek : k = wq.n := by omega
        have hki : ¬ (k : Int) < (wq.n : Int) := by omega
        have hall : InC 1 48 wl = true := by rw [hgo.out, ek, ← HWL.out, List.drop_length]; rfl
        have HR2 : Hid (storeC t.p wl (al.map ActD.p) = if InC 0 ((aq.n : Int) - 1) t.al = false then 1 else saysC (al.map ActD.p) t.al t.dflt t.zs) := by show _ = _; rw [HRES.out, if_neg (by rw [hall]; decide)]
        clear hgo ek hall HRES
        go_wp2
        go_loopw [8] (fun q wr => ∃ j : Nat, j ≤ t.acts.n ∧ q = .int .i64 j ∧ Hid (InC 0 ((aq.n : Int) - 1) t.al = InC 0 ((aq.n : Int) - 1) (t.al.drop j)) ∧ Hid (W1 = wr)) (fun q _ => t.acts.n - (intOf q).toNat)
        case atStart => exact ⟨0, Nat.zero_le _, rfl, rfl, rfl⟩
        case round =>
          obtain ⟨j, hj, rfl, hgo, hWr⟩ := hrel
          obtain rfl := hWr.out
          clear hWr
          by_cases hlj : j < t.acts.n
          · obtain ⟨g, off, u, eu, hu, r0⟩ := int_at' (HT.out.step HB.out) hlj
            have hji : (j : Int) < (t.acts.n : Int) := by omega
            have hst := inc_drop (lo := 0) (hi := (aq.n : Int) - 1) hu
            clear hu
            by_cases g1 : u < 0
            · have f1 := decide_eq_true g1
              have HG : Hid (storeC t.p wl (al.map ActD.p) = 1) := by show _ = _; rw [HR2.out]; exact if_pos (by rw [hgo.out, hst, decide_eq_false (by omega)]; rfl)
              clear hst hgo g1
              go_wp2
              go_ret
              exact ⟨by rw [HG.out]; rfl, HB.out⟩
            have f1 := decide_eq_false g1
            by_cases g2 : (aq.n : Int) ≤ u
            · have f2 := decide_eq_true g2
              have HG : Hid (storeC t.p wl (al.map ActD.p) = 1) := by show _ = _; rw [HR2.out]; exact if_pos (by rw [hgo.out, hst, decide_eq_false (by omega)]; rfl)
              clear hst hgo g1 g2
              go_wp2
              go_ret
              exact ⟨by rw [HG.out]; rfl, HB.out⟩
            · have f2 := decide_eq_false g2
              have HG : Hid (InC 0 ((aq.n : Int) - 1) t.al = InC 0 ((aq.n : Int) - 1) (t.al.drop (j + 1))) := by show _ = _; rw [hgo.out, hst, decide_eq_true (by omega)]; rfl
              clear hst hgo g1 g2
              go_wp2
              go_roundw
              case rel => exact ⟨j + 1, by omega, by go_num, HG, trivial⟩
              case measure => simp [intOf]; omega
          · have ej : j = t.acts.n := by omega
            have hji : ¬ (j : Int) < (t.acts.n : Int) := by omega
            have hall : InC 0 ((aq.n : Int) - 1) t.al = true := by rw [hgo.out, ej, ← HTL.out, List.drop_length]; rfl
            have HG : Hid (storeC t.p wl (al.map ActD.p) = saysC (al.map ActD.p) t.al t.dflt t.zs) := by show _ = _; rw [HR2.out, if_neg (by rw [hall]; decide)]
            have HS2 := hid (HSA.out hall W1 HB.out)
            clear hgo ej hall HSA HR2
            go_wp2_with fail
            refine HS2.out.mono ?_
            rintro e w2 ⟨rfl, hb2⟩
            have HE := hid (bl_step HB.out hb2)
            clear HS2 hb2 HB
            go_wp2
            go_ret
            exact ⟨by rw [HG.out]; rfl, HE.out⟩
  · have e2 : (t.kind == 2) = false := by simpa using k2
    have MK : Hid (mostK t.kind = 3) := if_neg k2
    clear k2
    by_cases aA : (t.acts.n : Int) < 1
    · have daA := decide_eq_true aA
      have HG : Hid (storeC t.p wl (al.map ActD.p) = 2) := by show _ = _; rw [HRES.out]; rw [if_neg KK.out]; exact if_pos (.inr (by omega))
      clear HSA
      go_enter Tryz.func60, Tryz.ntmps60
      go_wp2
      go_ret
      exact ⟨by rw [HG.out]; rfl, bl_alloc (Below.refl _ _)⟩
    have daA := decide_eq_false aA
    by_cases aB : (4 : Int) < (t.acts.n : Int)
    · have daB := decide_eq_true aB
      have HG : Hid (storeC t.p wl (al.map ActD.p) = 2) := by show _ = _; rw [HRES.out]; rw [if_neg KK.out]; exact if_pos (.inr (by omega))
      clear HSA
      go_enter Tryz.func60, Tryz.ntmps60
      go_wp2
      go_ret
      exact ⟨by rw [HG.out]; rfl, bl_alloc (Below.refl _ _)⟩
    have daB := decide_eq_false aB
    have NN : Hid (¬ (¬ (1 ≤ (wq.n : Int) ∧ (wq.n : Int) ≤ mostK t.kind) ∨ ¬ (1 ≤ (t.acts.n : Int) ∧ (t.acts.n : Int) ≤ 4))) := by show ¬ (¬ (1 ≤ (wq.n : Int) ∧ (wq.n : Int) ≤ mostK t.kind) ∨ ¬ (1 ≤ (t.acts.n : Int) ∧ (t.acts.n : Int) ≤ 4)); rw [MK.out]; omega
    by_cases cA : t.cap < 0
    · have dcA := decide_eq_true cA
      have HG : Hid (storeC t.p wl (al.map ActD.p) = 1) := by show _ = _; rw [HRES.out]; rw [if_neg KK.out, if_neg NN.out]; exact if_pos (by omega)
      clear HSA
      go_enter Tryz.func60, Tryz.ntmps60
      go_wp2
      go_ret
      exact ⟨by rw [HG.out]; rfl, bl_alloc (Below.refl _ _)⟩
    have dcA := decide_eq_false cA
    by_cases cB : 16 < t.cap
    · have dcB := decide_eq_true cB
      have HG : Hid (storeC t.p wl (al.map ActD.p) = 1) := by show _ = _; rw [HRES.out]; rw [if_neg KK.out, if_neg NN.out]; exact if_pos (by omega)
      clear HSA
      go_enter Tryz.func60, Tryz.ntmps60
      go_wp2
      go_ret
      exact ⟨by rw [HG.out]; rfl, bl_alloc (Below.refl _ _)⟩
    have dcB := decide_eq_false cB
    rw [if_neg KK.out, if_neg NN.out, if_neg (by omega)] at HRES
    clear KK NN
    have HB0 : Hid (Below w.heap.size w (w.alloc t.box')) := bl_alloc (Below.refl _ _)
    obtain ⟨W1, hW⟩ : ∃ W1, W1 = w.alloc t.box' := ⟨_, rfl⟩
    obtain ⟨b0, h0⟩ : ∃ b0, b0 = w.heap.size := ⟨_, rfl⟩
    have z : ∀ i, W1.cell? ⟨b0, i, none⟩ = (#[.int .i64 t.kind, .slice t.keys.a t.keys.n t.keys.c, .slice t.acts.a t.acts.n t.acts.c, .int .i64 t.cap, .int .i64 t.dflt, .slice t.args.a t.args.n t.args.c] : Array Value)[i]? := fun i => by rw [hW, h0]; exact World.cell?_alloc_at _ _ _ _ rfl
    have z0 : W1.cell? ⟨b0, 0, none⟩ = some (.int .i64 t.kind) := z 0
    have z1 : W1.cell? ⟨b0, 1, none⟩ = some (.slice t.keys.a t.keys.n t.keys.c) := z 1
    have z2 : W1.cell? ⟨b0, 2, none⟩ = some (.slice t.acts.a t.acts.n t.acts.c) := z 2
    have z3 : W1.cell? ⟨b0, 3, none⟩ = some (.int .i64 t.cap) := z 3
    have z4 : W1.cell? ⟨b0, 4, none⟩ = some (.int .i64 t.dflt) := z 4
    have z5 : W1.cell? ⟨b0, 5, none⟩ = some (.slice t.args.a t.args.n t.args.c) := z 5
    have HB : Hid (Below w.heap.size w W1) := by rw [hW]; exact bl_alloc (Below.refl _ _)
    have EW := hid hW
    have E0 := hid h0
    clear hW h0 z HB0
    go_enter Tryz.func60, Tryz.ntmps60
    go_wp2
    rw [← EW.out, ← E0.out]
    clear EW E0
    go_loopw [7] (fun q wr => ∃ k : Nat, k ≤ wq.n ∧ q = .int .i64 k ∧ Hid (InC 1 48 wl = InC 1 48 (wl.drop k)) ∧ Hid (W1 = wr)) (fun q _ => wq.n - (intOf q).toNat)
    case atStart => exact ⟨0, Nat.zero_le _, rfl, rfl, rfl⟩
    case round =>
      obtain ⟨k, hk, rfl, hgo, hWr⟩ := hrel
      obtain rfl := hWr.out
      clear hWr
      by_cases hlt : k < wq.n
      · obtain ⟨g, off, u, eu, hu, r0⟩ := int_at' (HW.out.step HB.out) hlt
        obtain rfl : wa = some ⟨g, off, none⟩ := by rw [← EWA.out]; exact eu
        have hki : (k : Int) < (wq.n : Int) := by omega
        have hst := inc_drop (lo := 1) (hi := 48) hu
        clear eu hu
        by_cases g1 : u < 1
        · have f1 := decide_eq_true g1
          have HG : Hid (storeC t.p wl (al.map ActD.p) = 6) := by show _ = _; rw [HRES.out]; exact if_pos (by rw [hgo.out, hst, decide_eq_false (by omega)]; rfl)
          clear hst hgo g1
          go_wp2
          go_ret
          exact ⟨by rw [HG.out]; rfl, HB.out⟩
        have f1 := decide_eq_false g1
        by_cases g2 : 48 < u
        · have f2 := decide_eq_true g2
          have HG : Hid (storeC t.p wl (al.map ActD.p) = 6) := by show _ = _; rw [HRES.out]; exact if_pos (by rw [hgo.out, hst, decide_eq_false (by omega)]; rfl)
          clear hst hgo g1 g2
          go_wp2
          go_ret
          exact ⟨by rw [HG.out]; rfl, HB.out⟩
        · have f2 := decide_eq_false g2
          have HG : Hid (InC 1 48 wl = InC 1 48 (wl.drop (k + 1))) := by show _ = _; rw [hgo.out, hst, decide_eq_true (by omega)]; rfl
          clear hst hgo g1 g2
          go_wp2
          go_roundw
          case rel => exact ⟨k + 1, by omega, by go_num, HG, trivial⟩
          case measure => simp [intOf]; omega
      · have ek : k = wq.n := by omega
        have hki : ¬ (k : Int) < (wq.n : Int) := by omega
        have hall : InC 1 48 wl = true := by rw [hgo.out, ek, ← HWL.out, List.drop_length]; rfl
        have HR2 : Hid (storeC t.p wl (al.map ActD.p) = if InC 0 ((aq.n : Int) - 1) t.al = false then 1 else saysC (al.map ActD.p) t.al t.dflt t.zs) := by show _ = _; rw [HRES.out, if_neg (by rw [hall]; decide)]
        clear hgo ek hall HRES
        go_wp2
        go_loopw [8] (fun q wr => ∃ j : Nat, j ≤ t.acts.n ∧ q = .int .i64 j ∧ Hid (InC 0 ((aq.n : Int) - 1) t.al = InC 0 ((aq.n : Int) - 1) (t.al.drop j)) ∧ Hid (W1 = wr)) (fun q _ => t.acts.n - (intOf q).toNat)
        case atStart => exact ⟨0, Nat.zero_le _, rfl, rfl, rfl⟩
        case round =>
          obtain ⟨j, hj, rfl, hgo, hWr⟩ := hrel
          obtain rfl := hWr.out
          clear hWr
          by_cases hlj : j < t.acts.n
          · obtain ⟨g, off, u, eu, hu, r0⟩ := int_at' (HT.out.step HB.out) hlj
            have hji : (j : Int) < (t.acts.n : Int) := by omega
            have hst := inc_drop (lo := 0) (hi := (aq.n : Int) - 1) hu
            clear hu
            by_cases g1 : u < 0
            · have f1 := decide_eq_true g1
              have HG : Hid (storeC t.p wl (al.map ActD.p) = 1) := by show _ = _; rw [HR2.out]; exact if_pos (by rw [hgo.out, hst, decide_eq_false (by omega)]; rfl)
              clear hst hgo g1
              go_wp2
              go_ret
              exact ⟨by rw [HG.out]; rfl, HB.out⟩
            have f1 := decide_eq_false g1
            by_cases g2 : (aq.n : Int) ≤ u
            · have f2 := decide_eq_true g2
              have HG : Hid (storeC t.p wl (al.map ActD.p) = 1) := by show _ = _; rw [HR2.out]; exact if_pos (by rw [hgo.out, hst, decide_eq_false (by omega)]; rfl)
              clear hst hgo g1 g2
              go_wp2
              go_ret
              exact ⟨by rw [HG.out]; rfl, HB.out⟩
            · have f2 := decide_eq_false g2
              have HG : Hid (InC 0 ((aq.n : Int) - 1) t.al = InC 0 ((aq.n : Int) - 1) (t.al.drop (j + 1))) := by show _ = _; rw [hgo.out, hst, decide_eq_true (by omega)]; rfl
              clear hst hgo g1 g2
              go_wp2
              go_roundw
              case rel => exact ⟨j + 1, by omega, by go_num, HG, trivial⟩
              case measure => simp [intOf]; omega
          · have ej : j = t.acts.n := by omega
            have hji : ¬ (j : Int) < (t.acts.n : Int) := by omega
            have hall : InC 0 ((aq.n : Int) - 1) t.al = true := by rw [hgo.out, ej, ← HTL.out, List.drop_length]; rfl
            have HG : Hid (storeC t.p wl (al.map ActD.p) = saysC (al.map ActD.p) t.al t.dflt t.zs) := by show _ = _; rw [HR2.out, if_neg (by rw [hall]; decide)]
            have HS2 := hid (HSA.out hall W1 HB.out)
            clear hgo ej hall HSA HR2
            go_wp2_with fail
            refine HS2.out.mono ?_
            rintro e w2 ⟨rfl, hb2⟩
            have HE := hid (bl_step HB.out hb2)
            clear HS2 hb2 HB
            go_wp2
            go_ret
            exact ⟨by rw [HG.out]; rfl, HE.out⟩
end Go.Proofs.YtlnkfgdepddmladGreat
