/- The document's saysFault: what a table may say. -/
import Derived.Test.YtlnkfgdepddmladGreatVQR4
import Derived.Test.YtlnkfgdepddmladGreatVQChk
namespace Go.Proofs.YtlnkfgdepddmladGreat
open Go.RowKit

set_option maxHeartbeats 8000000 in
set_option maxRecDepth 20000 in
theorem rsays_any (t : TabD) (aq : QSl) (al : List ActD) (dflt : Int) (a : Option Addr) (n c : Nat) (zs : List Int) (w : World) (ht : Has .i64 w t.acts.a t.acts.n t.al) (htn : t.acts.n ≤ 100000) (ha : QRow 2 ActD.lie w aq al) (hin : ∀ i ∈ t.al, 0 ≤ i ∧ i < (aq.n : Int)) (hpw : ∀ x ∈ al, ∀ y ∈ x.ws, 1 ≤ y ∧ y ≤ 64) (hpn : ∀ x ∈ al, x.w.n ≤ 100000) (hz : Has .u64 w a n zs) :
    Calls Tryz.prog 121 #[t.v', .slice aq.a aq.n aq.c, .agg #[.int .i64 dflt, .slice a n c]] w fun e w' => e = .returned (.int .i64 (saysC (al.map ActD.p) t.al dflt zs)) ∧ Below w.heap.size w w' := by
  obtain ⟨W2, hW⟩ : ∃ W2, W2 = ((w.alloc t.box').alloc (.cells #[.int .i64 dflt, .slice a n c] 50)) := ⟨_, rfl⟩
  obtain ⟨b0, h0⟩ : ∃ b0, b0 = w.heap.size := ⟨_, rfl⟩
  obtain ⟨b1, h1⟩ : ∃ b1, b1 = w.heap.size + 1 := ⟨_, rfl⟩
  have y0 : W2.cell? ⟨b1, 0, none⟩ = some (.int .i64 dflt) := by rw [hW, h1]; exact (World.cell?_alloc_at _ _ _ _ (by simp)).trans rfl
  have y1 : W2.cell? ⟨b1, 1, none⟩ = some (.slice a n c) := by rw [hW, h1]; exact (World.cell?_alloc_at _ _ _ _ (by simp)).trans rfl
  have HB : Hid (Below w.heap.size w W2) := by rw [hW]; exact bl_alloc (bl_alloc (Below.refl _ _))
  have HIN2 : Hid (Calls Tryz.prog 59 #[.slice t.acts.a t.acts.n t.acts.c, .int .i64 dflt] W2 fun e w'' => e = .returned (.bool (decide (dflt ∈ t.al))) ∧ w'' = W2) := in_any _ _ _ t.al dflt W2 htn (ht.step HB.out)
  have E3 := hid hW
  have E0 := hid h0
  have E1 := hid h1
  clear hW h0 h1
  by_cases hm : dflt ∈ t.al
  · obtain ⟨g0, g1⟩ := hin dflt hm
    obtain ⟨j, rfl⟩ : ∃ j : Nat, dflt = j := ⟨dflt.toNat, by omega⟩
    obtain ⟨ag, aoff, x, eaq, hx, ⟨c0, _⟩, _, hws, _⟩ := row_at (ha.step ActD.keeps HB.out) (show j < aq.n by omega)
    have hji : (j : Int) < (aq.n : Int) := by omega
    have hxm := List.mem_of_getElem? hx
    have HRES : Hid (saysC (al.map ActD.p) t.al j zs = hit2 zs x.ws) := by
      show saysC (al.map ActD.p) t.al j zs = _
      unfold saysC
      rw [if_pos hm, Int.toNat_natCast, List.getD_eq_getElem?_getD, List.getElem?_map, hx]
      rfl
    have HPW := hid (hpw x hxm)
    have hxn := hpn x hxm
    have HWS := hid hws
    have HZ := hid (hz.step HB.out)
    obtain ⟨qa, eqa⟩ : ∃ qa, aq.a = qa := ⟨_, rfl⟩
    rw [eqa]
    obtain rfl : qa = some ⟨ag, aoff, none⟩ := by rw [← eqa]; exact eaq
    obtain ⟨wa, ewa⟩ : ∃ wa, x.w.a = wa := ⟨_, rfl⟩
    rw [ewa] at c0
    have EWA := hid ewa
    rw [decide_eq_true hm] at HIN2
    clear ht ha hin hpw hpn hz hm g0 g1 hx hxm hws eaq eqa ewa
    go_enter Tryz.func121, Tryz.ntmps121
    go_wp2_with fail
    rw [← E3.out, ← E1.out, ← E0.out]
    refine HIN2.out.mono ?_
    rintro e w1 ⟨rfl, rfl⟩
    clear HIN2 E3 E1 E0
    by_cases hl : (x.w.n : Int) = (n : Int)
    · have b1' : ((x.w.n : Int) != (n : Int)) = false := by simpa using hl
      have HR2 : Hid (hit2 zs x.ws = if NarC zs x.ws then 0 else 6) := by
        show hit2 zs x.ws = _
        unfold hit2
        rw [if_neg (by have h1 := HZ.out.1; have h2 := HWS.out.1; omega)]
      have HNN : Hid (x.w.n = n) := by show x.w.n = n; omega
      have HBZ : Hid (Below w1.heap.size w1 w1) := Below.refl _ _
      clear hl
      go_wp2
      go_loopw [8] (fun q wr => ∃ k : Nat, k ≤ x.w.n ∧ q = .int .i64 k ∧ Hid (NarC zs x.ws = NarC (zs.drop k) (x.ws.drop k)) ∧ Hid (Below w1.heap.size w1 wr)) (fun q _ => x.w.n - (intOf q).toNat)
      case atStart => exact ⟨0, Nat.zero_le _, rfl, rfl, HBZ⟩
      case round =>
        obtain ⟨k, hk, rfl, hgo, hbw⟩ := hrel
        clear HBZ
        have BW := hid (bl_step HB.out hbw.out)
        have y1 := cell_keep y1 hbw.out
        by_cases hlt : k < x.w.n
        · obtain ⟨zg, zoff, z, ez, hzk, r0⟩ := num_at' (HZ.out.step hbw.out) (show k < n by have := HNN.out; omega)
          obtain ⟨pg, poff, y, ey, hyk, r1⟩ := int_at' (HWS.out.step hbw.out) hlt
          obtain rfl : wa = some ⟨pg, poff, none⟩ := by rw [← EWA.out]; exact ey
          have hki : (k : Int) < (x.w.n : Int) := by omega
          have hkn : (k : Int) < (n : Int) := by have := HNN.out; omega
          have hst := nar_drop hzk hyk
          have hz64 := HZ.out.nums z (List.mem_of_getElem? hzk)
          have hwl := wide_len hz64 (HPW.out y (List.mem_of_getElem? hyk))
          have HWI : Hid (∀ w', Calls Tryz.prog 118 #[.int .u64 z, .int .i64 y] w' fun e w'' => e = .returned (.bool (decide (maskN y < z))) ∧ w'' = w') := fun w' => wide_any z y w'
          rw [ez] at y1
          have y1' := cell_by y1
          have r0' := cell_by r0
          have r1' := cell_by r1
          clear hzk hyk ey hz64 ez
          generalize maskN y = M at *
          generalize blen z = L at *
          by_cases g1 : M < z
          · have HG : Hid (saysC (al.map ActD.p) t.al j zs = 6) := by
              show _ = _
              rw [HRES.out, HR2.out, hgo.out, hst, decide_eq_false (by have := hwl.1 g1; omega)]
              rfl
            rw [decide_eq_true g1] at HWI
            clear hst hgo hwl g1
            go_wp2_with fail
            haveI inhB : ∀ w : World, Inhabited (BelowBy w) := fun w => ⟨⟨w, Below.refl _ _⟩⟩
            refine wp_region_quiet_below (by kernel_rfl) (by kernel_rfl) ?_
            repeat (go_big_quiet_step (first | (go_at_call 118; exact calls_same _ (HWI.out _))))
            refine wpQuiet_nil ?_
            intro wq hw'
            obtain ⟨⟨_, hwq⟩, hw''⟩ := hw'
            subst hw''
            have HE := hid (bl_step BW.out hwq)
            clear hwq HWI hbw BW
            go_wp2
            go_ret
            exact ⟨by rw [HG.out]; rfl, HE.out⟩
          · have HG : Hid (NarC zs x.ws = NarC (zs.drop (k + 1)) (x.ws.drop (k + 1))) := by
              show _ = _
              rw [hgo.out, hst, decide_eq_true (by apply Classical.byContradiction; intro h; exact g1 (hwl.2 (by omega)))]
              rfl
            rw [decide_eq_false g1] at HWI
            clear hst hgo hwl g1
            go_wp2_with fail
            haveI inhB : ∀ w : World, Inhabited (BelowBy w) := fun w => ⟨⟨w, Below.refl _ _⟩⟩
            refine wp_region_quiet_below (by kernel_rfl) (by kernel_rfl) ?_
            repeat (go_big_quiet_step (first | (go_at_call 118; exact calls_same _ (HWI.out _))))
            refine wpQuiet_nil ?_
            intro wq hw'
            obtain ⟨⟨_, hwq⟩, hw''⟩ := hw'
            subst hw''
            have HE := hid (bl_step hbw.out hwq)
            clear hwq HWI hbw BW r0 r1 r0' r1' y1'
            go_wp2
            go_roundw
            case rel => exact ⟨k + 1, by omega, by go_num, HG, HE⟩
            case measure => simp [intOf]; omega
        · have ek : k = x.w.n := by omega
          have hki : ¬ (k : Int) < (x.w.n : Int) := by omega
          have HG : Hid (saysC (al.map ActD.p) t.al j zs = 0) := by
            show _ = _
            have : NarC zs x.ws = true := by
              rw [hgo.out, ek, ← HWS.out.1, List.drop_length]
              cases zs.drop x.ws.length <;> rfl
            rw [HRES.out, HR2.out, this]
            rfl
          clear hgo ek
          go_wp2
          go_ret
          exact ⟨by rw [HG.out]; rfl, BW.out⟩
    · have b1' : ((x.w.n : Int) != (n : Int)) = true := by simpa using hl
      have HG : Hid (saysC (al.map ActD.p) t.al j zs = 2) := by
        show _ = _
        rw [HRES.out]
        unfold hit2
        rw [if_pos (by have h1 := HZ.out.1; have h2 := HWS.out.1; omega)]
      clear hl
      go_wp2
      go_ret
      exact ⟨by rw [HG.out]; rfl, HB.out⟩
  · have HRES : Hid (saysC (al.map ActD.p) t.al dflt zs = 5) := by show saysC _ _ _ _ = 5; unfold saysC; rw [if_neg hm]
    rw [decide_eq_false hm] at HIN2
    clear ht ha hin hpw hpn hz hm
    go_enter Tryz.func121, Tryz.ntmps121
    go_wp2_with fail
    rw [← E3.out, ← E1.out, ← E0.out]
    refine HIN2.out.mono ?_
    rintro e w1 ⟨rfl, rfl⟩
    clear HIN2
    go_wp2
    go_ret
    exact ⟨by rw [HRES.out]; rfl, HB.out⟩
end Go.Proofs.YtlnkfgdepddmladGreat
