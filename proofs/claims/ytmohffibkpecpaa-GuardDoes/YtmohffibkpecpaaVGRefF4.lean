/- The document's insForm of bare instructions: a call. -/
import Derived.Test.YtmohffibkpecpaaVGRefF1
import Derived.Deep.DeepCutAuto
namespace Go.Proofs.Ytmohffibkpecpaa
open Go.RowKit

set_option maxHeartbeats 8000000 in
set_option maxRecDepth 20000 in
theorem rinsOp13 (d : ProgD) (x : InsD) (w : World) (hl : d.lie w) (hs : OkSz d) (hx : x.wf) (ho : x.op = 13) (hbare : bareB x = true) : Calls Try.prog 26 #[d.v, x.v] w (TellB (formB x && fitsB d.slots d.ts x) w) := by
  obtain ⟨op, r, s, k, tt, n⟩ := x
  dsimp only at ho
  subst op
  have hb := hbare
  unfold bareB at hb
  simp only [Bool.and_eq_true, Bool.or_eq_true, decide_eq_true_eq] at hb
  obtain ⟨⟨⟨⟨b1, b2⟩, b3⟩, b4⟩, b5⟩ := hb
  obtain rfl : tt = 0 := by simpa [hasT, fieldsN] using b4
  have HBARE := hid hbare
  clear hbare b1 b2 b3 b5
  have EV : Hid ((formB ⟨13, r, s, k, 0, n⟩ && fitsB d.slots d.ts ⟨13, r, s, k, 0, n⟩) = (inB r 0 9 && (callB d.slots d.ts ⟨13, r, s, k, 0, n⟩))) := by
    show _ = _
    have hb := HBARE.out
    unfold formB fitsB regsB
    simp only [hb]
    simp [show inB 13 1 18 = true from rfl]
  obtain ⟨W2, hW2⟩ : ∃ W2, W2 = ((w.alloc (.cells #[.int .i64 d.slots, .slice d.tabs.a d.tabs.n d.tabs.c, .slice d.code.a d.code.n d.code.c] 25)).alloc (.cells #[.int .i64 (13 : Int), .int .i64 r, .int .i64 s, .int .i64 k, .int .i64 (0 : Int), .int .u64 n] 35)) := ⟨_, rfl⟩
  obtain ⟨pb, hpb⟩ : ∃ b, b = w.heap.size := ⟨_, rfl⟩
  obtain ⟨ib, hib⟩ : ∃ b, b = w.heap.size + 1 := ⟨_, rfl⟩
  have HB : Hid (Below w.heap.size w W2) := by rw [hW2]; exact bl_alloc (bl_alloc (Below.refl _ _))
  have PB : Hid (PBox d W2 pb) := by rw [hW2, hpb]; exact (pbox_new d w).step (bl_alloc (Below.refl _ _))
  have IB : Hid (IBox ⟨13, r, s, k, 0, n⟩ W2 ib) := by
    show IBox ⟨13, r, s, k, 0, n⟩ W2 ib
    rw [hW2, hib]
    have := ibox_new ⟨13, r, s, k, 0, n⟩ (w.alloc (.cells #[.int .i64 d.slots, .slice d.tabs.a d.tabs.n d.tabs.c, .slice d.code.a d.code.n d.code.c] 25))
    simpa using this
  have HF := hid (rfields (13 : Int) W2)
  have HR := hid (fun n w => risReg n w)
  have HL := hid hl
  have HS := hid hs
  have HX := hid hx
  have EW := hid hW2
  have EP := hid hpb
  have EI := hid hib
  have HT : Hid (∀ b w', b = (formB ⟨13, r, s, k, 0, n⟩ && fitsB d.slots d.ts ⟨13, r, s, k, 0, n⟩) → Below w.heap.size w w' → TellB (formB ⟨13, r, s, k, 0, n⟩ && fitsB d.slots d.ts ⟨13, r, s, k, 0, n⟩) w (.returned (.bool b)) w') := fun b w' e h => ⟨by rw [e], h⟩
  dsimp only [ProgD.v, InsD.v]
  clear hl hs hx hW2 hpb hib
  go_enter Try.func26, Try.ntmps26
  go_wp2_with fail
  rw [← EW.out, ← EI.out, ← EP.out]
  clear EW EI EP
  refine HF.out.mono ?_
  rintro e w3 ⟨rfl, hb3⟩
  obtain ⟨W4, hW4⟩ : ∃ W4, W4 = w3.alloc (.cells #[.bool (hasR (13 : Int)), .bool (hasS (13 : Int)), .bool (hasK (13 : Int)), .bool (hasT (13 : Int)), .bool (hasN (13 : Int))] 59) := ⟨_, rfl⟩
  obtain ⟨hb, hhb⟩ : ∃ b, b = w3.heap.size := ⟨_, rfl⟩
  have b4 : Below W2.heap.size W2 W4 := by rw [hW4]; exact bl_alloc hb3
  have FA : Hid (FAt d ⟨13, r, s, k, 0, n⟩ W4 pb ib hb) := ⟨PB.out.step b4, IB.out.step b4, by rw [hW4, hhb]; simp, by rw [hW4, hhb]; simp, by rw [hW4, hhb]; simp, by rw [hW4, hhb]; simp, by rw [hW4, hhb]; simp⟩
  have HB4 := hid (bl_step HB.out b4)
  have EW4 := hid hW4
  have EH := hid hhb
  clear HF hb3 hW4 hhb b4 PB IB HB
  go_upto_region 2 with fail
  rw [← EW4.out, ← EH.out]
  clear EW4 EH
  obtain ⟨⟨p0, p1, p2⟩, ⟨i0, i1, i2, i3, i4, i5⟩, h0, h1, h2, h3, h4⟩ := FA.out
  have hs1 := HS.out.1
  have hs2 := HS.out.2.1
  have hu : IntKind.u64.wrap d.slots = d.slots := gwrap_u _ (by omega) (by omega)
  rw [show inB 13 1 18 = true from rfl]
  rw [show hasR 13 = true from rfl] at h0
  rw [show hasS 13 = true from rfl] at h1
  rw [show hasK 13 = true from rfl] at h2
  rw [show hasT 13 = false from rfl] at h3
  rw [show hasN 13 = true from rfl] at h4
  dsimp only at i0 i1 i2 i3 i4 i5
  cases hRR : inB r 0 9 with
  | false =>
    have ER := hid hRR
    clear hRR
    go_wp2_with fail
    refine (HR.out _ _).mono ?_
    rintro e w5 ⟨rfl, rfl⟩
    rw [ER.out]
    go_wp2
    go_ret
    exact HT.out _ _ (by rw [EV.out, ER.out] <;> (first | rfl | simp)) HB4.out
  | true =>
    have ER := hid hRR
    clear hRR
    go_wp2_with fail
    refine (HR.out _ _).mono ?_
    rintro e w5 ⟨rfl, rfl⟩
    rw [ER.out]
    cases hSS : inB s 0 9 with
    | false =>
      have ES := hid hSS
      clear hSS
      go_wp2_with fail
      refine (HR.out _ _).mono ?_
      rintro e w5 ⟨rfl, rfl⟩
      rw [ES.out]
      have EC0 : Hid ((formB ⟨13, r, s, k, 0, n⟩ && fitsB d.slots d.ts ⟨13, r, s, k, 0, n⟩) = callB d.slots d.ts ⟨13, r, s, k, 0, n⟩) := by show _ = _; rw [EV.out, ER.out, Bool.true_and]
      have hn0 := bounds_u64 HX.out.2.2.2.2.2
      dsimp only at hn0
      obtain ⟨nn, hnn⟩ : ∃ z : Nat, n = (z : Int) := ⟨n.toNat, by omega⟩
      have HNN := hid hnn
      have hn5 := HS.out.2.2.1
      rw [hnn] at i5
      have HLT := hid (HL.out.t.1)
      have HS6 := hid (HS.out.2.2.2.2.2)
      clear hn0 hnn hu
      go_wp2
      go_loopw [7] (fun q wr => ∃ j : Nat, j ≤ d.tabs.n ∧ q = .int .i64 j ∧ wr = w5 ∧ Hid (j ≤ nn)) (fun q _ => d.tabs.n - (intOf q).toNat)
      case atStart => exact ⟨0, Nat.zero_le _, rfl, rfl, Nat.zero_le _⟩
      case round =>
        obtain ⟨j, hj, rfl, hwr, HJ⟩ := hrel
        subst wr
        by_cases hlt : j < d.tabs.n
        · have hji : (j : Int) < (d.tabs.n : Int) := by omega
          have hwj := gwrap_u (j : Int) (by omega) (by omega)
          by_cases hjn : j = nn
          · subst hjn
            obtain ⟨g, off, t, ea, ht, ⟨t0, _⟩, ⟨t1, _⟩, ⟨t2, _⟩⟩ := grow_at (HL.out.step HB4.out).t hlt
            have hk := HS6.out t (List.mem_of_getElem? ht)
            have EC : Hid ((formB ⟨13, r, s, k, 0, n⟩ && fitsB d.slots d.ts ⟨13, r, s, k, 0, n⟩) = (decide (0 ≤ s) && decide (s ≤ d.slots) && decide (t.keys ≤ d.slots - s) && decide (0 ≤ k) && decide (k ≤ d.slots) && decide (t.args ≤ d.slots - k))) := by
              show _ = _
              rw [EC0.out]
              unfold callB
              dsimp only
              rw [HNN.out, Int.toNat_natCast, ht]
              exact call_as hk
            rw [ea] at p1
            have HBB := hid (bl_alloc (o := .cells #[.int .i64 t.keys, .int .i64 t.acts, .int .i64 t.args] 64) HB4.out)
            have li : ib < w5.heap.size := World.block_lt_of_cell? _ _ i0
            have lp : pb < w5.heap.size := World.block_lt_of_cell? _ _ p0
            have hxs := bounds_i64 HX.out.2.2.1
            have hxk := bounds_i64 HX.out.2.2.2.1
            dsimp only at hxs hxk
            clear ea ht HB4 HLT HS6 HL HS FA EC0 EV
            by_cases a1 : 0 ≤ s
            rotate_left
            · have b1 := hid a1
              go_wp2
              go_ret
              exact HT.out _ _ (by rw [EC.out]; have k0 := b1.out; simp <;> omega) HBB.out
            have b1 := hid a1
            by_cases a2 : s ≤ d.slots
            rotate_left
            · have b2 := hid a2
              go_wp2
              go_ret
              exact HT.out _ _ (by rw [EC.out]; have k0 := b1.out; have k1 := b2.out; simp <;> omega) HBB.out
            have b2 := hid a2
            have hw1 := gwrap_i (d.slots - s) (by omega) (by omega)
            by_cases a3 : t.keys ≤ d.slots - s
            rotate_left
            · have b3 := hid a3
              go_wp2
              go_ret
              exact HT.out _ _ (by rw [EC.out]; have k0 := b1.out; have k1 := b2.out; have k2 := b3.out; simp <;> omega) HBB.out
            have b3 := hid a3
            by_cases a4 : 0 ≤ k
            rotate_left
            · have b4 := hid a4
              go_wp2
              go_ret
              exact HT.out _ _ (by rw [EC.out]; have k0 := b1.out; have k1 := b2.out; have k2 := b3.out; have k3 := b4.out; simp <;> omega) HBB.out
            have b4 := hid a4
            by_cases a5 : k ≤ d.slots
            rotate_left
            · have b5 := hid a5
              go_wp2
              go_ret
              exact HT.out _ _ (by rw [EC.out]; have k0 := b1.out; have k1 := b2.out; have k2 := b3.out; have k3 := b4.out; have k4 := b5.out; simp <;> omega) HBB.out
            have b5 := hid a5
            have hw2 := gwrap_i (d.slots - k) (by omega) (by omega)
            go_wp2
            go_ret
            exact HT.out _ _ (by rw [EC.out]; have k0 := b1.out; have k1 := b2.out; have k2 := b3.out; have k3 := b4.out; have k4 := b5.out; simp <;> omega) HBB.out
          · have hjb : ((j : Int) == (nn : Int)) = false := by
              rw [beq_eq_false_iff_ne]
              omega
            have HJ2 : Hid (j + 1 ≤ nn) := by have := HJ.out; show j + 1 ≤ nn; omega
            clear hjn
            go_wp2
            go_roundw
            case rel => exact ⟨j + 1, by omega, by go_num, trivial, HJ2⟩
            case measure => simp [intOf]; omega
        · have hji : ¬ (j : Int) < (d.tabs.n : Int) := by omega
          have EC : Hid (false = (formB ⟨13, r, s, k, 0, n⟩ && fitsB d.slots d.ts ⟨13, r, s, k, 0, n⟩)) := by
            show _ = _
            rw [EC0.out]
            unfold callB
            dsimp only
            rw [HNN.out, Int.toNat_natCast, List.getElem?_eq_none (by have := HLT.out; have := HJ.out; omega)]
          clear HLT HS6 HL HS FA EC0 EV
          go_wp2
          go_ret
          exact HT.out _ _ EC.out HB4.out
    | true =>
      have ES := hid hSS
      clear hSS
      go_wp2_with fail
      refine (HR.out _ _).mono ?_
      rintro e w5 ⟨rfl, rfl⟩
      rw [ES.out]
      have EC0 : Hid ((formB ⟨13, r, s, k, 0, n⟩ && fitsB d.slots d.ts ⟨13, r, s, k, 0, n⟩) = callB d.slots d.ts ⟨13, r, s, k, 0, n⟩) := by show _ = _; rw [EV.out, ER.out, Bool.true_and]
      have hn0 := bounds_u64 HX.out.2.2.2.2.2
      dsimp only at hn0
      obtain ⟨nn, hnn⟩ : ∃ z : Nat, n = (z : Int) := ⟨n.toNat, by omega⟩
      have HNN := hid hnn
      have hn5 := HS.out.2.2.1
      rw [hnn] at i5
      have HLT := hid (HL.out.t.1)
      have HS6 := hid (HS.out.2.2.2.2.2)
      clear hn0 hnn hu
      go_wp2
      go_loopw [7] (fun q wr => ∃ j : Nat, j ≤ d.tabs.n ∧ q = .int .i64 j ∧ wr = w5 ∧ Hid (j ≤ nn)) (fun q _ => d.tabs.n - (intOf q).toNat)
      case atStart => exact ⟨0, Nat.zero_le _, rfl, rfl, Nat.zero_le _⟩
      case round =>
        obtain ⟨j, hj, rfl, hwr, HJ⟩ := hrel
        subst wr
        by_cases hlt : j < d.tabs.n
        · have hji : (j : Int) < (d.tabs.n : Int) := by omega
          have hwj := gwrap_u (j : Int) (by omega) (by omega)
          by_cases hjn : j = nn
          · subst hjn
            obtain ⟨g, off, t, ea, ht, ⟨t0, _⟩, ⟨t1, _⟩, ⟨t2, _⟩⟩ := grow_at (HL.out.step HB4.out).t hlt
            have hk := HS6.out t (List.mem_of_getElem? ht)
            have EC : Hid ((formB ⟨13, r, s, k, 0, n⟩ && fitsB d.slots d.ts ⟨13, r, s, k, 0, n⟩) = (decide (0 ≤ s) && decide (s ≤ d.slots) && decide (t.keys ≤ d.slots - s) && decide (0 ≤ k) && decide (k ≤ d.slots) && decide (t.args ≤ d.slots - k))) := by
              show _ = _
              rw [EC0.out]
              unfold callB
              dsimp only
              rw [HNN.out, Int.toNat_natCast, ht]
              exact call_as hk
            rw [ea] at p1
            have HBB := hid (bl_alloc (o := .cells #[.int .i64 t.keys, .int .i64 t.acts, .int .i64 t.args] 64) HB4.out)
            have li : ib < w5.heap.size := World.block_lt_of_cell? _ _ i0
            have lp : pb < w5.heap.size := World.block_lt_of_cell? _ _ p0
            have hxs := bounds_i64 HX.out.2.2.1
            have hxk := bounds_i64 HX.out.2.2.2.1
            dsimp only at hxs hxk
            clear ea ht HB4 HLT HS6 HL HS FA EC0 EV
            by_cases a1 : 0 ≤ s
            rotate_left
            · have b1 := hid a1
              go_wp2
              go_ret
              exact HT.out _ _ (by rw [EC.out]; have k0 := b1.out; simp <;> omega) HBB.out
            have b1 := hid a1
            by_cases a2 : s ≤ d.slots
            rotate_left
            · have b2 := hid a2
              go_wp2
              go_ret
              exact HT.out _ _ (by rw [EC.out]; have k0 := b1.out; have k1 := b2.out; simp <;> omega) HBB.out
            have b2 := hid a2
            have hw1 := gwrap_i (d.slots - s) (by omega) (by omega)
            by_cases a3 : t.keys ≤ d.slots - s
            rotate_left
            · have b3 := hid a3
              go_wp2
              go_ret
              exact HT.out _ _ (by rw [EC.out]; have k0 := b1.out; have k1 := b2.out; have k2 := b3.out; simp <;> omega) HBB.out
            have b3 := hid a3
            by_cases a4 : 0 ≤ k
            rotate_left
            · have b4 := hid a4
              go_wp2
              go_ret
              exact HT.out _ _ (by rw [EC.out]; have k0 := b1.out; have k1 := b2.out; have k2 := b3.out; have k3 := b4.out; simp <;> omega) HBB.out
            have b4 := hid a4
            by_cases a5 : k ≤ d.slots
            rotate_left
            · have b5 := hid a5
              go_wp2
              go_ret
              exact HT.out _ _ (by rw [EC.out]; have k0 := b1.out; have k1 := b2.out; have k2 := b3.out; have k3 := b4.out; have k4 := b5.out; simp <;> omega) HBB.out
            have b5 := hid a5
            have hw2 := gwrap_i (d.slots - k) (by omega) (by omega)
            go_wp2
            go_ret
            exact HT.out _ _ (by rw [EC.out]; have k0 := b1.out; have k1 := b2.out; have k2 := b3.out; have k3 := b4.out; have k4 := b5.out; simp <;> omega) HBB.out
          · have hjb : ((j : Int) == (nn : Int)) = false := by
              rw [beq_eq_false_iff_ne]
              omega
            have HJ2 : Hid (j + 1 ≤ nn) := by have := HJ.out; show j + 1 ≤ nn; omega
            clear hjn
            go_wp2
            go_roundw
            case rel => exact ⟨j + 1, by omega, by go_num, trivial, HJ2⟩
            case measure => simp [intOf]; omega
        · have hji : ¬ (j : Int) < (d.tabs.n : Int) := by omega
          have EC : Hid (false = (formB ⟨13, r, s, k, 0, n⟩ && fitsB d.slots d.ts ⟨13, r, s, k, 0, n⟩)) := by
            show _ = _
            rw [EC0.out]
            unfold callB
            dsimp only
            rw [HNN.out, Int.toNat_natCast, List.getElem?_eq_none (by have := HLT.out; have := HJ.out; omega)]
          clear HLT HS6 HL HS FA EC0 EV
          go_wp2
          go_ret
          exact HT.out _ _ EC.out HB4.out
end Go.Proofs.Ytmohffibkpecpaa
