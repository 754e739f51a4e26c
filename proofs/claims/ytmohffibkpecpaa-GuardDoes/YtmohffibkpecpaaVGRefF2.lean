/- The document's insForm of bare instructions: 1 to 6. -/
import Derived.Test.YtmohffibkpecpaaVGRefF1
import Derived.Deep.DeepCutAuto
namespace Go.Proofs.Ytmohffibkpecpaa
open Go.RowKit

set_option maxHeartbeats 8000000 in
set_option maxRecDepth 20000 in
theorem rinsOp1 (d : ProgD) (x : InsD) (w : World) (hl : d.lie w) (hs : OkSz d) (hx : x.wf) (ho : x.op = 1) (hbare : bareB x = true) : Calls Try.prog 26 #[d.v, x.v] w (TellB (formB x && fitsB d.slots d.ts x) w) := by
  obtain ⟨op, r, s, k, tt, n⟩ := x
  dsimp only at ho
  subst op
  have hb := hbare
  unfold bareB at hb
  simp only [Bool.and_eq_true, Bool.or_eq_true, decide_eq_true_eq] at hb
  obtain ⟨⟨⟨⟨b1, b2⟩, b3⟩, b4⟩, b5⟩ := hb
  obtain rfl : s = 0 := by simpa [hasS, fieldsN] using b2
  obtain rfl : k = 0 := by simpa [hasK, fieldsN] using b3
  obtain rfl : tt = 0 := by simpa [hasT, fieldsN] using b4
  have HBARE := hid hbare
  clear hbare b1 b5
  have EV : Hid ((formB ⟨1, r, 0, 0, 0, n⟩ && fitsB d.slots d.ts ⟨1, r, 0, 0, 0, n⟩) = inB r 0 9) := by
    show _ = _
    have hb := HBARE.out
    unfold formB fitsB regsB
    simp only [hb]
    simp [show inB 0 0 9 = true from rfl, show inB 1 1 18 = true from rfl]
  obtain ⟨W2, hW2⟩ : ∃ W2, W2 = ((w.alloc (.cells #[.int .i64 d.slots, .slice d.tabs.a d.tabs.n d.tabs.c, .slice d.code.a d.code.n d.code.c] 25)).alloc (.cells #[.int .i64 (1 : Int), .int .i64 r, .int .i64 (0 : Int), .int .i64 (0 : Int), .int .i64 (0 : Int), .int .u64 n] 35)) := ⟨_, rfl⟩
  obtain ⟨pb, hpb⟩ : ∃ b, b = w.heap.size := ⟨_, rfl⟩
  obtain ⟨ib, hib⟩ : ∃ b, b = w.heap.size + 1 := ⟨_, rfl⟩
  have HB : Hid (Below w.heap.size w W2) := by rw [hW2]; exact bl_alloc (bl_alloc (Below.refl _ _))
  have PB : Hid (PBox d W2 pb) := by rw [hW2, hpb]; exact (pbox_new d w).step (bl_alloc (Below.refl _ _))
  have IB : Hid (IBox ⟨1, r, 0, 0, 0, n⟩ W2 ib) := by
    show IBox ⟨1, r, 0, 0, 0, n⟩ W2 ib
    rw [hW2, hib]
    have := ibox_new ⟨1, r, 0, 0, 0, n⟩ (w.alloc (.cells #[.int .i64 d.slots, .slice d.tabs.a d.tabs.n d.tabs.c, .slice d.code.a d.code.n d.code.c] 25))
    simpa using this
  have HF := hid (rfields (1 : Int) W2)
  have HR := hid (fun n w => risReg n w)
  have HL := hid hl
  have HS := hid hs
  have HX := hid hx
  have EW := hid hW2
  have EP := hid hpb
  have EI := hid hib
  have HT : Hid (∀ b w', b = (formB ⟨1, r, 0, 0, 0, n⟩ && fitsB d.slots d.ts ⟨1, r, 0, 0, 0, n⟩) → Below w.heap.size w w' → TellB (formB ⟨1, r, 0, 0, 0, n⟩ && fitsB d.slots d.ts ⟨1, r, 0, 0, 0, n⟩) w (.returned (.bool b)) w') := fun b w' e h => ⟨by rw [e], h⟩
  dsimp only [ProgD.v, InsD.v]
  clear hl hs hx hW2 hpb hib
  go_enter Try.func26, Try.ntmps26
  go_wp2_with fail
  rw [← EW.out, ← EI.out, ← EP.out]
  clear EW EI EP
  refine HF.out.mono ?_
  rintro e w3 ⟨rfl, hb3⟩
  obtain ⟨W4, hW4⟩ : ∃ W4, W4 = w3.alloc (.cells #[.bool (hasR (1 : Int)), .bool (hasS (1 : Int)), .bool (hasK (1 : Int)), .bool (hasT (1 : Int)), .bool (hasN (1 : Int))] 59) := ⟨_, rfl⟩
  obtain ⟨hb, hhb⟩ : ∃ b, b = w3.heap.size := ⟨_, rfl⟩
  have b4 : Below W2.heap.size W2 W4 := by rw [hW4]; exact bl_alloc hb3
  have FA : Hid (FAt d ⟨1, r, 0, 0, 0, n⟩ W4 pb ib hb) := ⟨PB.out.step b4, IB.out.step b4, by rw [hW4, hhb]; simp, by rw [hW4, hhb]; simp, by rw [hW4, hhb]; simp, by rw [hW4, hhb]; simp, by rw [hW4, hhb]; simp⟩
  have HB4 := hid (bl_step HB.out b4)
  have EW4 := hid hW4
  have EH := hid hhb
  clear HF hb3 hW4 hhb b4 PB IB HB
  go_upto_region 2 with fail
  rw [← EW4.out, ← EH.out]
  clear EW4 EH
  obtain ⟨⟨p0, p1, p2⟩, ⟨i0, i1, i2, i3, i4, i5⟩, h0, h1, h2, h3, h4⟩ := FA.out
  have hs1 := HS.out.1
  have hs2 := HS.out.2.1
  have hu : IntKind.u64.wrap d.slots = d.slots := gwrap_u _ (by omega) (by omega)
  rw [show inB 1 1 18 = true from rfl]
  rw [show hasR 1 = true from rfl] at h0
  rw [show hasS 1 = false from rfl] at h1
  rw [show hasK 1 = false from rfl] at h2
  rw [show hasT 1 = false from rfl] at h3
  rw [show hasN 1 = true from rfl] at h4
  dsimp only at i0 i1 i2 i3 i4 i5
  cases hRR : inB r 0 9 with
  | false =>
    have ER := hid hRR
    clear hRR
    go_wp2_with fail
    refine (HR.out _ _).mono ?_
    rintro e w5 ⟨rfl, rfl⟩
    rw [ER.out]
    go_wp2
    go_ret
    exact HT.out _ _ (by rw [EV.out, ER.out] <;> (first | rfl | simp)) HB4.out
  | true =>
    have ER := hid hRR
    clear hRR
    go_wp2_with fail
    refine (HR.out _ _).mono ?_
    rintro e w5 ⟨rfl, rfl⟩
    rw [ER.out]
    go_wp2_with fail
    refine (HR.out _ _).mono ?_
    rintro e w5 ⟨rfl, rfl⟩
    rw [show inB 0 0 9 = true from rfl]
    go_wp2
    go_ret
    exact HT.out _ _ (by rw [EV.out, ER.out] <;> (first | rfl | simp)) HB4.out

set_option maxHeartbeats 8000000 in
set_option maxRecDepth 20000 in
theorem rinsOp2 (d : ProgD) (x : InsD) (w : World) (hl : d.lie w) (hs : OkSz d) (hx : x.wf) (ho : x.op = 2) (hbare : bareB x = true) : Calls Try.prog 26 #[d.v, x.v] w (TellB (formB x && fitsB d.slots d.ts x) w) := by
  obtain ⟨op, r, s, k, tt, n⟩ := x
  dsimp only at ho
  subst op
  have hb := hbare
  unfold bareB at hb
  simp only [Bool.and_eq_true, Bool.or_eq_true, decide_eq_true_eq] at hb
  obtain ⟨⟨⟨⟨b1, b2⟩, b3⟩, b4⟩, b5⟩ := hb
  obtain rfl : k = 0 := by simpa [hasK, fieldsN] using b3
  obtain rfl : tt = 0 := by simpa [hasT, fieldsN] using b4
  obtain rfl : n = 0 := by simpa [hasN, fieldsN] using b5
  have HBARE := hid hbare
  clear hbare b1 b2
  have EV : Hid ((formB ⟨2, r, s, 0, 0, 0⟩ && fitsB d.slots d.ts ⟨2, r, s, 0, 0, 0⟩) = (inB r 0 9 && (inB s 0 9))) := by
    show _ = _
    have hb := HBARE.out
    unfold formB fitsB regsB
    simp only [hb]
    simp [show inB 2 1 18 = true from rfl]
  obtain ⟨W2, hW2⟩ : ∃ W2, W2 = ((w.alloc (.cells #[.int .i64 d.slots, .slice d.tabs.a d.tabs.n d.tabs.c, .slice d.code.a d.code.n d.code.c] 25)).alloc (.cells #[.int .i64 (2 : Int), .int .i64 r, .int .i64 s, .int .i64 (0 : Int), .int .i64 (0 : Int), .int .u64 (0 : Int)] 35)) := ⟨_, rfl⟩
  obtain ⟨pb, hpb⟩ : ∃ b, b = w.heap.size := ⟨_, rfl⟩
  obtain ⟨ib, hib⟩ : ∃ b, b = w.heap.size + 1 := ⟨_, rfl⟩
  have HB : Hid (Below w.heap.size w W2) := by rw [hW2]; exact bl_alloc (bl_alloc (Below.refl _ _))
  have PB : Hid (PBox d W2 pb) := by rw [hW2, hpb]; exact (pbox_new d w).step (bl_alloc (Below.refl _ _))
  have IB : Hid (IBox ⟨2, r, s, 0, 0, 0⟩ W2 ib) := by
    show IBox ⟨2, r, s, 0, 0, 0⟩ W2 ib
    rw [hW2, hib]
    have := ibox_new ⟨2, r, s, 0, 0, 0⟩ (w.alloc (.cells #[.int .i64 d.slots, .slice d.tabs.a d.tabs.n d.tabs.c, .slice d.code.a d.code.n d.code.c] 25))
    simpa using this
  have HF := hid (rfields (2 : Int) W2)
  have HR := hid (fun n w => risReg n w)
  have HL := hid hl
  have HS := hid hs
  have HX := hid hx
  have EW := hid hW2
  have EP := hid hpb
  have EI := hid hib
  have HT : Hid (∀ b w', b = (formB ⟨2, r, s, 0, 0, 0⟩ && fitsB d.slots d.ts ⟨2, r, s, 0, 0, 0⟩) → Below w.heap.size w w' → TellB (formB ⟨2, r, s, 0, 0, 0⟩ && fitsB d.slots d.ts ⟨2, r, s, 0, 0, 0⟩) w (.returned (.bool b)) w') := fun b w' e h => ⟨by rw [e], h⟩
  dsimp only [ProgD.v, InsD.v]
  clear hl hs hx hW2 hpb hib
  go_enter Try.func26, Try.ntmps26
  go_wp2_with fail
  rw [← EW.out, ← EI.out, ← EP.out]
  clear EW EI EP
  refine HF.out.mono ?_
  rintro e w3 ⟨rfl, hb3⟩
  obtain ⟨W4, hW4⟩ : ∃ W4, W4 = w3.alloc (.cells #[.bool (hasR (2 : Int)), .bool (hasS (2 : Int)), .bool (hasK (2 : Int)), .bool (hasT (2 : Int)), .bool (hasN (2 : Int))] 59) := ⟨_, rfl⟩
  obtain ⟨hb, hhb⟩ : ∃ b, b = w3.heap.size := ⟨_, rfl⟩
  have b4 : Below W2.heap.size W2 W4 := by rw [hW4]; exact bl_alloc hb3
  have FA : Hid (FAt d ⟨2, r, s, 0, 0, 0⟩ W4 pb ib hb) := ⟨PB.out.step b4, IB.out.step b4, by rw [hW4, hhb]; simp, by rw [hW4, hhb]; simp, by rw [hW4, hhb]; simp, by rw [hW4, hhb]; simp, by rw [hW4, hhb]; simp⟩
  have HB4 := hid (bl_step HB.out b4)
  have EW4 := hid hW4
  have EH := hid hhb
  clear HF hb3 hW4 hhb b4 PB IB HB
  go_upto_region 2 with fail
  rw [← EW4.out, ← EH.out]
  clear EW4 EH
  obtain ⟨⟨p0, p1, p2⟩, ⟨i0, i1, i2, i3, i4, i5⟩, h0, h1, h2, h3, h4⟩ := FA.out
  have hs1 := HS.out.1
  have hs2 := HS.out.2.1
  have hu : IntKind.u64.wrap d.slots = d.slots := gwrap_u _ (by omega) (by omega)
  rw [show inB 2 1 18 = true from rfl]
  rw [show hasR 2 = true from rfl] at h0
  rw [show hasS 2 = true from rfl] at h1
  rw [show hasK 2 = false from rfl] at h2
  rw [show hasT 2 = false from rfl] at h3
  rw [show hasN 2 = false from rfl] at h4
  dsimp only at i0 i1 i2 i3 i4 i5
  cases hRR : inB r 0 9 with
  | false =>
    have ER := hid hRR
    clear hRR
    go_wp2_with fail
    refine (HR.out _ _).mono ?_
    rintro e w5 ⟨rfl, rfl⟩
    rw [ER.out]
    go_wp2
    go_ret
    exact HT.out _ _ (by rw [EV.out, ER.out] <;> (first | rfl | simp)) HB4.out
  | true =>
    have ER := hid hRR
    clear hRR
    go_wp2_with fail
    refine (HR.out _ _).mono ?_
    rintro e w5 ⟨rfl, rfl⟩
    rw [ER.out]
    cases hSS : inB s 0 9 with
    | false =>
      have ES := hid hSS
      clear hSS
      go_wp2_with fail
      refine (HR.out _ _).mono ?_
      rintro e w5 ⟨rfl, rfl⟩
      rw [ES.out]
      go_wp2
      go_ret
      exact HT.out _ _ (by rw [EV.out, ER.out, ES.out] <;> (first | rfl | simp)) HB4.out
    | true =>
      have ES := hid hSS
      clear hSS
      go_wp2_with fail
      refine (HR.out _ _).mono ?_
      rintro e w5 ⟨rfl, rfl⟩
      rw [ES.out]
      go_wp2
      go_ret
      exact HT.out _ _ (by rw [EV.out, ER.out, ES.out] <;> (first | rfl | simp)) HB4.out

set_option maxHeartbeats 8000000 in
set_option maxRecDepth 20000 in
theorem rinsOp3 (d : ProgD) (x : InsD) (w : World) (hl : d.lie w) (hs : OkSz d) (hx : x.wf) (ho : x.op = 3) (hbare : bareB x = true) : Calls Try.prog 26 #[d.v, x.v] w (TellB (formB x && fitsB d.slots d.ts x) w) := by
  obtain ⟨op, r, s, k, tt, n⟩ := x
  dsimp only at ho
  subst op
  have hb := hbare
  unfold bareB at hb
  simp only [Bool.and_eq_true, Bool.or_eq_true, decide_eq_true_eq] at hb
  obtain ⟨⟨⟨⟨b1, b2⟩, b3⟩, b4⟩, b5⟩ := hb
  obtain rfl : tt = 0 := by simpa [hasT, fieldsN] using b4
  obtain rfl : n = 0 := by simpa [hasN, fieldsN] using b5
  have HBARE := hid hbare
  clear hbare b1 b2 b3
  have EV : Hid ((formB ⟨3, r, s, k, 0, 0⟩ && fitsB d.slots d.ts ⟨3, r, s, k, 0, 0⟩) = (inB r 0 9 && (inB s 0 9 && (inB k 3 12)))) := by
    show _ = _
    have hb := HBARE.out
    unfold formB fitsB regsB
    simp only [hb]
    simp [show inB 3 1 18 = true from rfl, Bool.and_assoc]
  obtain ⟨W2, hW2⟩ : ∃ W2, W2 = ((w.alloc (.cells #[.int .i64 d.slots, .slice d.tabs.a d.tabs.n d.tabs.c, .slice d.code.a d.code.n d.code.c] 25)).alloc (.cells #[.int .i64 (3 : Int), .int .i64 r, .int .i64 s, .int .i64 k, .int .i64 (0 : Int), .int .u64 (0 : Int)] 35)) := ⟨_, rfl⟩
  obtain ⟨pb, hpb⟩ : ∃ b, b = w.heap.size := ⟨_, rfl⟩
  obtain ⟨ib, hib⟩ : ∃ b, b = w.heap.size + 1 := ⟨_, rfl⟩
  have HB : Hid (Below w.heap.size w W2) := by rw [hW2]; exact bl_alloc (bl_alloc (Below.refl _ _))
  have PB : Hid (PBox d W2 pb) := by rw [hW2, hpb]; exact (pbox_new d w).step (bl_alloc (Below.refl _ _))
  have IB : Hid (IBox ⟨3, r, s, k, 0, 0⟩ W2 ib) := by
    show IBox ⟨3, r, s, k, 0, 0⟩ W2 ib
    rw [hW2, hib]
    have := ibox_new ⟨3, r, s, k, 0, 0⟩ (w.alloc (.cells #[.int .i64 d.slots, .slice d.tabs.a d.tabs.n d.tabs.c, .slice d.code.a d.code.n d.code.c] 25))
    simpa using this
  have HF := hid (rfields (3 : Int) W2)
  have HR := hid (fun n w => risReg n w)
  have HL := hid hl
  have HS := hid hs
  have HX := hid hx
  have EW := hid hW2
  have EP := hid hpb
  have EI := hid hib
  have HT : Hid (∀ b w', b = (formB ⟨3, r, s, k, 0, 0⟩ && fitsB d.slots d.ts ⟨3, r, s, k, 0, 0⟩) → Below w.heap.size w w' → TellB (formB ⟨3, r, s, k, 0, 0⟩ && fitsB d.slots d.ts ⟨3, r, s, k, 0, 0⟩) w (.returned (.bool b)) w') := fun b w' e h => ⟨by rw [e], h⟩
  dsimp only [ProgD.v, InsD.v]
  clear hl hs hx hW2 hpb hib
  go_enter Try.func26, Try.ntmps26
  go_wp2_with fail
  rw [← EW.out, ← EI.out, ← EP.out]
  clear EW EI EP
  refine HF.out.mono ?_
  rintro e w3 ⟨rfl, hb3⟩
  obtain ⟨W4, hW4⟩ : ∃ W4, W4 = w3.alloc (.cells #[.bool (hasR (3 : Int)), .bool (hasS (3 : Int)), .bool (hasK (3 : Int)), .bool (hasT (3 : Int)), .bool (hasN (3 : Int))] 59) := ⟨_, rfl⟩
  obtain ⟨hb, hhb⟩ : ∃ b, b = w3.heap.size := ⟨_, rfl⟩
  have b4 : Below W2.heap.size W2 W4 := by rw [hW4]; exact bl_alloc hb3
  have FA : Hid (FAt d ⟨3, r, s, k, 0, 0⟩ W4 pb ib hb) := ⟨PB.out.step b4, IB.out.step b4, by rw [hW4, hhb]; simp, by rw [hW4, hhb]; simp, by rw [hW4, hhb]; simp, by rw [hW4, hhb]; simp, by rw [hW4, hhb]; simp⟩
  have HB4 := hid (bl_step HB.out b4)
  have EW4 := hid hW4
  have EH := hid hhb
  clear HF hb3 hW4 hhb b4 PB IB HB
  go_upto_region 2 with fail
  rw [← EW4.out, ← EH.out]
  clear EW4 EH
  obtain ⟨⟨p0, p1, p2⟩, ⟨i0, i1, i2, i3, i4, i5⟩, h0, h1, h2, h3, h4⟩ := FA.out
  have hs1 := HS.out.1
  have hs2 := HS.out.2.1
  have hu : IntKind.u64.wrap d.slots = d.slots := gwrap_u _ (by omega) (by omega)
  rw [show inB 3 1 18 = true from rfl]
  rw [show hasR 3 = true from rfl] at h0
  rw [show hasS 3 = true from rfl] at h1
  rw [show hasK 3 = true from rfl] at h2
  rw [show hasT 3 = false from rfl] at h3
  rw [show hasN 3 = false from rfl] at h4
  dsimp only at i0 i1 i2 i3 i4 i5
  cases hRR : inB r 0 9 with
  | false =>
    have ER := hid hRR
    clear hRR
    go_wp2_with fail
    refine (HR.out _ _).mono ?_
    rintro e w5 ⟨rfl, rfl⟩
    rw [ER.out]
    go_wp2
    go_ret
    exact HT.out _ _ (by rw [EV.out, ER.out] <;> (first | rfl | simp)) HB4.out
  | true =>
    have ER := hid hRR
    clear hRR
    go_wp2_with fail
    refine (HR.out _ _).mono ?_
    rintro e w5 ⟨rfl, rfl⟩
    rw [ER.out]
    cases hSS : inB s 0 9 with
    | false =>
      have ES := hid hSS
      clear hSS
      go_wp2_with fail
      refine (HR.out _ _).mono ?_
      rintro e w5 ⟨rfl, rfl⟩
      rw [ES.out]
      go_wp2
      go_ret
      exact HT.out _ _ (by rw [EV.out, ER.out, ES.out] <;> (first | rfl | simp)) HB4.out
    | true =>
      have ES := hid hSS
      clear hSS
      go_wp2_with fail
      refine (HR.out _ _).mono ?_
      rintro e w5 ⟨rfl, rfl⟩
      rw [ES.out]
      by_cases a1 : 3 ≤ k
      · have EK := hid (decide_eq_true a1)
        go_wp2
        go_ret
        exact HT.out _ _ (by rw [EV.out, ER.out, ES.out]; unfold inB; rw [EK.out] <;> (first | rfl | simp)) HB4.out
      · have EK := hid (decide_eq_false a1)
        go_wp2
        go_ret
        exact HT.out _ _ (by rw [EV.out, ER.out, ES.out]; unfold inB; rw [EK.out] <;> (first | rfl | simp)) HB4.out

set_option maxHeartbeats 8000000 in
set_option maxRecDepth 20000 in
theorem rinsOp4 (d : ProgD) (x : InsD) (w : World) (hl : d.lie w) (hs : OkSz d) (hx : x.wf) (ho : x.op = 4) (hbare : bareB x = true) : Calls Try.prog 26 #[d.v, x.v] w (TellB (formB x && fitsB d.slots d.ts x) w) := by
  obtain ⟨op, r, s, k, tt, n⟩ := x
  dsimp only at ho
  subst op
  have hb := hbare
  unfold bareB at hb
  simp only [Bool.and_eq_true, Bool.or_eq_true, decide_eq_true_eq] at hb
  obtain ⟨⟨⟨⟨b1, b2⟩, b3⟩, b4⟩, b5⟩ := hb
  obtain rfl : s = 0 := by simpa [hasS, fieldsN] using b2
  obtain rfl : k = 0 := by simpa [hasK, fieldsN] using b3
  obtain rfl : tt = 0 := by simpa [hasT, fieldsN] using b4
  obtain rfl : n = 0 := by simpa [hasN, fieldsN] using b5
  have HBARE := hid hbare
  clear hbare b1
  have EV : Hid ((formB ⟨4, r, 0, 0, 0, 0⟩ && fitsB d.slots d.ts ⟨4, r, 0, 0, 0, 0⟩) = inB r 0 9) := by
    show _ = _
    have hb := HBARE.out
    unfold formB fitsB regsB
    simp only [hb]
    simp [show inB 0 0 9 = true from rfl, show inB 4 1 18 = true from rfl]
  obtain ⟨W2, hW2⟩ : ∃ W2, W2 = ((w.alloc (.cells #[.int .i64 d.slots, .slice d.tabs.a d.tabs.n d.tabs.c, .slice d.code.a d.code.n d.code.c] 25)).alloc (.cells #[.int .i64 (4 : Int), .int .i64 r, .int .i64 (0 : Int), .int .i64 (0 : Int), .int .i64 (0 : Int), .int .u64 (0 : Int)] 35)) := ⟨_, rfl⟩
  obtain ⟨pb, hpb⟩ : ∃ b, b = w.heap.size := ⟨_, rfl⟩
  obtain ⟨ib, hib⟩ : ∃ b, b = w.heap.size + 1 := ⟨_, rfl⟩
  have HB : Hid (Below w.heap.size w W2) := by rw [hW2]; exact bl_alloc (bl_alloc (Below.refl _ _))
  have PB : Hid (PBox d W2 pb) := by rw [hW2, hpb]; exact (pbox_new d w).step (bl_alloc (Below.refl _ _))
  have IB : Hid (IBox ⟨4, r, 0, 0, 0, 0⟩ W2 ib) := by
    show IBox ⟨4, r, 0, 0, 0, 0⟩ W2 ib
    rw [hW2, hib]
    have := ibox_new ⟨4, r, 0, 0, 0, 0⟩ (w.alloc (.cells #[.int .i64 d.slots, .slice d.tabs.a d.tabs.n d.tabs.c, .slice d.code.a d.code.n d.code.c] 25))
    simpa using this
  have HF := hid (rfields (4 : Int) W2)
  have HR := hid (fun n w => risReg n w)
  have HL := hid hl
  have HS := hid hs
  have HX := hid hx
  have EW := hid hW2
  have EP := hid hpb
  have EI := hid hib
  have HT : Hid (∀ b w', b = (formB ⟨4, r, 0, 0, 0, 0⟩ && fitsB d.slots d.ts ⟨4, r, 0, 0, 0, 0⟩) → Below w.heap.size w w' → TellB (formB ⟨4, r, 0, 0, 0, 0⟩ && fitsB d.slots d.ts ⟨4, r, 0, 0, 0, 0⟩) w (.returned (.bool b)) w') := fun b w' e h => ⟨by rw [e], h⟩
  dsimp only [ProgD.v, InsD.v]
  clear hl hs hx hW2 hpb hib
  go_enter Try.func26, Try.ntmps26
  go_wp2_with fail
  rw [← EW.out, ← EI.out, ← EP.out]
  clear EW EI EP
  refine HF.out.mono ?_
  rintro e w3 ⟨rfl, hb3⟩
  obtain ⟨W4, hW4⟩ : ∃ W4, W4 = w3.alloc (.cells #[.bool (hasR (4 : Int)), .bool (hasS (4 : Int)), .bool (hasK (4 : Int)), .bool (hasT (4 : Int)), .bool (hasN (4 : Int))] 59) := ⟨_, rfl⟩
  obtain ⟨hb, hhb⟩ : ∃ b, b = w3.heap.size := ⟨_, rfl⟩
  have b4 : Below W2.heap.size W2 W4 := by rw [hW4]; exact bl_alloc hb3
  have FA : Hid (FAt d ⟨4, r, 0, 0, 0, 0⟩ W4 pb ib hb) := ⟨PB.out.step b4, IB.out.step b4, by rw [hW4, hhb]; simp, by rw [hW4, hhb]; simp, by rw [hW4, hhb]; simp, by rw [hW4, hhb]; simp, by rw [hW4, hhb]; simp⟩
  have HB4 := hid (bl_step HB.out b4)
  have EW4 := hid hW4
  have EH := hid hhb
  clear HF hb3 hW4 hhb b4 PB IB HB
  go_upto_region 2 with fail
  rw [← EW4.out, ← EH.out]
  clear EW4 EH
  obtain ⟨⟨p0, p1, p2⟩, ⟨i0, i1, i2, i3, i4, i5⟩, h0, h1, h2, h3, h4⟩ := FA.out
  have hs1 := HS.out.1
  have hs2 := HS.out.2.1
  have hu : IntKind.u64.wrap d.slots = d.slots := gwrap_u _ (by omega) (by omega)
  rw [show inB 4 1 18 = true from rfl]
  rw [show hasR 4 = true from rfl] at h0
  rw [show hasS 4 = false from rfl] at h1
  rw [show hasK 4 = false from rfl] at h2
  rw [show hasT 4 = false from rfl] at h3
  rw [show hasN 4 = false from rfl] at h4
  dsimp only at i0 i1 i2 i3 i4 i5
  cases hRR : inB r 0 9 with
  | false =>
    have ER := hid hRR
    clear hRR
    go_wp2_with fail
    refine (HR.out _ _).mono ?_
    rintro e w5 ⟨rfl, rfl⟩
    rw [ER.out]
    go_wp2
    go_ret
    exact HT.out _ _ (by rw [EV.out, ER.out] <;> (first | rfl | simp)) HB4.out
  | true =>
    have ER := hid hRR
    clear hRR
    go_wp2_with fail
    refine (HR.out _ _).mono ?_
    rintro e w5 ⟨rfl, rfl⟩
    rw [ER.out]
    go_wp2_with fail
    refine (HR.out _ _).mono ?_
    rintro e w5 ⟨rfl, rfl⟩
    rw [show inB 0 0 9 = true from rfl]
    go_wp2
    go_ret
    exact HT.out _ _ (by rw [EV.out, ER.out] <;> (first | rfl | simp)) HB4.out

set_option maxHeartbeats 8000000 in
set_option maxRecDepth 20000 in
theorem rinsOp5 (d : ProgD) (x : InsD) (w : World) (hl : d.lie w) (hs : OkSz d) (hx : x.wf) (ho : x.op = 5) (hbare : bareB x = true) : Calls Try.prog 26 #[d.v, x.v] w (TellB (formB x && fitsB d.slots d.ts x) w) := by
  obtain ⟨op, r, s, k, tt, n⟩ := x
  dsimp only at ho
  subst op
  have hb := hbare
  unfold bareB at hb
  simp only [Bool.and_eq_true, Bool.or_eq_true, decide_eq_true_eq] at hb
  obtain ⟨⟨⟨⟨b1, b2⟩, b3⟩, b4⟩, b5⟩ := hb
  obtain rfl : k = 0 := by simpa [hasK, fieldsN] using b3
  obtain rfl : tt = 0 := by simpa [hasT, fieldsN] using b4
  obtain rfl : n = 0 := by simpa [hasN, fieldsN] using b5
  have HBARE := hid hbare
  clear hbare b1 b2
  have EV : Hid ((formB ⟨5, r, s, 0, 0, 0⟩ && fitsB d.slots d.ts ⟨5, r, s, 0, 0, 0⟩) = (inB r 0 9 && (inB s 0 9))) := by
    show _ = _
    have hb := HBARE.out
    unfold formB fitsB regsB
    simp only [hb]
    simp [show inB 5 1 18 = true from rfl]
  obtain ⟨W2, hW2⟩ : ∃ W2, W2 = ((w.alloc (.cells #[.int .i64 d.slots, .slice d.tabs.a d.tabs.n d.tabs.c, .slice d.code.a d.code.n d.code.c] 25)).alloc (.cells #[.int .i64 (5 : Int), .int .i64 r, .int .i64 s, .int .i64 (0 : Int), .int .i64 (0 : Int), .int .u64 (0 : Int)] 35)) := ⟨_, rfl⟩
  obtain ⟨pb, hpb⟩ : ∃ b, b = w.heap.size := ⟨_, rfl⟩
  obtain ⟨ib, hib⟩ : ∃ b, b = w.heap.size + 1 := ⟨_, rfl⟩
  have HB : Hid (Below w.heap.size w W2) := by rw [hW2]; exact bl_alloc (bl_alloc (Below.refl _ _))
  have PB : Hid (PBox d W2 pb) := by rw [hW2, hpb]; exact (pbox_new d w).step (bl_alloc (Below.refl _ _))
  have IB : Hid (IBox ⟨5, r, s, 0, 0, 0⟩ W2 ib) := by
    show IBox ⟨5, r, s, 0, 0, 0⟩ W2 ib
    rw [hW2, hib]
    have := ibox_new ⟨5, r, s, 0, 0, 0⟩ (w.alloc (.cells #[.int .i64 d.slots, .slice d.tabs.a d.tabs.n d.tabs.c, .slice d.code.a d.code.n d.code.c] 25))
    simpa using this
  have HF := hid (rfields (5 : Int) W2)
  have HR := hid (fun n w => risReg n w)
  have HL := hid hl
  have HS := hid hs
  have HX := hid hx
  have EW := hid hW2
  have EP := hid hpb
  have EI := hid hib
  have HT : Hid (∀ b w', b = (formB ⟨5, r, s, 0, 0, 0⟩ && fitsB d.slots d.ts ⟨5, r, s, 0, 0, 0⟩) → Below w.heap.size w w' → TellB (formB ⟨5, r, s, 0, 0, 0⟩ && fitsB d.slots d.ts ⟨5, r, s, 0, 0, 0⟩) w (.returned (.bool b)) w') := fun b w' e h => ⟨by rw [e], h⟩
  dsimp only [ProgD.v, InsD.v]
  clear hl hs hx hW2 hpb hib
  go_enter Try.func26, Try.ntmps26
  go_wp2_with fail
  rw [← EW.out, ← EI.out, ← EP.out]
  clear EW EI EP
  refine HF.out.mono ?_
  rintro e w3 ⟨rfl, hb3⟩
  obtain ⟨W4, hW4⟩ : ∃ W4, W4 = w3.alloc (.cells #[.bool (hasR (5 : Int)), .bool (hasS (5 : Int)), .bool (hasK (5 : Int)), .bool (hasT (5 : Int)), .bool (hasN (5 : Int))] 59) := ⟨_, rfl⟩
  obtain ⟨hb, hhb⟩ : ∃ b, b = w3.heap.size := ⟨_, rfl⟩
  have b4 : Below W2.heap.size W2 W4 := by rw [hW4]; exact bl_alloc hb3
  have FA : Hid (FAt d ⟨5, r, s, 0, 0, 0⟩ W4 pb ib hb) := ⟨PB.out.step b4, IB.out.step b4, by rw [hW4, hhb]; simp, by rw [hW4, hhb]; simp, by rw [hW4, hhb]; simp, by rw [hW4, hhb]; simp, by rw [hW4, hhb]; simp⟩
  have HB4 := hid (bl_step HB.out b4)
  have EW4 := hid hW4
  have EH := hid hhb
  clear HF hb3 hW4 hhb b4 PB IB HB
  go_upto_region 2 with fail
  rw [← EW4.out, ← EH.out]
  clear EW4 EH
  obtain ⟨⟨p0, p1, p2⟩, ⟨i0, i1, i2, i3, i4, i5⟩, h0, h1, h2, h3, h4⟩ := FA.out
  have hs1 := HS.out.1
  have hs2 := HS.out.2.1
  have hu : IntKind.u64.wrap d.slots = d.slots := gwrap_u _ (by omega) (by omega)
  rw [show inB 5 1 18 = true from rfl]
  rw [show hasR 5 = true from rfl] at h0
  rw [show hasS 5 = true from rfl] at h1
  rw [show hasK 5 = false from rfl] at h2
  rw [show hasT 5 = false from rfl] at h3
  rw [show hasN 5 = false from rfl] at h4
  dsimp only at i0 i1 i2 i3 i4 i5
  cases hRR : inB r 0 9 with
  | false =>
    have ER := hid hRR
    clear hRR
    go_wp2_with fail
    refine (HR.out _ _).mono ?_
    rintro e w5 ⟨rfl, rfl⟩
    rw [ER.out]
    go_wp2
    go_ret
    exact HT.out _ _ (by rw [EV.out, ER.out] <;> (first | rfl | simp)) HB4.out
  | true =>
    have ER := hid hRR
    clear hRR
    go_wp2_with fail
    refine (HR.out _ _).mono ?_
    rintro e w5 ⟨rfl, rfl⟩
    rw [ER.out]
    cases hSS : inB s 0 9 with
    | false =>
      have ES := hid hSS
      clear hSS
      go_wp2_with fail
      refine (HR.out _ _).mono ?_
      rintro e w5 ⟨rfl, rfl⟩
      rw [ES.out]
      go_wp2
      go_ret
      exact HT.out _ _ (by rw [EV.out, ER.out, ES.out] <;> (first | rfl | simp)) HB4.out
    | true =>
      have ES := hid hSS
      clear hSS
      go_wp2_with fail
      refine (HR.out _ _).mono ?_
      rintro e w5 ⟨rfl, rfl⟩
      rw [ES.out]
      go_wp2
      go_ret
      exact HT.out _ _ (by rw [EV.out, ER.out, ES.out] <;> (first | rfl | simp)) HB4.out

set_option maxHeartbeats 8000000 in
set_option maxRecDepth 20000 in
theorem rinsOp6 (d : ProgD) (x : InsD) (w : World) (hl : d.lie w) (hs : OkSz d) (hx : x.wf) (ho : x.op = 6) (hbare : bareB x = true) : Calls Try.prog 26 #[d.v, x.v] w (TellB (formB x && fitsB d.slots d.ts x) w) := by
  obtain ⟨op, r, s, k, tt, n⟩ := x
  dsimp only at ho
  subst op
  have hb := hbare
  unfold bareB at hb
  simp only [Bool.and_eq_true, Bool.or_eq_true, decide_eq_true_eq] at hb
  obtain ⟨⟨⟨⟨b1, b2⟩, b3⟩, b4⟩, b5⟩ := hb
  obtain rfl : tt = 0 := by simpa [hasT, fieldsN] using b4
  have HBARE := hid hbare
  clear hbare b1 b2 b3 b5
  have EV : Hid ((formB ⟨6, r, s, k, 0, n⟩ && fitsB d.slots d.ts ⟨6, r, s, k, 0, n⟩) = (inB r 0 9 && (inB s 0 9 && (inB k 1 8 && (decide (n ≤ 600)))))) := by
    show _ = _
    have hb := HBARE.out
    unfold formB fitsB regsB
    simp only [hb]
    simp [show inB 6 1 18 = true from rfl, Bool.and_assoc]
  obtain ⟨W2, hW2⟩ : ∃ W2, W2 = ((w.alloc (.cells #[.int .i64 d.slots, .slice d.tabs.a d.tabs.n d.tabs.c, .slice d.code.a d.code.n d.code.c] 25)).alloc (.cells #[.int .i64 (6 : Int), .int .i64 r, .int .i64 s, .int .i64 k, .int .i64 (0 : Int), .int .u64 n] 35)) := ⟨_, rfl⟩
  obtain ⟨pb, hpb⟩ : ∃ b, b = w.heap.size := ⟨_, rfl⟩
  obtain ⟨ib, hib⟩ : ∃ b, b = w.heap.size + 1 := ⟨_, rfl⟩
  have HB : Hid (Below w.heap.size w W2) := by rw [hW2]; exact bl_alloc (bl_alloc (Below.refl _ _))
  have PB : Hid (PBox d W2 pb) := by rw [hW2, hpb]; exact (pbox_new d w).step (bl_alloc (Below.refl _ _))
  have IB : Hid (IBox ⟨6, r, s, k, 0, n⟩ W2 ib) := by
    show IBox ⟨6, r, s, k, 0, n⟩ W2 ib
    rw [hW2, hib]
    have := ibox_new ⟨6, r, s, k, 0, n⟩ (w.alloc (.cells #[.int .i64 d.slots, .slice d.tabs.a d.tabs.n d.tabs.c, .slice d.code.a d.code.n d.code.c] 25))
    simpa using this
  have HF := hid (rfields (6 : Int) W2)
  have HR := hid (fun n w => risReg n w)
  have HL := hid hl
  have HS := hid hs
  have HX := hid hx
  have EW := hid hW2
  have EP := hid hpb
  have EI := hid hib
  have HT : Hid (∀ b w', b = (formB ⟨6, r, s, k, 0, n⟩ && fitsB d.slots d.ts ⟨6, r, s, k, 0, n⟩) → Below w.heap.size w w' → TellB (formB ⟨6, r, s, k, 0, n⟩ && fitsB d.slots d.ts ⟨6, r, s, k, 0, n⟩) w (.returned (.bool b)) w') := fun b w' e h => ⟨by rw [e], h⟩
  dsimp only [ProgD.v, InsD.v]
  clear hl hs hx hW2 hpb hib
  go_enter Try.func26, Try.ntmps26
  go_wp2_with fail
  rw [← EW.out, ← EI.out, ← EP.out]
  clear EW EI EP
  refine HF.out.mono ?_
  rintro e w3 ⟨rfl, hb3⟩
  obtain ⟨W4, hW4⟩ : ∃ W4, W4 = w3.alloc (.cells #[.bool (hasR (6 : Int)), .bool (hasS (6 : Int)), .bool (hasK (6 : Int)), .bool (hasT (6 : Int)), .bool (hasN (6 : Int))] 59) := ⟨_, rfl⟩
  obtain ⟨hb, hhb⟩ : ∃ b, b = w3.heap.size := ⟨_, rfl⟩
  have b4 : Below W2.heap.size W2 W4 := by rw [hW4]; exact bl_alloc hb3
  have FA : Hid (FAt d ⟨6, r, s, k, 0, n⟩ W4 pb ib hb) := ⟨PB.out.step b4, IB.out.step b4, by rw [hW4, hhb]; simp, by rw [hW4, hhb]; simp, by rw [hW4, hhb]; simp, by rw [hW4, hhb]; simp, by rw [hW4, hhb]; simp⟩
  have HB4 := hid (bl_step HB.out b4)
  have EW4 := hid hW4
  have EH := hid hhb
  clear HF hb3 hW4 hhb b4 PB IB HB
  go_upto_region 2 with fail
  rw [← EW4.out, ← EH.out]
  clear EW4 EH
  obtain ⟨⟨p0, p1, p2⟩, ⟨i0, i1, i2, i3, i4, i5⟩, h0, h1, h2, h3, h4⟩ := FA.out
  have hs1 := HS.out.1
  have hs2 := HS.out.2.1
  have hu : IntKind.u64.wrap d.slots = d.slots := gwrap_u _ (by omega) (by omega)
  rw [show inB 6 1 18 = true from rfl]
  rw [show hasR 6 = true from rfl] at h0
  rw [show hasS 6 = true from rfl] at h1
  rw [show hasK 6 = true from rfl] at h2
  rw [show hasT 6 = false from rfl] at h3
  rw [show hasN 6 = true from rfl] at h4
  dsimp only at i0 i1 i2 i3 i4 i5
  cases hRR : inB r 0 9 with
  | false =>
    have ER := hid hRR
    clear hRR
    go_wp2_with fail
    refine (HR.out _ _).mono ?_
    rintro e w5 ⟨rfl, rfl⟩
    rw [ER.out]
    go_wp2
    go_ret
    exact HT.out _ _ (by rw [EV.out, ER.out] <;> (first | rfl | simp)) HB4.out
  | true =>
    have ER := hid hRR
    clear hRR
    go_wp2_with fail
    refine (HR.out _ _).mono ?_
    rintro e w5 ⟨rfl, rfl⟩
    rw [ER.out]
    cases hSS : inB s 0 9 with
    | false =>
      have ES := hid hSS
      clear hSS
      go_wp2_with fail
      refine (HR.out _ _).mono ?_
      rintro e w5 ⟨rfl, rfl⟩
      rw [ES.out]
      go_wp2
      go_ret
      exact HT.out _ _ (by rw [EV.out, ER.out, ES.out] <;> (first | rfl | simp)) HB4.out
    | true =>
      have ES := hid hSS
      clear hSS
      go_wp2_with fail
      refine (HR.out _ _).mono ?_
      rintro e w5 ⟨rfl, rfl⟩
      rw [ES.out]
      by_cases a1 : 1 ≤ k
      rotate_left
      · have EK := hid (decide_eq_false a1)
        go_wp2
        go_ret
        exact HT.out _ _ (by rw [EV.out, ER.out, ES.out]; unfold inB; rw [EK.out] <;> (first | rfl | simp)) HB4.out
      have EK := hid (decide_eq_true a1)
      by_cases a2 : k ≤ 8
      · have EJ := hid (decide_eq_true a2)
        go_wp2
        go_ret
        exact HT.out _ _ (by rw [EV.out, ER.out, ES.out]; unfold inB; rw [EK.out, EJ.out] <;> (first | rfl | simp)) HB4.out
      · have EJ := hid (decide_eq_false a2)
        go_wp2
        go_ret
        exact HT.out _ _ (by rw [EV.out, ER.out, ES.out]; unfold inB; rw [EK.out, EJ.out] <;> (first | rfl | simp)) HB4.out
end Go.Proofs.Ytmohffibkpecpaa
