/- The document's insForm of bare instructions: 14 to 18. -/
import Derived.Test.YtmohffibkpecpaaVGRefF1
import Derived.Deep.DeepCutAuto
namespace Go.Proofs.Ytmohffibkpecpaa
open Go.RowKit

set_option maxHeartbeats 8000000 in
set_option maxRecDepth 20000 in
theorem rinsOp14 (d : ProgD) (x : InsD) (w : World) (hl : d.lie w) (hs : OkSz d) (hx : x.wf) (ho : x.op = 14) (hbare : bareB x = true) : Calls Try.prog 26 #[d.v, x.v] w (TellB (formB x && fitsB d.slots d.ts x) w) := by
  obtain ⟨op, r, s, k, tt, n⟩ := x
  dsimp only at ho
  subst op
  have hb := hbare
  unfold bareB at hb
  simp only [Bool.and_eq_true, Bool.or_eq_true, decide_eq_true_eq] at hb
  obtain ⟨⟨⟨⟨b1, b2⟩, b3⟩, b4⟩, b5⟩ := hb
  obtain rfl : s = 0 := by simpa [hasS, fieldsN] using b2
  obtain rfl : tt = 0 := by simpa [hasT, fieldsN] using b4
  obtain rfl : n = 0 := by simpa [hasN, fieldsN] using b5
  have HBARE := hid hbare
  clear hbare b1 b3
  have EV : Hid ((formB ⟨14, r, 0, k, 0, 0⟩ && fitsB d.slots d.ts ⟨14, r, 0, k, 0, 0⟩) = (inB r 0 9 && (inB k 1 8))) := by
    show _ = _
    have hb := HBARE.out
    unfold formB fitsB regsB
    simp only [hb]
    simp [show inB 0 0 9 = true from rfl, show inB 14 1 18 = true from rfl]
  obtain ⟨W2, hW2⟩ : ∃ W2, W2 = ((w.alloc (.cells #[.int .i64 d.slots, .slice d.tabs.a d.tabs.n d.tabs.c, .slice d.code.a d.code.n d.code.c] 25)).alloc (.cells #[.int .i64 (14 : Int), .int .i64 r, .int .i64 (0 : Int), .int .i64 k, .int .i64 (0 : Int), .int .u64 (0 : Int)] 35)) := ⟨_, rfl⟩
  obtain ⟨pb, hpb⟩ : ∃ b, b = w.heap.size := ⟨_, rfl⟩
  obtain ⟨ib, hib⟩ : ∃ b, b = w.heap.size + 1 := ⟨_, rfl⟩
  have HB : Hid (Below w.heap.size w W2) := by rw [hW2]; exact bl_alloc (bl_alloc (Below.refl _ _))
  have PB : Hid (PBox d W2 pb) := by rw [hW2, hpb]; exact (pbox_new d w).step (bl_alloc (Below.refl _ _))
  have IB : Hid (IBox ⟨14, r, 0, k, 0, 0⟩ W2 ib) := by
    show IBox ⟨14, r, 0, k, 0, 0⟩ W2 ib
    rw [hW2, hib]
    have := ibox_new ⟨14, r, 0, k, 0, 0⟩ (w.alloc (.cells #[.int .i64 d.slots, .slice d.tabs.a d.tabs.n d.tabs.c, .slice d.code.a d.code.n d.code.c] 25))
    simpa using this
  have HF := hid (rfields (14 : Int) W2)
  have HR := hid (fun n w => risReg n w)
  have HL := hid hl
  have HS := hid hs
  have HX := hid hx
  have EW := hid hW2
  have EP := hid hpb
  have EI := hid hib
  have HT : Hid (∀ b w', b = (formB ⟨14, r, 0, k, 0, 0⟩ && fitsB d.slots d.ts ⟨14, r, 0, k, 0, 0⟩) → Below w.heap.size w w' → TellB (formB ⟨14, r, 0, k, 0, 0⟩ && fitsB d.slots d.ts ⟨14, r, 0, k, 0, 0⟩) w (.returned (.bool b)) w') := fun b w' e h => ⟨by rw [e], h⟩
  dsimp only [ProgD.v, InsD.v]
  clear hl hs hx hW2 hpb hib
  go_enter Try.func26, Try.ntmps26
  go_wp2_with fail
  rw [← EW.out, ← EI.out, ← EP.out]
  clear EW EI EP
  refine HF.out.mono ?_
  rintro e w3 ⟨rfl, hb3⟩
  obtain ⟨W4, hW4⟩ : ∃ W4, W4 = w3.alloc (.cells #[.bool (hasR (14 : Int)), .bool (hasS (14 : Int)), .bool (hasK (14 : Int)), .bool (hasT (14 : Int)), .bool (hasN (14 : Int))] 59) := ⟨_, rfl⟩
  obtain ⟨hb, hhb⟩ : ∃ b, b = w3.heap.size := ⟨_, rfl⟩
  have b4 : Below W2.heap.size W2 W4 := by rw [hW4]; exact bl_alloc hb3
  have FA : Hid (FAt d ⟨14, r, 0, k, 0, 0⟩ W4 pb ib hb) := ⟨PB.out.step b4, IB.out.step b4, by rw [hW4, hhb]; simp, by rw [hW4, hhb]; simp, by rw [hW4, hhb]; simp, by rw [hW4, hhb]; simp, by rw [hW4, hhb]; simp⟩
  have HB4 := hid (bl_step HB.out b4)
  have EW4 := hid hW4
  have EH := hid hhb
  clear HF hb3 hW4 hhb b4 PB IB HB
  go_upto_region 2 with fail
  rw [← EW4.out, ← EH.out]
  clear EW4 EH
  obtain ⟨⟨p0, p1, p2⟩, ⟨i0, i1, i2, i3, i4, i5⟩, h0, h1, h2, h3, h4⟩ := FA.out
  have hs1 := HS.out.1
  have hs2 := HS.out.2.1
  have hu : IntKind.u64.wrap d.slots = d.slots := gwrap_u _ (by omega) (by omega)
  rw [show inB 14 1 18 = true from rfl]
  rw [show hasR 14 = true from rfl] at h0
  rw [show hasS 14 = false from rfl] at h1
  rw [show hasK 14 = true from rfl] at h2
  rw [show hasT 14 = false from rfl] at h3
  rw [show hasN 14 = false from rfl] at h4
  dsimp only at i0 i1 i2 i3 i4 i5
  cases hRR : inB r 0 9 with
  | false =>
    have ER := hid hRR
    clear hRR
    go_wp2_with fail
    refine (HR.out _ _).mono ?_
    rintro e w5 ⟨rfl, rfl⟩
    rw [ER.out]
    go_wp2
    go_ret
    exact HT.out _ _ (by rw [EV.out, ER.out] <;> (first | rfl | simp)) HB4.out
  | true =>
    have ER := hid hRR
    clear hRR
    go_wp2_with fail
    refine (HR.out _ _).mono ?_
    rintro e w5 ⟨rfl, rfl⟩
    rw [ER.out]
    go_wp2_with fail
    refine (HR.out _ _).mono ?_
    rintro e w5 ⟨rfl, rfl⟩
    rw [show inB 0 0 9 = true from rfl]
    by_cases a1 : 1 ≤ k
    · have EK := hid (decide_eq_true a1)
      go_wp2
      go_ret
      exact HT.out _ _ (by rw [EV.out, ER.out]; unfold inB; rw [EK.out] <;> (first | rfl | simp)) HB4.out
    · have EK := hid (decide_eq_false a1)
      go_wp2
      go_ret
      exact HT.out _ _ (by rw [EV.out, ER.out]; unfold inB; rw [EK.out] <;> (first | rfl | simp)) HB4.out

set_option maxHeartbeats 8000000 in
set_option maxRecDepth 20000 in
theorem rinsOp15 (d : ProgD) (x : InsD) (w : World) (hl : d.lie w) (hs : OkSz d) (hx : x.wf) (ho : x.op = 15) (hbare : bareB x = true) : Calls Try.prog 26 #[d.v, x.v] w (TellB (formB x && fitsB d.slots d.ts x) w) := by
  obtain ⟨op, r, s, k, tt, n⟩ := x
  dsimp only at ho
  subst op
  have hb := hbare
  unfold bareB at hb
  simp only [Bool.and_eq_true, Bool.or_eq_true, decide_eq_true_eq] at hb
  obtain ⟨⟨⟨⟨b1, b2⟩, b3⟩, b4⟩, b5⟩ := hb
  obtain rfl : s = 0 := by simpa [hasS, fieldsN] using b2
  obtain rfl : k = 0 := by simpa [hasK, fieldsN] using b3
  obtain rfl : tt = 0 := by simpa [hasT, fieldsN] using b4
  obtain rfl : n = 0 := by simpa [hasN, fieldsN] using b5
  have HBARE := hid hbare
  clear hbare b1
  have EV : Hid ((formB ⟨15, r, 0, 0, 0, 0⟩ && fitsB d.slots d.ts ⟨15, r, 0, 0, 0, 0⟩) = inB r 0 9) := by
    show _ = _
    have hb := HBARE.out
    unfold formB fitsB regsB
    simp only [hb]
    simp [show inB 0 0 9 = true from rfl, show inB 15 1 18 = true from rfl]
  obtain ⟨W2, hW2⟩ : ∃ W2, W2 = ((w.alloc (.cells #[.int .i64 d.slots, .slice d.tabs.a d.tabs.n d.tabs.c, .slice d.code.a d.code.n d.code.c] 25)).alloc (.cells #[.int .i64 (15 : Int), .int .i64 r, .int .i64 (0 : Int), .int .i64 (0 : Int), .int .i64 (0 : Int), .int .u64 (0 : Int)] 35)) := ⟨_, rfl⟩
  obtain ⟨pb, hpb⟩ : ∃ b, b = w.heap.size := ⟨_, rfl⟩
  obtain ⟨ib, hib⟩ : ∃ b, b = w.heap.size + 1 := ⟨_, rfl⟩
  have HB : Hid (Below w.heap.size w W2) := by rw [hW2]; exact bl_alloc (bl_alloc (Below.refl _ _))
  have PB : Hid (PBox d W2 pb) := by rw [hW2, hpb]; exact (pbox_new d w).step (bl_alloc (Below.refl _ _))
  have IB : Hid (IBox ⟨15, r, 0, 0, 0, 0⟩ W2 ib) := by
    show IBox ⟨15, r, 0, 0, 0, 0⟩ W2 ib
    rw [hW2, hib]
    have := ibox_new ⟨15, r, 0, 0, 0, 0⟩ (w.alloc (.cells #[.int .i64 d.slots, .slice d.tabs.a d.tabs.n d.tabs.c, .slice d.code.a d.code.n d.code.c] 25))
    simpa using this
  have HF := hid (rfields (15 : Int) W2)
  have HR := hid (fun n w => risReg n w)
  have HL := hid hl
  have HS := hid hs
  have HX := hid hx
  have EW := hid hW2
  have EP := hid hpb
  have EI := hid hib
  have HT : Hid (∀ b w', b = (formB ⟨15, r, 0, 0, 0, 0⟩ && fitsB d.slots d.ts ⟨15, r, 0, 0, 0, 0⟩) → Below w.heap.size w w' → TellB (formB ⟨15, r, 0, 0, 0, 0⟩ && fitsB d.slots d.ts ⟨15, r, 0, 0, 0, 0⟩) w (.returned (.bool b)) w') := fun b w' e h => ⟨by rw [e], h⟩
  dsimp only [ProgD.v, InsD.v]
  clear hl hs hx hW2 hpb hib
  go_enter Try.func26, Try.ntmps26
  go_wp2_with fail
  rw [← EW.out, ← EI.out, ← EP.out]
  clear EW EI EP
  refine HF.out.mono ?_
  rintro e w3 ⟨rfl, hb3⟩
  obtain ⟨W4, hW4⟩ : ∃ W4, W4 = w3.alloc (.cells #[.bool (hasR (15 : Int)), .bool (hasS (15 : Int)), .bool (hasK (15 : Int)), .bool (hasT (15 : Int)), .bool (hasN (15 : Int))] 59) := ⟨_, rfl⟩
  obtain ⟨hb, hhb⟩ : ∃ b, b = w3.heap.size := ⟨_, rfl⟩
  have b4 : Below W2.heap.size W2 W4 := by rw [hW4]; exact bl_alloc hb3
  have FA : Hid (FAt d ⟨15, r, 0, 0, 0, 0⟩ W4 pb ib hb) := ⟨PB.out.step b4, IB.out.step b4, by rw [hW4, hhb]; simp, by rw [hW4, hhb]; simp, by rw [hW4, hhb]; simp, by rw [hW4, hhb]; simp, by rw [hW4, hhb]; simp⟩
  have HB4 := hid (bl_step HB.out b4)
  have EW4 := hid hW4
  have EH := hid hhb
  clear HF hb3 hW4 hhb b4 PB IB HB
  go_upto_region 2 with fail
  rw [← EW4.out, ← EH.out]
  clear EW4 EH
  obtain ⟨⟨p0, p1, p2⟩, ⟨i0, i1, i2, i3, i4, i5⟩, h0, h1, h2, h3, h4⟩ := FA.out
  have hs1 := HS.out.1
  have hs2 := HS.out.2.1
  have hu : IntKind.u64.wrap d.slots = d.slots := gwrap_u _ (by omega) (by omega)
  rw [show inB 15 1 18 = true from rfl]
  rw [show hasR 15 = true from rfl] at h0
  rw [show hasS 15 = false from rfl] at h1
  rw [show hasK 15 = false from rfl] at h2
  rw [show hasT 15 = false from rfl] at h3
  rw [show hasN 15 = false from rfl] at h4
  dsimp only at i0 i1 i2 i3 i4 i5
  cases hRR : inB r 0 9 with
  | false =>
    have ER := hid hRR
    clear hRR
    go_wp2_with fail
    refine (HR.out _ _).mono ?_
    rintro e w5 ⟨rfl, rfl⟩
    rw [ER.out]
    go_wp2
    go_ret
    exact HT.out _ _ (by rw [EV.out, ER.out] <;> (first | rfl | simp)) HB4.out
  | true =>
    have ER := hid hRR
    clear hRR
    go_wp2_with fail
    refine (HR.out _ _).mono ?_
    rintro e w5 ⟨rfl, rfl⟩
    rw [ER.out]
    go_wp2_with fail
    refine (HR.out _ _).mono ?_
    rintro e w5 ⟨rfl, rfl⟩
    rw [show inB 0 0 9 = true from rfl]
    go_wp2
    go_ret
    exact HT.out _ _ (by rw [EV.out, ER.out] <;> (first | rfl | simp)) HB4.out

set_option maxHeartbeats 8000000 in
set_option maxRecDepth 20000 in
theorem rinsOp16 (d : ProgD) (x : InsD) (w : World) (hl : d.lie w) (hs : OkSz d) (hx : x.wf) (ho : x.op = 16) (hbare : bareB x = true) : Calls Try.prog 26 #[d.v, x.v] w (TellB (formB x && fitsB d.slots d.ts x) w) := by
  obtain ⟨op, r, s, k, tt, n⟩ := x
  dsimp only at ho
  subst op
  have hb := hbare
  unfold bareB at hb
  simp only [Bool.and_eq_true, Bool.or_eq_true, decide_eq_true_eq] at hb
  obtain ⟨⟨⟨⟨b1, b2⟩, b3⟩, b4⟩, b5⟩ := hb
  obtain rfl : s = 0 := by simpa [hasS, fieldsN] using b2
  obtain rfl : k = 0 := by simpa [hasK, fieldsN] using b3
  obtain rfl : tt = 0 := by simpa [hasT, fieldsN] using b4
  obtain rfl : n = 0 := by simpa [hasN, fieldsN] using b5
  have HBARE := hid hbare
  clear hbare b1
  have EV : Hid ((formB ⟨16, r, 0, 0, 0, 0⟩ && fitsB d.slots d.ts ⟨16, r, 0, 0, 0, 0⟩) = inB r 0 9) := by
    show _ = _
    have hb := HBARE.out
    unfold formB fitsB regsB
    simp only [hb]
    simp [show inB 0 0 9 = true from rfl, show inB 16 1 18 = true from rfl]
  obtain ⟨W2, hW2⟩ : ∃ W2, W2 = ((w.alloc (.cells #[.int .i64 d.slots, .slice d.tabs.a d.tabs.n d.tabs.c, .slice d.code.a d.code.n d.code.c] 25)).alloc (.cells #[.int .i64 (16 : Int), .int .i64 r, .int .i64 (0 : Int), .int .i64 (0 : Int), .int .i64 (0 : Int), .int .u64 (0 : Int)] 35)) := ⟨_, rfl⟩
  obtain ⟨pb, hpb⟩ : ∃ b, b = w.heap.size := ⟨_, rfl⟩
  obtain ⟨ib, hib⟩ : ∃ b, b = w.heap.size + 1 := ⟨_, rfl⟩
  have HB : Hid (Below w.heap.size w W2) := by rw [hW2]; exact bl_alloc (bl_alloc (Below.refl _ _))
  have PB : Hid (PBox d W2 pb) := by rw [hW2, hpb]; exact (pbox_new d w).step (bl_alloc (Below.refl _ _))
  have IB : Hid (IBox ⟨16, r, 0, 0, 0, 0⟩ W2 ib) := by
    show IBox ⟨16, r, 0, 0, 0, 0⟩ W2 ib
    rw [hW2, hib]
    have := ibox_new ⟨16, r, 0, 0, 0, 0⟩ (w.alloc (.cells #[.int .i64 d.slots, .slice d.tabs.a d.tabs.n d.tabs.c, .slice d.code.a d.code.n d.code.c] 25))
    simpa using this
  have HF := hid (rfields (16 : Int) W2)
  have HR := hid (fun n w => risReg n w)
  have HL := hid hl
  have HS := hid hs
  have HX := hid hx
  have EW := hid hW2
  have EP := hid hpb
  have EI := hid hib
  have HT : Hid (∀ b w', b = (formB ⟨16, r, 0, 0, 0, 0⟩ && fitsB d.slots d.ts ⟨16, r, 0, 0, 0, 0⟩) → Below w.heap.size w w' → TellB (formB ⟨16, r, 0, 0, 0, 0⟩ && fitsB d.slots d.ts ⟨16, r, 0, 0, 0, 0⟩) w (.returned (.bool b)) w') := fun b w' e h => ⟨by rw [e], h⟩
  dsimp only [ProgD.v, InsD.v]
  clear hl hs hx hW2 hpb hib
  go_enter Try.func26, Try.ntmps26
  go_wp2_with fail
  rw [← EW.out, ← EI.out, ← EP.out]
  clear EW EI EP
  refine HF.out.mono ?_
  rintro e w3 ⟨rfl, hb3⟩
  obtain ⟨W4, hW4⟩ : ∃ W4, W4 = w3.alloc (.cells #[.bool (hasR (16 : Int)), .bool (hasS (16 : Int)), .bool (hasK (16 : Int)), .bool (hasT (16 : Int)), .bool (hasN (16 : Int))] 59) := ⟨_, rfl⟩
  obtain ⟨hb, hhb⟩ : ∃ b, b = w3.heap.size := ⟨_, rfl⟩
  have b4 : Below W2.heap.size W2 W4 := by rw [hW4]; exact bl_alloc hb3
  have FA : Hid (FAt d ⟨16, r, 0, 0, 0, 0⟩ W4 pb ib hb) := ⟨PB.out.step b4, IB.out.step b4, by rw [hW4, hhb]; simp, by rw [hW4, hhb]; simp, by rw [hW4, hhb]; simp, by rw [hW4, hhb]; simp, by rw [hW4, hhb]; simp⟩
  have HB4 := hid (bl_step HB.out b4)
  have EW4 := hid hW4
  have EH := hid hhb
  clear HF hb3 hW4 hhb b4 PB IB HB
  go_upto_region 2 with fail
  rw [← EW4.out, ← EH.out]
  clear EW4 EH
  obtain ⟨⟨p0, p1, p2⟩, ⟨i0, i1, i2, i3, i4, i5⟩, h0, h1, h2, h3, h4⟩ := FA.out
  have hs1 := HS.out.1
  have hs2 := HS.out.2.1
  have hu : IntKind.u64.wrap d.slots = d.slots := gwrap_u _ (by omega) (by omega)
  rw [show inB 16 1 18 = true from rfl]
  rw [show hasR 16 = true from rfl] at h0
  rw [show hasS 16 = false from rfl] at h1
  rw [show hasK 16 = false from rfl] at h2
  rw [show hasT 16 = false from rfl] at h3
  rw [show hasN 16 = false from rfl] at h4
  dsimp only at i0 i1 i2 i3 i4 i5
  cases hRR : inB r 0 9 with
  | false =>
    have ER := hid hRR
    clear hRR
    go_wp2_with fail
    refine (HR.out _ _).mono ?_
    rintro e w5 ⟨rfl, rfl⟩
    rw [ER.out]
    go_wp2
    go_ret
    exact HT.out _ _ (by rw [EV.out, ER.out] <;> (first | rfl | simp)) HB4.out
  | true =>
    have ER := hid hRR
    clear hRR
    go_wp2_with fail
    refine (HR.out _ _).mono ?_
    rintro e w5 ⟨rfl, rfl⟩
    rw [ER.out]
    go_wp2_with fail
    refine (HR.out _ _).mono ?_
    rintro e w5 ⟨rfl, rfl⟩
    rw [show inB 0 0 9 = true from rfl]
    go_wp2
    go_ret
    exact HT.out _ _ (by rw [EV.out, ER.out] <;> (first | rfl | simp)) HB4.out

set_option maxHeartbeats 8000000 in
set_option maxRecDepth 20000 in
theorem rinsOp17 (d : ProgD) (x : InsD) (w : World) (hl : d.lie w) (hs : OkSz d) (hx : x.wf) (ho : x.op = 17) (hbare : bareB x = true) : Calls Try.prog 26 #[d.v, x.v] w (TellB (formB x && fitsB d.slots d.ts x) w) := by
  obtain ⟨op, r, s, k, tt, n⟩ := x
  dsimp only at ho
  subst op
  have hb := hbare
  unfold bareB at hb
  simp only [Bool.and_eq_true, Bool.or_eq_true, decide_eq_true_eq] at hb
  obtain ⟨⟨⟨⟨b1, b2⟩, b3⟩, b4⟩, b5⟩ := hb
  obtain rfl : r = 0 := by simpa [hasR, fieldsN] using b1
  obtain rfl : s = 0 := by simpa [hasS, fieldsN] using b2
  obtain rfl : k = 0 := by simpa [hasK, fieldsN] using b3
  obtain rfl : tt = 0 := by simpa [hasT, fieldsN] using b4
  obtain rfl : n = 0 := by simpa [hasN, fieldsN] using b5
  have HBARE := hid hbare
  clear hbare
  have EV : Hid ((formB ⟨17, 0, 0, 0, 0, 0⟩ && fitsB d.slots d.ts ⟨17, 0, 0, 0, 0, 0⟩) = true) := by
    show _ = _
    have hb := HBARE.out
    unfold formB fitsB regsB
    simp only [hb]
    simp [show inB 0 0 9 = true from rfl, show inB 17 1 18 = true from rfl]
  obtain ⟨W2, hW2⟩ : ∃ W2, W2 = ((w.alloc (.cells #[.int .i64 d.slots, .slice d.tabs.a d.tabs.n d.tabs.c, .slice d.code.a d.code.n d.code.c] 25)).alloc (.cells #[.int .i64 (17 : Int), .int .i64 (0 : Int), .int .i64 (0 : Int), .int .i64 (0 : Int), .int .i64 (0 : Int), .int .u64 (0 : Int)] 35)) := ⟨_, rfl⟩
  obtain ⟨pb, hpb⟩ : ∃ b, b = w.heap.size := ⟨_, rfl⟩
  obtain ⟨ib, hib⟩ : ∃ b, b = w.heap.size + 1 := ⟨_, rfl⟩
  have HB : Hid (Below w.heap.size w W2) := by rw [hW2]; exact bl_alloc (bl_alloc (Below.refl _ _))
  have PB : Hid (PBox d W2 pb) := by rw [hW2, hpb]; exact (pbox_new d w).step (bl_alloc (Below.refl _ _))
  have IB : Hid (IBox ⟨17, 0, 0, 0, 0, 0⟩ W2 ib) := by
    show IBox ⟨17, 0, 0, 0, 0, 0⟩ W2 ib
    rw [hW2, hib]
    have := ibox_new ⟨17, 0, 0, 0, 0, 0⟩ (w.alloc (.cells #[.int .i64 d.slots, .slice d.tabs.a d.tabs.n d.tabs.c, .slice d.code.a d.code.n d.code.c] 25))
    simpa using this
  have HF := hid (rfields (17 : Int) W2)
  have HR := hid (fun n w => risReg n w)
  have HL := hid hl
  have HS := hid hs
  have HX := hid hx
  have EW := hid hW2
  have EP := hid hpb
  have EI := hid hib
  have HT : Hid (∀ b w', b = (formB ⟨17, 0, 0, 0, 0, 0⟩ && fitsB d.slots d.ts ⟨17, 0, 0, 0, 0, 0⟩) → Below w.heap.size w w' → TellB (formB ⟨17, 0, 0, 0, 0, 0⟩ && fitsB d.slots d.ts ⟨17, 0, 0, 0, 0, 0⟩) w (.returned (.bool b)) w') := fun b w' e h => ⟨by rw [e], h⟩
  dsimp only [ProgD.v, InsD.v]
  clear hl hs hx hW2 hpb hib
  go_enter Try.func26, Try.ntmps26
  go_wp2_with fail
  rw [← EW.out, ← EI.out, ← EP.out]
  clear EW EI EP
  refine HF.out.mono ?_
  rintro e w3 ⟨rfl, hb3⟩
  obtain ⟨W4, hW4⟩ : ∃ W4, W4 = w3.alloc (.cells #[.bool (hasR (17 : Int)), .bool (hasS (17 : Int)), .bool (hasK (17 : Int)), .bool (hasT (17 : Int)), .bool (hasN (17 : Int))] 59) := ⟨_, rfl⟩
  obtain ⟨hb, hhb⟩ : ∃ b, b = w3.heap.size := ⟨_, rfl⟩
  have b4 : Below W2.heap.size W2 W4 := by rw [hW4]; exact bl_alloc hb3
  have FA : Hid (FAt d ⟨17, 0, 0, 0, 0, 0⟩ W4 pb ib hb) := ⟨PB.out.step b4, IB.out.step b4, by rw [hW4, hhb]; simp, by rw [hW4, hhb]; simp, by rw [hW4, hhb]; simp, by rw [hW4, hhb]; simp, by rw [hW4, hhb]; simp⟩
  have HB4 := hid (bl_step HB.out b4)
  have EW4 := hid hW4
  have EH := hid hhb
  clear HF hb3 hW4 hhb b4 PB IB HB
  go_upto_region 2 with fail
  rw [← EW4.out, ← EH.out]
  clear EW4 EH
  obtain ⟨⟨p0, p1, p2⟩, ⟨i0, i1, i2, i3, i4, i5⟩, h0, h1, h2, h3, h4⟩ := FA.out
  have hs1 := HS.out.1
  have hs2 := HS.out.2.1
  have hu : IntKind.u64.wrap d.slots = d.slots := gwrap_u _ (by omega) (by omega)
  rw [show inB 17 1 18 = true from rfl]
  rw [show hasR 17 = false from rfl] at h0
  rw [show hasS 17 = false from rfl] at h1
  rw [show hasK 17 = false from rfl] at h2
  rw [show hasT 17 = false from rfl] at h3
  rw [show hasN 17 = false from rfl] at h4
  dsimp only at i0 i1 i2 i3 i4 i5
  go_wp2_with fail
  refine (HR.out _ _).mono ?_
  rintro e w5 ⟨rfl, rfl⟩
  rw [show inB 0 0 9 = true from rfl]
  go_wp2_with fail
  refine (HR.out _ _).mono ?_
  rintro e w5 ⟨rfl, rfl⟩
  rw [show inB 0 0 9 = true from rfl]
  go_wp2
  go_ret
  exact HT.out _ _ (by rw [EV.out] <;> (first | rfl | simp)) HB4.out

set_option maxHeartbeats 8000000 in
set_option maxRecDepth 20000 in
theorem rinsOp18 (d : ProgD) (x : InsD) (w : World) (hl : d.lie w) (hs : OkSz d) (hx : x.wf) (ho : x.op = 18) (hbare : bareB x = true) : Calls Try.prog 26 #[d.v, x.v] w (TellB (formB x && fitsB d.slots d.ts x) w) := by
  obtain ⟨op, r, s, k, tt, n⟩ := x
  dsimp only at ho
  subst op
  have hb := hbare
  unfold bareB at hb
  simp only [Bool.and_eq_true, Bool.or_eq_true, decide_eq_true_eq] at hb
  obtain ⟨⟨⟨⟨b1, b2⟩, b3⟩, b4⟩, b5⟩ := hb
  obtain rfl : s = 0 := by simpa [hasS, fieldsN] using b2
  obtain rfl : k = 0 := by simpa [hasK, fieldsN] using b3
  obtain rfl : tt = 0 := by simpa [hasT, fieldsN] using b4
  obtain rfl : n = 0 := by simpa [hasN, fieldsN] using b5
  have HBARE := hid hbare
  clear hbare b1
  have EV : Hid ((formB ⟨18, r, 0, 0, 0, 0⟩ && fitsB d.slots d.ts ⟨18, r, 0, 0, 0, 0⟩) = inB r 0 9) := by
    show _ = _
    have hb := HBARE.out
    unfold formB fitsB regsB
    simp only [hb]
    simp [show inB 0 0 9 = true from rfl, show inB 18 1 18 = true from rfl]
  obtain ⟨W2, hW2⟩ : ∃ W2, W2 = ((w.alloc (.cells #[.int .i64 d.slots, .slice d.tabs.a d.tabs.n d.tabs.c, .slice d.code.a d.code.n d.code.c] 25)).alloc (.cells #[.int .i64 (18 : Int), .int .i64 r, .int .i64 (0 : Int), .int .i64 (0 : Int), .int .i64 (0 : Int), .int .u64 (0 : Int)] 35)) := ⟨_, rfl⟩
  obtain ⟨pb, hpb⟩ : ∃ b, b = w.heap.size := ⟨_, rfl⟩
  obtain ⟨ib, hib⟩ : ∃ b, b = w.heap.size + 1 := ⟨_, rfl⟩
  have HB : Hid (Below w.heap.size w W2) := by rw [hW2]; exact bl_alloc (bl_alloc (Below.refl _ _))
  have PB : Hid (PBox d W2 pb) := by rw [hW2, hpb]; exact (pbox_new d w).step (bl_alloc (Below.refl _ _))
  have IB : Hid (IBox ⟨18, r, 0, 0, 0, 0⟩ W2 ib) := by
    show IBox ⟨18, r, 0, 0, 0, 0⟩ W2 ib
    rw [hW2, hib]
    have := ibox_new ⟨18, r, 0, 0, 0, 0⟩ (w.alloc (.cells #[.int .i64 d.slots, .slice d.tabs.a d.tabs.n d.tabs.c, .slice d.code.a d.code.n d.code.c] 25))
    simpa using this
  have HF := hid (rfields (18 : Int) W2)
  have HR := hid (fun n w => risReg n w)
  have HL := hid hl
  have HS := hid hs
  have HX := hid hx
  have EW := hid hW2
  have EP := hid hpb
  have EI := hid hib
  have HT : Hid (∀ b w', b = (formB ⟨18, r, 0, 0, 0, 0⟩ && fitsB d.slots d.ts ⟨18, r, 0, 0, 0, 0⟩) → Below w.heap.size w w' → TellB (formB ⟨18, r, 0, 0, 0, 0⟩ && fitsB d.slots d.ts ⟨18, r, 0, 0, 0, 0⟩) w (.returned (.bool b)) w') := fun b w' e h => ⟨by rw [e], h⟩
  dsimp only [ProgD.v, InsD.v]
  clear hl hs hx hW2 hpb hib
  go_enter Try.func26, Try.ntmps26
  go_wp2_with fail
  rw [← EW.out, ← EI.out, ← EP.out]
  clear EW EI EP
  refine HF.out.mono ?_
  rintro e w3 ⟨rfl, hb3⟩
  obtain ⟨W4, hW4⟩ : ∃ W4, W4 = w3.alloc (.cells #[.bool (hasR (18 : Int)), .bool (hasS (18 : Int)), .bool (hasK (18 : Int)), .bool (hasT (18 : Int)), .bool (hasN (18 : Int))] 59) := ⟨_, rfl⟩
  obtain ⟨hb, hhb⟩ : ∃ b, b = w3.heap.size := ⟨_, rfl⟩
  have b4 : Below W2.heap.size W2 W4 := by rw [hW4]; exact bl_alloc hb3
  have FA : Hid (FAt d ⟨18, r, 0, 0, 0, 0⟩ W4 pb ib hb) := ⟨PB.out.step b4, IB.out.step b4, by rw [hW4, hhb]; simp, by rw [hW4, hhb]; simp, by rw [hW4, hhb]; simp, by rw [hW4, hhb]; simp, by rw [hW4, hhb]; simp⟩
  have HB4 := hid (bl_step HB.out b4)
  have EW4 := hid hW4
  have EH := hid hhb
  clear HF hb3 hW4 hhb b4 PB IB HB
  go_upto_region 2 with fail
  rw [← EW4.out, ← EH.out]
  clear EW4 EH
  obtain ⟨⟨p0, p1, p2⟩, ⟨i0, i1, i2, i3, i4, i5⟩, h0, h1, h2, h3, h4⟩ := FA.out
  have hs1 := HS.out.1
  have hs2 := HS.out.2.1
  have hu : IntKind.u64.wrap d.slots = d.slots := gwrap_u _ (by omega) (by omega)
  rw [show inB 18 1 18 = true from rfl]
  rw [show hasR 18 = true from rfl] at h0
  rw [show hasS 18 = false from rfl] at h1
  rw [show hasK 18 = false from rfl] at h2
  rw [show hasT 18 = false from rfl] at h3
  rw [show hasN 18 = false from rfl] at h4
  dsimp only at i0 i1 i2 i3 i4 i5
  cases hRR : inB r 0 9 with
  | false =>
    have ER := hid hRR
    clear hRR
    go_wp2_with fail
    refine (HR.out _ _).mono ?_
    rintro e w5 ⟨rfl, rfl⟩
    rw [ER.out]
    go_wp2
    go_ret
    exact HT.out _ _ (by rw [EV.out, ER.out] <;> (first | rfl | simp)) HB4.out
  | true =>
    have ER := hid hRR
    clear hRR
    go_wp2_with fail
    refine (HR.out _ _).mono ?_
    rintro e w5 ⟨rfl, rfl⟩
    rw [ER.out]
    go_wp2_with fail
    refine (HR.out _ _).mono ?_
    rintro e w5 ⟨rfl, rfl⟩
    rw [show inB 0 0 9 = true from rfl]
    go_wp2
    go_ret
    exact HT.out _ _ (by rw [EV.out, ER.out] <;> (first | rfl | simp)) HB4.out
end Go.Proofs.Ytmohffibkpecpaa
