/- The document's insForm of bare instructions: 7 to 12. -/
import Derived.Test.YtmohffibkpecpaaVGRefF1
import Derived.Deep.DeepCutAuto
namespace Go.Proofs.Ytmohffibkpecpaa
open Go.RowKit

set_option maxHeartbeats 8000000 in
set_option maxRecDepth 20000 in
theorem rinsOp7 (d : ProgD) (x : InsD) (w : World) (hl : d.lie w) (hs : OkSz d) (hx : x.wf) (ho : x.op = 7) (hbare : bareB x = true) : Calls Try.prog 26 #[d.v, x.v] w (TellB (formB x && fitsB d.slots d.ts x) w) := by
  obtain ⟨op, r, s, k, tt, n⟩ := x
  dsimp only at ho
  subst op
  have hb := hbare
  unfold bareB at hb
  simp only [Bool.and_eq_true, Bool.or_eq_true, decide_eq_true_eq] at hb
  obtain ⟨⟨⟨⟨b1, b2⟩, b3⟩, b4⟩, b5⟩ := hb
  obtain rfl : s = 0 := by simpa [hasS, fieldsN] using b2
  obtain rfl : k = 0 := by simpa [hasK, fieldsN] using b3
  obtain rfl : tt = 0 := by simpa [hasT, fieldsN] using b4
  have HBARE := hid hbare
  clear hbare b1 b5
  have EV : Hid ((formB ⟨7, r, 0, 0, 0, n⟩ && fitsB d.slots d.ts ⟨7, r, 0, 0, 0, n⟩) = (inB r 0 9 && (decide (n < d.slots)))) := by
    show _ = _
    have hb := HBARE.out
    unfold formB fitsB regsB
    simp only [hb]
    simp [show inB 0 0 9 = true from rfl, show inB 7 1 18 = true from rfl]
  obtain ⟨W2, hW2⟩ : ∃ W2, W2 = ((w.alloc (.cells #[.int .i64 d.slots, .slice d.tabs.a d.tabs.n d.tabs.c, .slice d.code.a d.code.n d.code.c] 25)).alloc (.cells #[.int .i64 (7 : Int), .int .i64 r, .int .i64 (0 : Int), .int .i64 (0 : Int), .int .i64 (0 : Int), .int .u64 n] 35)) := ⟨_, rfl⟩
  obtain ⟨pb, hpb⟩ : ∃ b, b = w.heap.size := ⟨_, rfl⟩
  obtain ⟨ib, hib⟩ : ∃ b, b = w.heap.size + 1 := ⟨_, rfl⟩
  have HB : Hid (Below w.heap.size w W2) := by rw [hW2]; exact bl_alloc (bl_alloc (Below.refl _ _))
  have PB : Hid (PBox d W2 pb) := by rw [hW2, hpb]; exact (pbox_new d w).step (bl_alloc (Below.refl _ _))
  have IB : Hid (IBox ⟨7, r, 0, 0, 0, n⟩ W2 ib) := by
    show IBox ⟨7, r, 0, 0, 0, n⟩ W2 ib
    rw [hW2, hib]
    have := ibox_new ⟨7, r, 0, 0, 0, n⟩ (w.alloc (.cells #[.int .i64 d.slots, .slice d.tabs.a d.tabs.n d.tabs.c, .slice d.code.a d.code.n d.code.c] 25))
    simpa using this
  have HF := hid (rfields (7 : Int) W2)
  have HR := hid (fun n w => risReg n w)
  have HL := hid hl
  have HS := hid hs
  have HX := hid hx
  have EW := hid hW2
  have EP := hid hpb
  have EI := hid hib
  have HT : Hid (∀ b w', b = (formB ⟨7, r, 0, 0, 0, n⟩ && fitsB d.slots d.ts ⟨7, r, 0, 0, 0, n⟩) → Below w.heap.size w w' → TellB (formB ⟨7, r, 0, 0, 0, n⟩ && fitsB d.slots d.ts ⟨7, r, 0, 0, 0, n⟩) w (.returned (.bool b)) w') := fun b w' e h => ⟨by rw [e], h⟩
  dsimp only [ProgD.v, InsD.v]
  clear hl hs hx hW2 hpb hib
  go_enter Try.func26, Try.ntmps26
  go_wp2_with fail
  rw [← EW.out, ← EI.out, ← EP.out]
  clear EW EI EP
  refine HF.out.mono ?_
  rintro e w3 ⟨rfl, hb3⟩
  obtain ⟨W4, hW4⟩ : ∃ W4, W4 = w3.alloc (.cells #[.bool (hasR (7 : Int)), .bool (hasS (7 : Int)), .bool (hasK (7 : Int)), .bool (hasT (7 : Int)), .bool (hasN (7 : Int))] 59) := ⟨_, rfl⟩
  obtain ⟨hb, hhb⟩ : ∃ b, b = w3.heap.size := ⟨_, rfl⟩
  have b4 : Below W2.heap.size W2 W4 := by rw [hW4]; exact bl_alloc hb3
  have FA : Hid (FAt d ⟨7, r, 0, 0, 0, n⟩ W4 pb ib hb) := ⟨PB.out.step b4, IB.out.step b4, by rw [hW4, hhb]; simp, by rw [hW4, hhb]; simp, by rw [hW4, hhb]; simp, by rw [hW4, hhb]; simp, by rw [hW4, hhb]; simp⟩
  have HB4 := hid (bl_step HB.out b4)
  have EW4 := hid hW4
  have EH := hid hhb
  clear HF hb3 hW4 hhb b4 PB IB HB
  go_upto_region 2 with fail
  rw [← EW4.out, ← EH.out]
  clear EW4 EH
  obtain ⟨⟨p0, p1, p2⟩, ⟨i0, i1, i2, i3, i4, i5⟩, h0, h1, h2, h3, h4⟩ := FA.out
  have hs1 := HS.out.1
  have hs2 := HS.out.2.1
  have hu : IntKind.u64.wrap d.slots = d.slots := gwrap_u _ (by omega) (by omega)
  rw [show inB 7 1 18 = true from rfl]
  rw [show hasR 7 = true from rfl] at h0
  rw [show hasS 7 = false from rfl] at h1
  rw [show hasK 7 = false from rfl] at h2
  rw [show hasT 7 = false from rfl] at h3
  rw [show hasN 7 = true from rfl] at h4
  dsimp only at i0 i1 i2 i3 i4 i5
  cases hRR : inB r 0 9 with
  | false =>
    have ER := hid hRR
    clear hRR
    go_wp2_with fail
    refine (HR.out _ _).mono ?_
    rintro e w5 ⟨rfl, rfl⟩
    rw [ER.out]
    go_wp2
    go_ret
    exact HT.out _ _ (by rw [EV.out, ER.out] <;> (first | rfl | simp)) HB4.out
  | true =>
    have ER := hid hRR
    clear hRR
    go_wp2_with fail
    refine (HR.out _ _).mono ?_
    rintro e w5 ⟨rfl, rfl⟩
    rw [ER.out]
    go_wp2_with fail
    refine (HR.out _ _).mono ?_
    rintro e w5 ⟨rfl, rfl⟩
    rw [show inB 0 0 9 = true from rfl]
    go_wp2
    go_ret
    exact HT.out _ _ (by rw [EV.out, ER.out] <;> (first | rfl | simp)) HB4.out

set_option maxHeartbeats 8000000 in
set_option maxRecDepth 20000 in
theorem rinsOp8 (d : ProgD) (x : InsD) (w : World) (hl : d.lie w) (hs : OkSz d) (hx : x.wf) (ho : x.op = 8) (hbare : bareB x = true) : Calls Try.prog 26 #[d.v, x.v] w (TellB (formB x && fitsB d.slots d.ts x) w) := by
  obtain ⟨op, r, s, k, tt, n⟩ := x
  dsimp only at ho
  subst op
  have hb := hbare
  unfold bareB at hb
  simp only [Bool.and_eq_true, Bool.or_eq_true, decide_eq_true_eq] at hb
  obtain ⟨⟨⟨⟨b1, b2⟩, b3⟩, b4⟩, b5⟩ := hb
  obtain rfl : s = 0 := by simpa [hasS, fieldsN] using b2
  obtain rfl : k = 0 := by simpa [hasK, fieldsN] using b3
  obtain rfl : tt = 0 := by simpa [hasT, fieldsN] using b4
  have HBARE := hid hbare
  clear hbare b1 b5
  have EV : Hid ((formB ⟨8, r, 0, 0, 0, n⟩ && fitsB d.slots d.ts ⟨8, r, 0, 0, 0, n⟩) = (inB r 0 9 && (decide (n < d.slots)))) := by
    show _ = _
    have hb := HBARE.out
    unfold formB fitsB regsB
    simp only [hb]
    simp [show inB 0 0 9 = true from rfl, show inB 8 1 18 = true from rfl]
  obtain ⟨W2, hW2⟩ : ∃ W2, W2 = ((w.alloc (.cells #[.int .i64 d.slots, .slice d.tabs.a d.tabs.n d.tabs.c, .slice d.code.a d.code.n d.code.c] 25)).alloc (.cells #[.int .i64 (8 : Int), .int .i64 r, .int .i64 (0 : Int), .int .i64 (0 : Int), .int .i64 (0 : Int), .int .u64 n] 35)) := ⟨_, rfl⟩
  obtain ⟨pb, hpb⟩ : ∃ b, b = w.heap.size := ⟨_, rfl⟩
  obtain ⟨ib, hib⟩ : ∃ b, b = w.heap.size + 1 := ⟨_, rfl⟩
  have HB : Hid (Below w.heap.size w W2) := by rw [hW2]; exact bl_alloc (bl_alloc (Below.refl _ _))
  have PB : Hid (PBox d W2 pb) := by rw [hW2, hpb]; exact (pbox_new d w).step (bl_alloc (Below.refl _ _))
  have IB : Hid (IBox ⟨8, r, 0, 0, 0, n⟩ W2 ib) := by
    show IBox ⟨8, r, 0, 0, 0, n⟩ W2 ib
    rw [hW2, hib]
    have := ibox_new ⟨8, r, 0, 0, 0, n⟩ (w.alloc (.cells #[.int .i64 d.slots, .slice d.tabs.a d.tabs.n d.tabs.c, .slice d.code.a d.code.n d.code.c] 25))
    simpa using this
  have HF := hid (rfields (8 : Int) W2)
  have HR := hid (fun n w => risReg n w)
  have HL := hid hl
  have HS := hid hs
  have HX := hid hx
  have EW := hid hW2
  have EP := hid hpb
  have EI := hid hib
  have HT : Hid (∀ b w', b = (formB ⟨8, r, 0, 0, 0, n⟩ && fitsB d.slots d.ts ⟨8, r, 0, 0, 0, n⟩) → Below w.heap.size w w' → TellB (formB ⟨8, r, 0, 0, 0, n⟩ && fitsB d.slots d.ts ⟨8, r, 0, 0, 0, n⟩) w (.returned (.bool b)) w') := fun b w' e h => ⟨by rw [e], h⟩
  dsimp only [ProgD.v, InsD.v]
  clear hl hs hx hW2 hpb hib
  go_enter Try.func26, Try.ntmps26
  go_wp2_with fail
  rw [← EW.out, ← EI.out, ← EP.out]
  clear EW EI EP
  refine HF.out.mono ?_
  rintro e w3 ⟨rfl, hb3⟩
  obtain ⟨W4, hW4⟩ : ∃ W4, W4 = w3.alloc (.cells #[.bool (hasR (8 : Int)), .bool (hasS (8 : Int)), .bool (hasK (8 : Int)), .bool (hasT (8 : Int)), .bool (hasN (8 : Int))] 59) := ⟨_, rfl⟩
  obtain ⟨hb, hhb⟩ : ∃ b, b = w3.heap.size := ⟨_, rfl⟩
  have b4 : Below W2.heap.size W2 W4 := by rw [hW4]; exact bl_alloc hb3
  have FA : Hid (FAt d ⟨8, r, 0, 0, 0, n⟩ W4 pb ib hb) := ⟨PB.out.step b4, IB.out.step b4, by rw [hW4, hhb]; simp, by rw [hW4, hhb]; simp, by rw [hW4, hhb]; simp, by rw [hW4, hhb]; simp, by rw [hW4, hhb]; simp⟩
  have HB4 := hid (bl_step HB.out b4)
  have EW4 := hid hW4
  have EH := hid hhb
  clear HF hb3 hW4 hhb b4 PB IB HB
  go_upto_region 2 with fail
  rw [← EW4.out, ← EH.out]
  clear EW4 EH
  obtain ⟨⟨p0, p1, p2⟩, ⟨i0, i1, i2, i3, i4, i5⟩, h0, h1, h2, h3, h4⟩ := FA.out
  have hs1 := HS.out.1
  have hs2 := HS.out.2.1
  have hu : IntKind.u64.wrap d.slots = d.slots := gwrap_u _ (by omega) (by omega)
  rw [show inB 8 1 18 = true from rfl]
  rw [show hasR 8 = true from rfl] at h0
  rw [show hasS 8 = false from rfl] at h1
  rw [show hasK 8 = false from rfl] at h2
  rw [show hasT 8 = false from rfl] at h3
  rw [show hasN 8 = true from rfl] at h4
  dsimp only at i0 i1 i2 i3 i4 i5
  cases hRR : inB r 0 9 with
  | false =>
    have ER := hid hRR
    clear hRR
    go_wp2_with fail
    refine (HR.out _ _).mono ?_
    rintro e w5 ⟨rfl, rfl⟩
    rw [ER.out]
    go_wp2
    go_ret
    exact HT.out _ _ (by rw [EV.out, ER.out] <;> (first | rfl | simp)) HB4.out
  | true =>
    have ER := hid hRR
    clear hRR
    go_wp2_with fail
    refine (HR.out _ _).mono ?_
    rintro e w5 ⟨rfl, rfl⟩
    rw [ER.out]
    go_wp2_with fail
    refine (HR.out _ _).mono ?_
    rintro e w5 ⟨rfl, rfl⟩
    rw [show inB 0 0 9 = true from rfl]
    go_wp2
    go_ret
    exact HT.out _ _ (by rw [EV.out, ER.out] <;> (first | rfl | simp)) HB4.out

set_option maxHeartbeats 8000000 in
set_option maxRecDepth 20000 in
theorem rinsOp9 (d : ProgD) (x : InsD) (w : World) (hl : d.lie w) (hs : OkSz d) (hx : x.wf) (ho : x.op = 9) (hbare : bareB x = true) : Calls Try.prog 26 #[d.v, x.v] w (TellB (formB x && fitsB d.slots d.ts x) w) := by
  obtain ⟨op, r, s, k, tt, n⟩ := x
  dsimp only at ho
  subst op
  have hb := hbare
  unfold bareB at hb
  simp only [Bool.and_eq_true, Bool.or_eq_true, decide_eq_true_eq] at hb
  obtain ⟨⟨⟨⟨b1, b2⟩, b3⟩, b4⟩, b5⟩ := hb
  obtain rfl : s = 0 := by simpa [hasS, fieldsN] using b2
  obtain rfl : k = 0 := by simpa [hasK, fieldsN] using b3
  have HBARE := hid hbare
  clear hbare b1 b4 b5
  have EV : Hid ((formB ⟨9, r, 0, 0, tt, n⟩ && fitsB d.slots d.ts ⟨9, r, 0, 0, tt, n⟩) = (inB r 0 9 && (decide (0 ≤ tt) && (decide (n ≤ 600))))) := by
    show _ = _
    have hb := HBARE.out
    unfold formB fitsB regsB
    simp only [hb]
    simp [show inB 0 0 9 = true from rfl, show inB 9 1 18 = true from rfl, Bool.and_assoc]
  obtain ⟨W2, hW2⟩ : ∃ W2, W2 = ((w.alloc (.cells #[.int .i64 d.slots, .slice d.tabs.a d.tabs.n d.tabs.c, .slice d.code.a d.code.n d.code.c] 25)).alloc (.cells #[.int .i64 (9 : Int), .int .i64 r, .int .i64 (0 : Int), .int .i64 (0 : Int), .int .i64 tt, .int .u64 n] 35)) := ⟨_, rfl⟩
  obtain ⟨pb, hpb⟩ : ∃ b, b = w.heap.size := ⟨_, rfl⟩
  obtain ⟨ib, hib⟩ : ∃ b, b = w.heap.size + 1 := ⟨_, rfl⟩
  have HB : Hid (Below w.heap.size w W2) := by rw [hW2]; exact bl_alloc (bl_alloc (Below.refl _ _))
  have PB : Hid (PBox d W2 pb) := by rw [hW2, hpb]; exact (pbox_new d w).step (bl_alloc (Below.refl _ _))
  have IB : Hid (IBox ⟨9, r, 0, 0, tt, n⟩ W2 ib) := by
    show IBox ⟨9, r, 0, 0, tt, n⟩ W2 ib
    rw [hW2, hib]
    have := ibox_new ⟨9, r, 0, 0, tt, n⟩ (w.alloc (.cells #[.int .i64 d.slots, .slice d.tabs.a d.tabs.n d.tabs.c, .slice d.code.a d.code.n d.code.c] 25))
    simpa using this
  have HF := hid (rfields (9 : Int) W2)
  have HR := hid (fun n w => risReg n w)
  have HL := hid hl
  have HS := hid hs
  have HX := hid hx
  have EW := hid hW2
  have EP := hid hpb
  have EI := hid hib
  have HT : Hid (∀ b w', b = (formB ⟨9, r, 0, 0, tt, n⟩ && fitsB d.slots d.ts ⟨9, r, 0, 0, tt, n⟩) → Below w.heap.size w w' → TellB (formB ⟨9, r, 0, 0, tt, n⟩ && fitsB d.slots d.ts ⟨9, r, 0, 0, tt, n⟩) w (.returned (.bool b)) w') := fun b w' e h => ⟨by rw [e], h⟩
  dsimp only [ProgD.v, InsD.v]
  clear hl hs hx hW2 hpb hib
  go_enter Try.func26, Try.ntmps26
  go_wp2_with fail
  rw [← EW.out, ← EI.out, ← EP.out]
  clear EW EI EP
  refine HF.out.mono ?_
  rintro e w3 ⟨rfl, hb3⟩
  obtain ⟨W4, hW4⟩ : ∃ W4, W4 = w3.alloc (.cells #[.bool (hasR (9 : Int)), .bool (hasS (9 : Int)), .bool (hasK (9 : Int)), .bool (hasT (9 : Int)), .bool (hasN (9 : Int))] 59) := ⟨_, rfl⟩
  obtain ⟨hb, hhb⟩ : ∃ b, b = w3.heap.size := ⟨_, rfl⟩
  have b4 : Below W2.heap.size W2 W4 := by rw [hW4]; exact bl_alloc hb3
  have FA : Hid (FAt d ⟨9, r, 0, 0, tt, n⟩ W4 pb ib hb) := ⟨PB.out.step b4, IB.out.step b4, by rw [hW4, hhb]; simp, by rw [hW4, hhb]; simp, by rw [hW4, hhb]; simp, by rw [hW4, hhb]; simp, by rw [hW4, hhb]; simp⟩
  have HB4 := hid (bl_step HB.out b4)
  have EW4 := hid hW4
  have EH := hid hhb
  clear HF hb3 hW4 hhb b4 PB IB HB
  go_upto_region 2 with fail
  rw [← EW4.out, ← EH.out]
  clear EW4 EH
  obtain ⟨⟨p0, p1, p2⟩, ⟨i0, i1, i2, i3, i4, i5⟩, h0, h1, h2, h3, h4⟩ := FA.out
  have hs1 := HS.out.1
  have hs2 := HS.out.2.1
  have hu : IntKind.u64.wrap d.slots = d.slots := gwrap_u _ (by omega) (by omega)
  rw [show inB 9 1 18 = true from rfl]
  rw [show hasR 9 = true from rfl] at h0
  rw [show hasS 9 = false from rfl] at h1
  rw [show hasK 9 = false from rfl] at h2
  rw [show hasT 9 = true from rfl] at h3
  rw [show hasN 9 = true from rfl] at h4
  dsimp only at i0 i1 i2 i3 i4 i5
  cases hRR : inB r 0 9 with
  | false =>
    have ER := hid hRR
    clear hRR
    go_wp2_with fail
    refine (HR.out _ _).mono ?_
    rintro e w5 ⟨rfl, rfl⟩
    rw [ER.out]
    go_wp2
    go_ret
    exact HT.out _ _ (by rw [EV.out, ER.out] <;> (first | rfl | simp)) HB4.out
  | true =>
    have ER := hid hRR
    clear hRR
    go_wp2_with fail
    refine (HR.out _ _).mono ?_
    rintro e w5 ⟨rfl, rfl⟩
    rw [ER.out]
    go_wp2_with fail
    refine (HR.out _ _).mono ?_
    rintro e w5 ⟨rfl, rfl⟩
    rw [show inB 0 0 9 = true from rfl]
    by_cases ht : 0 ≤ tt
    rotate_left
    · have ht2 : tt < 0 := by omega
      have ET := hid (decide_eq_false ht)
      go_wp2
      go_ret
      exact HT.out _ _ (by rw [EV.out, ER.out, ET.out] <;> (first | rfl | simp)) HB4.out
    have ht2 : ¬ tt < 0 := by omega
    have ET := hid (decide_eq_true ht)
    go_wp2
    go_ret
    exact HT.out _ _ (by rw [EV.out, ER.out, ET.out] <;> (first | rfl | simp)) HB4.out

set_option maxHeartbeats 8000000 in
set_option maxRecDepth 20000 in
theorem rinsOp10 (d : ProgD) (x : InsD) (w : World) (hl : d.lie w) (hs : OkSz d) (hx : x.wf) (ho : x.op = 10) (hbare : bareB x = true) : Calls Try.prog 26 #[d.v, x.v] w (TellB (formB x && fitsB d.slots d.ts x) w) := by
  obtain ⟨op, r, s, k, tt, n⟩ := x
  dsimp only at ho
  subst op
  have hb := hbare
  unfold bareB at hb
  simp only [Bool.and_eq_true, Bool.or_eq_true, decide_eq_true_eq] at hb
  obtain ⟨⟨⟨⟨b1, b2⟩, b3⟩, b4⟩, b5⟩ := hb
  obtain rfl : k = 0 := by simpa [hasK, fieldsN] using b3
  obtain rfl : n = 0 := by simpa [hasN, fieldsN] using b5
  have HBARE := hid hbare
  clear hbare b1 b2 b4
  have EV : Hid ((formB ⟨10, r, s, 0, tt, 0⟩ && fitsB d.slots d.ts ⟨10, r, s, 0, tt, 0⟩) = (inB r 0 9 && (inB s 0 9 && (decide (0 ≤ tt))))) := by
    show _ = _
    have hb := HBARE.out
    unfold formB fitsB regsB
    simp only [hb]
    simp [show inB 10 1 18 = true from rfl, Bool.and_assoc]
  obtain ⟨W2, hW2⟩ : ∃ W2, W2 = ((w.alloc (.cells #[.int .i64 d.slots, .slice d.tabs.a d.tabs.n d.tabs.c, .slice d.code.a d.code.n d.code.c] 25)).alloc (.cells #[.int .i64 (10 : Int), .int .i64 r, .int .i64 s, .int .i64 (0 : Int), .int .i64 tt, .int .u64 (0 : Int)] 35)) := ⟨_, rfl⟩
  obtain ⟨pb, hpb⟩ : ∃ b, b = w.heap.size := ⟨_, rfl⟩
  obtain ⟨ib, hib⟩ : ∃ b, b = w.heap.size + 1 := ⟨_, rfl⟩
  have HB : Hid (Below w.heap.size w W2) := by rw [hW2]; exact bl_alloc (bl_alloc (Below.refl _ _))
  have PB : Hid (PBox d W2 pb) := by rw [hW2, hpb]; exact (pbox_new d w).step (bl_alloc (Below.refl _ _))
  have IB : Hid (IBox ⟨10, r, s, 0, tt, 0⟩ W2 ib) := by
    show IBox ⟨10, r, s, 0, tt, 0⟩ W2 ib
    rw [hW2, hib]
    have := ibox_new ⟨10, r, s, 0, tt, 0⟩ (w.alloc (.cells #[.int .i64 d.slots, .slice d.tabs.a d.tabs.n d.tabs.c, .slice d.code.a d.code.n d.code.c] 25))
    simpa using this
  have HF := hid (rfields (10 : Int) W2)
  have HR := hid (fun n w => risReg n w)
  have HL := hid hl
  have HS := hid hs
  have HX := hid hx
  have EW := hid hW2
  have EP := hid hpb
  have EI := hid hib
  have HT : Hid (∀ b w', b = (formB ⟨10, r, s, 0, tt, 0⟩ && fitsB d.slots d.ts ⟨10, r, s, 0, tt, 0⟩) → Below w.heap.size w w' → TellB (formB ⟨10, r, s, 0, tt, 0⟩ && fitsB d.slots d.ts ⟨10, r, s, 0, tt, 0⟩) w (.returned (.bool b)) w') := fun b w' e h => ⟨by rw [e], h⟩
  dsimp only [ProgD.v, InsD.v]
  clear hl hs hx hW2 hpb hib
  go_enter Try.func26, Try.ntmps26
  go_wp2_with fail
  rw [← EW.out, ← EI.out, ← EP.out]
  clear EW EI EP
  refine HF.out.mono ?_
  rintro e w3 ⟨rfl, hb3⟩
  obtain ⟨W4, hW4⟩ : ∃ W4, W4 = w3.alloc (.cells #[.bool (hasR (10 : Int)), .bool (hasS (10 : Int)), .bool (hasK (10 : Int)), .bool (hasT (10 : Int)), .bool (hasN (10 : Int))] 59) := ⟨_, rfl⟩
  obtain ⟨hb, hhb⟩ : ∃ b, b = w3.heap.size := ⟨_, rfl⟩
  have b4 : Below W2.heap.size W2 W4 := by rw [hW4]; exact bl_alloc hb3
  have FA : Hid (FAt d ⟨10, r, s, 0, tt, 0⟩ W4 pb ib hb) := ⟨PB.out.step b4, IB.out.step b4, by rw [hW4, hhb]; simp, by rw [hW4, hhb]; simp, by rw [hW4, hhb]; simp, by rw [hW4, hhb]; simp, by rw [hW4, hhb]; simp⟩
  have HB4 := hid (bl_step HB.out b4)
  have EW4 := hid hW4
  have EH := hid hhb
  clear HF hb3 hW4 hhb b4 PB IB HB
  go_upto_region 2 with fail
  rw [← EW4.out, ← EH.out]
  clear EW4 EH
  obtain ⟨⟨p0, p1, p2⟩, ⟨i0, i1, i2, i3, i4, i5⟩, h0, h1, h2, h3, h4⟩ := FA.out
  have hs1 := HS.out.1
  have hs2 := HS.out.2.1
  have hu : IntKind.u64.wrap d.slots = d.slots := gwrap_u _ (by omega) (by omega)
  rw [show inB 10 1 18 = true from rfl]
  rw [show hasR 10 = true from rfl] at h0
  rw [show hasS 10 = true from rfl] at h1
  rw [show hasK 10 = false from rfl] at h2
  rw [show hasT 10 = true from rfl] at h3
  rw [show hasN 10 = false from rfl] at h4
  dsimp only at i0 i1 i2 i3 i4 i5
  cases hRR : inB r 0 9 with
  | false =>
    have ER := hid hRR
    clear hRR
    go_wp2_with fail
    refine (HR.out _ _).mono ?_
    rintro e w5 ⟨rfl, rfl⟩
    rw [ER.out]
    go_wp2
    go_ret
    exact HT.out _ _ (by rw [EV.out, ER.out] <;> (first | rfl | simp)) HB4.out
  | true =>
    have ER := hid hRR
    clear hRR
    go_wp2_with fail
    refine (HR.out _ _).mono ?_
    rintro e w5 ⟨rfl, rfl⟩
    rw [ER.out]
    cases hSS : inB s 0 9 with
    | false =>
      have ES := hid hSS
      clear hSS
      go_wp2_with fail
      refine (HR.out _ _).mono ?_
      rintro e w5 ⟨rfl, rfl⟩
      rw [ES.out]
      go_wp2
      go_ret
      exact HT.out _ _ (by rw [EV.out, ER.out, ES.out] <;> (first | rfl | simp)) HB4.out
    | true =>
      have ES := hid hSS
      clear hSS
      go_wp2_with fail
      refine (HR.out _ _).mono ?_
      rintro e w5 ⟨rfl, rfl⟩
      rw [ES.out]
      by_cases ht : 0 ≤ tt
      rotate_left
      · have ht2 : tt < 0 := by omega
        have ET := hid (decide_eq_false ht)
        go_wp2
        go_ret
        exact HT.out _ _ (by rw [EV.out, ER.out, ES.out, ET.out] <;> (first | rfl | simp)) HB4.out
      have ht2 : ¬ tt < 0 := by omega
      have ET := hid (decide_eq_true ht)
      go_wp2
      go_ret
      exact HT.out _ _ (by rw [EV.out, ER.out, ES.out, ET.out] <;> (first | rfl | simp)) HB4.out

set_option maxHeartbeats 8000000 in
set_option maxRecDepth 20000 in
theorem rinsOp11 (d : ProgD) (x : InsD) (w : World) (hl : d.lie w) (hs : OkSz d) (hx : x.wf) (ho : x.op = 11) (hbare : bareB x = true) : Calls Try.prog 26 #[d.v, x.v] w (TellB (formB x && fitsB d.slots d.ts x) w) := by
  obtain ⟨op, r, s, k, tt, n⟩ := x
  dsimp only at ho
  subst op
  have hb := hbare
  unfold bareB at hb
  simp only [Bool.and_eq_true, Bool.or_eq_true, decide_eq_true_eq] at hb
  obtain ⟨⟨⟨⟨b1, b2⟩, b3⟩, b4⟩, b5⟩ := hb
  obtain rfl : k = 0 := by simpa [hasK, fieldsN] using b3
  obtain rfl : n = 0 := by simpa [hasN, fieldsN] using b5
  have HBARE := hid hbare
  clear hbare b1 b2 b4
  have EV : Hid ((formB ⟨11, r, s, 0, tt, 0⟩ && fitsB d.slots d.ts ⟨11, r, s, 0, tt, 0⟩) = (inB r 0 9 && (inB s 0 9 && (decide (0 ≤ tt))))) := by
    show _ = _
    have hb := HBARE.out
    unfold formB fitsB regsB
    simp only [hb]
    simp [show inB 11 1 18 = true from rfl, Bool.and_assoc]
  obtain ⟨W2, hW2⟩ : ∃ W2, W2 = ((w.alloc (.cells #[.int .i64 d.slots, .slice d.tabs.a d.tabs.n d.tabs.c, .slice d.code.a d.code.n d.code.c] 25)).alloc (.cells #[.int .i64 (11 : Int), .int .i64 r, .int .i64 s, .int .i64 (0 : Int), .int .i64 tt, .int .u64 (0 : Int)] 35)) := ⟨_, rfl⟩
  obtain ⟨pb, hpb⟩ : ∃ b, b = w.heap.size := ⟨_, rfl⟩
  obtain ⟨ib, hib⟩ : ∃ b, b = w.heap.size + 1 := ⟨_, rfl⟩
  have HB : Hid (Below w.heap.size w W2) := by rw [hW2]; exact bl_alloc (bl_alloc (Below.refl _ _))
  have PB : Hid (PBox d W2 pb) := by rw [hW2, hpb]; exact (pbox_new d w).step (bl_alloc (Below.refl _ _))
  have IB : Hid (IBox ⟨11, r, s, 0, tt, 0⟩ W2 ib) := by
    show IBox ⟨11, r, s, 0, tt, 0⟩ W2 ib
    rw [hW2, hib]
    have := ibox_new ⟨11, r, s, 0, tt, 0⟩ (w.alloc (.cells #[.int .i64 d.slots, .slice d.tabs.a d.tabs.n d.tabs.c, .slice d.code.a d.code.n d.code.c] 25))
    simpa using this
  have HF := hid (rfields (11 : Int) W2)
  have HR := hid (fun n w => risReg n w)
  have HL := hid hl
  have HS := hid hs
  have HX := hid hx
  have EW := hid hW2
  have EP := hid hpb
  have EI := hid hib
  have HT : Hid (∀ b w', b = (formB ⟨11, r, s, 0, tt, 0⟩ && fitsB d.slots d.ts ⟨11, r, s, 0, tt, 0⟩) → Below w.heap.size w w' → TellB (formB ⟨11, r, s, 0, tt, 0⟩ && fitsB d.slots d.ts ⟨11, r, s, 0, tt, 0⟩) w (.returned (.bool b)) w') := fun b w' e h => ⟨by rw [e], h⟩
  dsimp only [ProgD.v, InsD.v]
  clear hl hs hx hW2 hpb hib
  go_enter Try.func26, Try.ntmps26
  go_wp2_with fail
  rw [← EW.out, ← EI.out, ← EP.out]
  clear EW EI EP
  refine HF.out.mono ?_
  rintro e w3 ⟨rfl, hb3⟩
  obtain ⟨W4, hW4⟩ : ∃ W4, W4 = w3.alloc (.cells #[.bool (hasR (11 : Int)), .bool (hasS (11 : Int)), .bool (hasK (11 : Int)), .bool (hasT (11 : Int)), .bool (hasN (11 : Int))] 59) := ⟨_, rfl⟩
  obtain ⟨hb, hhb⟩ : ∃ b, b = w3.heap.size := ⟨_, rfl⟩
  have b4 : Below W2.heap.size W2 W4 := by rw [hW4]; exact bl_alloc hb3
  have FA : Hid (FAt d ⟨11, r, s, 0, tt, 0⟩ W4 pb ib hb) := ⟨PB.out.step b4, IB.out.step b4, by rw [hW4, hhb]; simp, by rw [hW4, hhb]; simp, by rw [hW4, hhb]; simp, by rw [hW4, hhb]; simp, by rw [hW4, hhb]; simp⟩
  have HB4 := hid (bl_step HB.out b4)
  have EW4 := hid hW4
  have EH := hid hhb
  clear HF hb3 hW4 hhb b4 PB IB HB
  go_upto_region 2 with fail
  rw [← EW4.out, ← EH.out]
  clear EW4 EH
  obtain ⟨⟨p0, p1, p2⟩, ⟨i0, i1, i2, i3, i4, i5⟩, h0, h1, h2, h3, h4⟩ := FA.out
  have hs1 := HS.out.1
  have hs2 := HS.out.2.1
  have hu : IntKind.u64.wrap d.slots = d.slots := gwrap_u _ (by omega) (by omega)
  rw [show inB 11 1 18 = true from rfl]
  rw [show hasR 11 = true from rfl] at h0
  rw [show hasS 11 = true from rfl] at h1
  rw [show hasK 11 = false from rfl] at h2
  rw [show hasT 11 = true from rfl] at h3
  rw [show hasN 11 = false from rfl] at h4
  dsimp only at i0 i1 i2 i3 i4 i5
  cases hRR : inB r 0 9 with
  | false =>
    have ER := hid hRR
    clear hRR
    go_wp2_with fail
    refine (HR.out _ _).mono ?_
    rintro e w5 ⟨rfl, rfl⟩
    rw [ER.out]
    go_wp2
    go_ret
    exact HT.out _ _ (by rw [EV.out, ER.out] <;> (first | rfl | simp)) HB4.out
  | true =>
    have ER := hid hRR
    clear hRR
    go_wp2_with fail
    refine (HR.out _ _).mono ?_
    rintro e w5 ⟨rfl, rfl⟩
    rw [ER.out]
    cases hSS : inB s 0 9 with
    | false =>
      have ES := hid hSS
      clear hSS
      go_wp2_with fail
      refine (HR.out _ _).mono ?_
      rintro e w5 ⟨rfl, rfl⟩
      rw [ES.out]
      go_wp2
      go_ret
      exact HT.out _ _ (by rw [EV.out, ER.out, ES.out] <;> (first | rfl | simp)) HB4.out
    | true =>
      have ES := hid hSS
      clear hSS
      go_wp2_with fail
      refine (HR.out _ _).mono ?_
      rintro e w5 ⟨rfl, rfl⟩
      rw [ES.out]
      by_cases ht : 0 ≤ tt
      rotate_left
      · have ht2 : tt < 0 := by omega
        have ET := hid (decide_eq_false ht)
        go_wp2
        go_ret
        exact HT.out _ _ (by rw [EV.out, ER.out, ES.out, ET.out] <;> (first | rfl | simp)) HB4.out
      have ht2 : ¬ tt < 0 := by omega
      have ET := hid (decide_eq_true ht)
      go_wp2
      go_ret
      exact HT.out _ _ (by rw [EV.out, ER.out, ES.out, ET.out] <;> (first | rfl | simp)) HB4.out

set_option maxHeartbeats 8000000 in
set_option maxRecDepth 20000 in
theorem rinsOp12 (d : ProgD) (x : InsD) (w : World) (hl : d.lie w) (hs : OkSz d) (hx : x.wf) (ho : x.op = 12) (hbare : bareB x = true) : Calls Try.prog 26 #[d.v, x.v] w (TellB (formB x && fitsB d.slots d.ts x) w) := by
  obtain ⟨op, r, s, k, tt, n⟩ := x
  dsimp only at ho
  subst op
  have hb := hbare
  unfold bareB at hb
  simp only [Bool.and_eq_true, Bool.or_eq_true, decide_eq_true_eq] at hb
  obtain ⟨⟨⟨⟨b1, b2⟩, b3⟩, b4⟩, b5⟩ := hb
  obtain rfl : r = 0 := by simpa [hasR, fieldsN] using b1
  obtain rfl : s = 0 := by simpa [hasS, fieldsN] using b2
  obtain rfl : k = 0 := by simpa [hasK, fieldsN] using b3
  obtain rfl : n = 0 := by simpa [hasN, fieldsN] using b5
  have HBARE := hid hbare
  clear hbare b4
  have EV : Hid ((formB ⟨12, 0, 0, 0, tt, 0⟩ && fitsB d.slots d.ts ⟨12, 0, 0, 0, tt, 0⟩) = decide (0 ≤ tt)) := by
    show _ = _
    have hb := HBARE.out
    unfold formB fitsB regsB
    simp only [hb]
    simp [show inB 0 0 9 = true from rfl, show inB 12 1 18 = true from rfl]
  obtain ⟨W2, hW2⟩ : ∃ W2, W2 = ((w.alloc (.cells #[.int .i64 d.slots, .slice d.tabs.a d.tabs.n d.tabs.c, .slice d.code.a d.code.n d.code.c] 25)).alloc (.cells #[.int .i64 (12 : Int), .int .i64 (0 : Int), .int .i64 (0 : Int), .int .i64 (0 : Int), .int .i64 tt, .int .u64 (0 : Int)] 35)) := ⟨_, rfl⟩
  obtain ⟨pb, hpb⟩ : ∃ b, b = w.heap.size := ⟨_, rfl⟩
  obtain ⟨ib, hib⟩ : ∃ b, b = w.heap.size + 1 := ⟨_, rfl⟩
  have HB : Hid (Below w.heap.size w W2) := by rw [hW2]; exact bl_alloc (bl_alloc (Below.refl _ _))
  have PB : Hid (PBox d W2 pb) := by rw [hW2, hpb]; exact (pbox_new d w).step (bl_alloc (Below.refl _ _))
  have IB : Hid (IBox ⟨12, 0, 0, 0, tt, 0⟩ W2 ib) := by
    show IBox ⟨12, 0, 0, 0, tt, 0⟩ W2 ib
    rw [hW2, hib]
    have := ibox_new ⟨12, 0, 0, 0, tt, 0⟩ (w.alloc (.cells #[.int .i64 d.slots, .slice d.tabs.a d.tabs.n d.tabs.c, .slice d.code.a d.code.n d.code.c] 25))
    simpa using this
  have HF := hid (rfields (12 : Int) W2)
  have HR := hid (fun n w => risReg n w)
  have HL := hid hl
  have HS := hid hs
  have HX := hid hx
  have EW := hid hW2
  have EP := hid hpb
  have EI := hid hib
  have HT : Hid (∀ b w', b = (formB ⟨12, 0, 0, 0, tt, 0⟩ && fitsB d.slots d.ts ⟨12, 0, 0, 0, tt, 0⟩) → Below w.heap.size w w' → TellB (formB ⟨12, 0, 0, 0, tt, 0⟩ && fitsB d.slots d.ts ⟨12, 0, 0, 0, tt, 0⟩) w (.returned (.bool b)) w') := fun b w' e h => ⟨by rw [e], h⟩
  dsimp only [ProgD.v, InsD.v]
  clear hl hs hx hW2 hpb hib
  go_enter Try.func26, Try.ntmps26
  go_wp2_with fail
  rw [← EW.out, ← EI.out, ← EP.out]
  clear EW EI EP
  refine HF.out.mono ?_
  rintro e w3 ⟨rfl, hb3⟩
  obtain ⟨W4, hW4⟩ : ∃ W4, W4 = w3.alloc (.cells #[.bool (hasR (12 : Int)), .bool (hasS (12 : Int)), .bool (hasK (12 : Int)), .bool (hasT (12 : Int)), .bool (hasN (12 : Int))] 59) := ⟨_, rfl⟩
  obtain ⟨hb, hhb⟩ : ∃ b, b = w3.heap.size := ⟨_, rfl⟩
  have b4 : Below W2.heap.size W2 W4 := by rw [hW4]; exact bl_alloc hb3
  have FA : Hid (FAt d ⟨12, 0, 0, 0, tt, 0⟩ W4 pb ib hb) := ⟨PB.out.step b4, IB.out.step b4, by rw [hW4, hhb]; simp, by rw [hW4, hhb]; simp, by rw [hW4, hhb]; simp, by rw [hW4, hhb]; simp, by rw [hW4, hhb]; simp⟩
  have HB4 := hid (bl_step HB.out b4)
  have EW4 := hid hW4
  have EH := hid hhb
  clear HF hb3 hW4 hhb b4 PB IB HB
  go_upto_region 2 with fail
  rw [← EW4.out, ← EH.out]
  clear EW4 EH
  obtain ⟨⟨p0, p1, p2⟩, ⟨i0, i1, i2, i3, i4, i5⟩, h0, h1, h2, h3, h4⟩ := FA.out
  have hs1 := HS.out.1
  have hs2 := HS.out.2.1
  have hu : IntKind.u64.wrap d.slots = d.slots := gwrap_u _ (by omega) (by omega)
  rw [show inB 12 1 18 = true from rfl]
  rw [show hasR 12 = false from rfl] at h0
  rw [show hasS 12 = false from rfl] at h1
  rw [show hasK 12 = false from rfl] at h2
  rw [show hasT 12 = true from rfl] at h3
  rw [show hasN 12 = false from rfl] at h4
  dsimp only at i0 i1 i2 i3 i4 i5
  go_wp2_with fail
  refine (HR.out _ _).mono ?_
  rintro e w5 ⟨rfl, rfl⟩
  rw [show inB 0 0 9 = true from rfl]
  go_wp2_with fail
  refine (HR.out _ _).mono ?_
  rintro e w5 ⟨rfl, rfl⟩
  rw [show inB 0 0 9 = true from rfl]
  by_cases ht : 0 ≤ tt
  rotate_left
  · have ht2 : tt < 0 := by omega
    have ET := hid (decide_eq_false ht)
    go_wp2
    go_ret
    exact HT.out _ _ (by rw [EV.out, ET.out] <;> (first | rfl | simp)) HB4.out
  have ht2 : ¬ tt < 0 := by omega
  have ET := hid (decide_eq_true ht)
  go_wp2
  go_ret
  exact HT.out _ _ (by rw [EV.out, ET.out] <;> (first | rfl | simp)) HB4.out
end Go.Proofs.Ytmohffibkpecpaa
