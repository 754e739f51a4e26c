/- The document's word on instructions: insForm of what is not bare. -/
import Derived.Test.YtmohffibkpecpaaVGRefA
import Derived.Deep.DeepCutAuto
namespace Go.Proofs.Ytmohffibkpecpaa
open Go.RowKit

/-- the boxes of insForm -/
structure FAt (d : ProgD) (x : InsD) (W : World) (pb ib hb : Nat) : Prop where
  p : PBox d W pb
  i : IBox x W ib
  h0 : W.cell? ⟨hb, 0, none⟩ = some (.bool (hasR x.op))
  h1 : W.cell? ⟨hb, 1, none⟩ = some (.bool (hasS x.op))
  h2 : W.cell? ⟨hb, 2, none⟩ = some (.bool (hasK x.op))
  h3 : W.cell? ⟨hb, 3, none⟩ = some (.bool (hasT x.op))
  h4 : W.cell? ⟨hb, 4, none⟩ = some (.bool (hasN x.op))

theorem call_as {slots : Int} {t : ShapeD} {s k : Int} (ht : 1 ≤ t.keys ∧ t.keys ≤ 3 ∧ 0 ≤ t.args ∧ t.args ≤ 3) : (inB s 0 (slots - t.keys) && inB k 0 (slots - t.args)) = (decide (0 ≤ s) && decide (s ≤ slots) && decide (t.keys ≤ slots - s) && decide (0 ≤ k) && decide (k ≤ slots) && decide (t.args ≤ slots - k)) := by
  unfold inB
  rw [Bool.eq_iff_iff]
  simp only [Bool.and_eq_true, decide_eq_true_eq]
  omega


set_option maxHeartbeats 8000000 in
set_option maxRecDepth 20000 in
theorem rinsBad17 (d : ProgD) (x : InsD) (w : World) (hl : d.lie w) (hs : OkSz d) (hx : x.wf) (h : fieldsN x.op = 17) (hbad : (inB x.op 1 18 && bareB x) = false) : Calls Try.prog 26 #[d.v, x.v] w (TellB (formB x && fitsB d.slots d.ts x) w) := by
  have EB : Hid (false = (formB x && fitsB d.slots d.ts x)) := by show _ = _; unfold formB; rw [hbad]; rfl
  have HBAD := hid hbad
  have HH := hid h
  clear hbad h
  obtain ⟨W2, hW2⟩ : ∃ W2, W2 = ((w.alloc (.cells #[.int .i64 d.slots, .slice d.tabs.a d.tabs.n d.tabs.c, .slice d.code.a d.code.n d.code.c] 25)).alloc (.cells #[.int .i64 x.op, .int .i64 x.r, .int .i64 x.s, .int .i64 x.k, .int .i64 x.to, .int .u64 x.n] 35)) := ⟨_, rfl⟩
  obtain ⟨pb, hpb⟩ : ∃ b, b = w.heap.size := ⟨_, rfl⟩
  obtain ⟨ib, hib⟩ : ∃ b, b = w.heap.size + 1 := ⟨_, rfl⟩
  have HB : Hid (Below w.heap.size w W2) := by rw [hW2]; exact bl_alloc (bl_alloc (Below.refl _ _))
  have PB : Hid (PBox d W2 pb) := by rw [hW2, hpb]; exact (pbox_new d w).step (bl_alloc (Below.refl _ _))
  have IB : Hid (IBox x W2 ib) := by
    show IBox x W2 ib
    rw [hW2, hib]
    have := ibox_new x (w.alloc (.cells #[.int .i64 d.slots, .slice d.tabs.a d.tabs.n d.tabs.c, .slice d.code.a d.code.n d.code.c] 25))
    simpa using this
  have HF := hid (rfields x.op W2)
  have HR := hid (fun n w => risReg n w)
  have HL := hid hl
  have HS := hid hs
  have HX := hid hx
  have EW := hid hW2
  have EP := hid hpb
  have EI := hid hib
  have HT : Hid (∀ b w', b = (formB x && fitsB d.slots d.ts x) → Below w.heap.size w w' → TellB (formB x && fitsB d.slots d.ts x) w (.returned (.bool b)) w') := fun b w' e h => ⟨by rw [e], h⟩
  dsimp only [ProgD.v, InsD.v]
  clear hl hs hx hW2 hpb hib
  go_enter Try.func26, Try.ntmps26
  go_wp2_with fail
  rw [← EW.out, ← EI.out, ← EP.out]
  clear EW EI EP
  refine HF.out.mono ?_
  rintro e w3 ⟨rfl, hb3⟩
  obtain ⟨W4, hW4⟩ : ∃ W4, W4 = w3.alloc (.cells #[.bool (hasR x.op), .bool (hasS x.op), .bool (hasK x.op), .bool (hasT x.op), .bool (hasN x.op)] 59) := ⟨_, rfl⟩
  obtain ⟨hb, hhb⟩ : ∃ b, b = w3.heap.size := ⟨_, rfl⟩
  have b4 : Below W2.heap.size W2 W4 := by rw [hW4]; exact bl_alloc hb3
  have FA : Hid (FAt d x W4 pb ib hb) := ⟨PB.out.step b4, IB.out.step b4, by rw [hW4, hhb]; simp, by rw [hW4, hhb]; simp, by rw [hW4, hhb]; simp, by rw [hW4, hhb]; simp, by rw [hW4, hhb]; simp⟩
  have HB4 := hid (bl_step HB.out b4)
  have EW4 := hid hW4
  have EH := hid hhb
  clear HF hb3 hW4 hhb b4 PB IB HB
  go_upto_region 2 with fail
  rw [← EW4.out, ← EH.out]
  clear EW4 EH
  obtain ⟨⟨p0, p1, p2⟩, ⟨i0, i1, i2, i3, i4, i5⟩, h0, h1, h2, h3, h4⟩ := FA.out
  clear p0 p1 p2 HL HS HX HR FA
  have h := HH.out
  have hin : inB x.op 1 18 = true := fields_in (by rw [h]; decide)
  rw [show hasR x.op = true by simp [hasR, h]] at h0
  rw [show hasS x.op = false by simp [hasS, h]] at h1
  rw [show hasK x.op = false by simp [hasK, h]] at h2
  rw [show hasT x.op = false by simp [hasT, h]] at h3
  rw [show hasN x.op = true by simp [hasN, h]] at h4
  by_cases es : x.s = 0
  rotate_left
  · have ds : (x.s != 0) = true := by simpa using es
    clear h HH HBAD es
    go_wp2
    go_ret
    exact HT.out _ _ EB.out HB4.out
  by_cases ek : x.k = 0
  rotate_left
  · have dk : (x.k != 0) = true := by simpa using ek
    have ds : (x.s != 0) = false := by simpa using es
    clear h HH HBAD es ek
    go_wp2
    go_ret
    exact HT.out _ _ EB.out HB4.out
  by_cases ett : x.to = 0
  rotate_left
  · have dtt : (x.to != 0) = true := by simpa using ett
    have ds : (x.s != 0) = false := by simpa using es
    have dk : (x.k != 0) = false := by simpa using ek
    clear h HH HBAD es ek ett
    go_wp2
    go_ret
    exact HT.out _ _ EB.out HB4.out
  exfalso
  have := HBAD.out
  simp [bareB, hasR, hasS, hasK, hasT, hasN, h, hin, es, ek, ett] at this

set_option maxHeartbeats 8000000 in
set_option maxRecDepth 20000 in
theorem rinsBad3 (d : ProgD) (x : InsD) (w : World) (hl : d.lie w) (hs : OkSz d) (hx : x.wf) (h : fieldsN x.op = 3) (hbad : (inB x.op 1 18 && bareB x) = false) : Calls Try.prog 26 #[d.v, x.v] w (TellB (formB x && fitsB d.slots d.ts x) w) := by
  have EB : Hid (false = (formB x && fitsB d.slots d.ts x)) := by show _ = _; unfold formB; rw [hbad]; rfl
  have HBAD := hid hbad
  have HH := hid h
  clear hbad h
  obtain ⟨W2, hW2⟩ : ∃ W2, W2 = ((w.alloc (.cells #[.int .i64 d.slots, .slice d.tabs.a d.tabs.n d.tabs.c, .slice d.code.a d.code.n d.code.c] 25)).alloc (.cells #[.int .i64 x.op, .int .i64 x.r, .int .i64 x.s, .int .i64 x.k, .int .i64 x.to, .int .u64 x.n] 35)) := ⟨_, rfl⟩
  obtain ⟨pb, hpb⟩ : ∃ b, b = w.heap.size := ⟨_, rfl⟩
  obtain ⟨ib, hib⟩ : ∃ b, b = w.heap.size + 1 := ⟨_, rfl⟩
  have HB : Hid (Below w.heap.size w W2) := by rw [hW2]; exact bl_alloc (bl_alloc (Below.refl _ _))
  have PB : Hid (PBox d W2 pb) := by rw [hW2, hpb]; exact (pbox_new d w).step (bl_alloc (Below.refl _ _))
  have IB : Hid (IBox x W2 ib) := by
    show IBox x W2 ib
    rw [hW2, hib]
    have := ibox_new x (w.alloc (.cells #[.int .i64 d.slots, .slice d.tabs.a d.tabs.n d.tabs.c, .slice d.code.a d.code.n d.code.c] 25))
    simpa using this
  have HF := hid (rfields x.op W2)
  have HR := hid (fun n w => risReg n w)
  have HL := hid hl
  have HS := hid hs
  have HX := hid hx
  have EW := hid hW2
  have EP := hid hpb
  have EI := hid hib
  have HT : Hid (∀ b w', b = (formB x && fitsB d.slots d.ts x) → Below w.heap.size w w' → TellB (formB x && fitsB d.slots d.ts x) w (.returned (.bool b)) w') := fun b w' e h => ⟨by rw [e], h⟩
  dsimp only [ProgD.v, InsD.v]
  clear hl hs hx hW2 hpb hib
  go_enter Try.func26, Try.ntmps26
  go_wp2_with fail
  rw [← EW.out, ← EI.out, ← EP.out]
  clear EW EI EP
  refine HF.out.mono ?_
  rintro e w3 ⟨rfl, hb3⟩
  obtain ⟨W4, hW4⟩ : ∃ W4, W4 = w3.alloc (.cells #[.bool (hasR x.op), .bool (hasS x.op), .bool (hasK x.op), .bool (hasT x.op), .bool (hasN x.op)] 59) := ⟨_, rfl⟩
  obtain ⟨hb, hhb⟩ : ∃ b, b = w3.heap.size := ⟨_, rfl⟩
  have b4 : Below W2.heap.size W2 W4 := by rw [hW4]; exact bl_alloc hb3
  have FA : Hid (FAt d x W4 pb ib hb) := ⟨PB.out.step b4, IB.out.step b4, by rw [hW4, hhb]; simp, by rw [hW4, hhb]; simp, by rw [hW4, hhb]; simp, by rw [hW4, hhb]; simp, by rw [hW4, hhb]; simp⟩
  have HB4 := hid (bl_step HB.out b4)
  have EW4 := hid hW4
  have EH := hid hhb
  clear HF hb3 hW4 hhb b4 PB IB HB
  go_upto_region 2 with fail
  rw [← EW4.out, ← EH.out]
  clear EW4 EH
  obtain ⟨⟨p0, p1, p2⟩, ⟨i0, i1, i2, i3, i4, i5⟩, h0, h1, h2, h3, h4⟩ := FA.out
  clear p0 p1 p2 HL HS HX HR FA
  have h := HH.out
  have hin : inB x.op 1 18 = true := fields_in (by rw [h]; decide)
  rw [show hasR x.op = true by simp [hasR, h]] at h0
  rw [show hasS x.op = true by simp [hasS, h]] at h1
  rw [show hasK x.op = false by simp [hasK, h]] at h2
  rw [show hasT x.op = false by simp [hasT, h]] at h3
  rw [show hasN x.op = false by simp [hasN, h]] at h4
  by_cases ek : x.k = 0
  rotate_left
  · have dk : (x.k != 0) = true := by simpa using ek
    clear h HH HBAD ek
    go_wp2
    go_ret
    exact HT.out _ _ EB.out HB4.out
  by_cases ett : x.to = 0
  rotate_left
  · have dtt : (x.to != 0) = true := by simpa using ett
    have dk : (x.k != 0) = false := by simpa using ek
    clear h HH HBAD ek ett
    go_wp2
    go_ret
    exact HT.out _ _ EB.out HB4.out
  by_cases en : x.n = 0
  rotate_left
  · have dn : (x.n != 0) = true := by simpa using en
    have dk : (x.k != 0) = false := by simpa using ek
    have dtt : (x.to != 0) = false := by simpa using ett
    clear h HH HBAD ek ett en
    go_wp2
    go_ret
    exact HT.out _ _ EB.out HB4.out
  exfalso
  have := HBAD.out
  simp [bareB, hasR, hasS, hasK, hasT, hasN, h, hin, ek, ett, en] at this

set_option maxHeartbeats 8000000 in
set_option maxRecDepth 20000 in
theorem rinsBad7 (d : ProgD) (x : InsD) (w : World) (hl : d.lie w) (hs : OkSz d) (hx : x.wf) (h : fieldsN x.op = 7) (hbad : (inB x.op 1 18 && bareB x) = false) : Calls Try.prog 26 #[d.v, x.v] w (TellB (formB x && fitsB d.slots d.ts x) w) := by
  have EB : Hid (false = (formB x && fitsB d.slots d.ts x)) := by show _ = _; unfold formB; rw [hbad]; rfl
  have HBAD := hid hbad
  have HH := hid h
  clear hbad h
  obtain ⟨W2, hW2⟩ : ∃ W2, W2 = ((w.alloc (.cells #[.int .i64 d.slots, .slice d.tabs.a d.tabs.n d.tabs.c, .slice d.code.a d.code.n d.code.c] 25)).alloc (.cells #[.int .i64 x.op, .int .i64 x.r, .int .i64 x.s, .int .i64 x.k, .int .i64 x.to, .int .u64 x.n] 35)) := ⟨_, rfl⟩
  obtain ⟨pb, hpb⟩ : ∃ b, b = w.heap.size := ⟨_, rfl⟩
  obtain ⟨ib, hib⟩ : ∃ b, b = w.heap.size + 1 := ⟨_, rfl⟩
  have HB : Hid (Below w.heap.size w W2) := by rw [hW2]; exact bl_alloc (bl_alloc (Below.refl _ _))
  have PB : Hid (PBox d W2 pb) := by rw [hW2, hpb]; exact (pbox_new d w).step (bl_alloc (Below.refl _ _))
  have IB : Hid (IBox x W2 ib) := by
    show IBox x W2 ib
    rw [hW2, hib]
    have := ibox_new x (w.alloc (.cells #[.int .i64 d.slots, .slice d.tabs.a d.tabs.n d.tabs.c, .slice d.code.a d.code.n d.code.c] 25))
    simpa using this
  have HF := hid (rfields x.op W2)
  have HR := hid (fun n w => risReg n w)
  have HL := hid hl
  have HS := hid hs
  have HX := hid hx
  have EW := hid hW2
  have EP := hid hpb
  have EI := hid hib
  have HT : Hid (∀ b w', b = (formB x && fitsB d.slots d.ts x) → Below w.heap.size w w' → TellB (formB x && fitsB d.slots d.ts x) w (.returned (.bool b)) w') := fun b w' e h => ⟨by rw [e], h⟩
  dsimp only [ProgD.v, InsD.v]
  clear hl hs hx hW2 hpb hib
  go_enter Try.func26, Try.ntmps26
  go_wp2_with fail
  rw [← EW.out, ← EI.out, ← EP.out]
  clear EW EI EP
  refine HF.out.mono ?_
  rintro e w3 ⟨rfl, hb3⟩
  obtain ⟨W4, hW4⟩ : ∃ W4, W4 = w3.alloc (.cells #[.bool (hasR x.op), .bool (hasS x.op), .bool (hasK x.op), .bool (hasT x.op), .bool (hasN x.op)] 59) := ⟨_, rfl⟩
  obtain ⟨hb, hhb⟩ : ∃ b, b = w3.heap.size := ⟨_, rfl⟩
  have b4 : Below W2.heap.size W2 W4 := by rw [hW4]; exact bl_alloc hb3
  have FA : Hid (FAt d x W4 pb ib hb) := ⟨PB.out.step b4, IB.out.step b4, by rw [hW4, hhb]; simp, by rw [hW4, hhb]; simp, by rw [hW4, hhb]; simp, by rw [hW4, hhb]; simp, by rw [hW4, hhb]; simp⟩
  have HB4 := hid (bl_step HB.out b4)
  have EW4 := hid hW4
  have EH := hid hhb
  clear HF hb3 hW4 hhb b4 PB IB HB
  go_upto_region 2 with fail
  rw [← EW4.out, ← EH.out]
  clear EW4 EH
  obtain ⟨⟨p0, p1, p2⟩, ⟨i0, i1, i2, i3, i4, i5⟩, h0, h1, h2, h3, h4⟩ := FA.out
  clear p0 p1 p2 HL HS HX HR FA
  have h := HH.out
  have hin : inB x.op 1 18 = true := fields_in (by rw [h]; decide)
  rw [show hasR x.op = true by simp [hasR, h]] at h0
  rw [show hasS x.op = true by simp [hasS, h]] at h1
  rw [show hasK x.op = true by simp [hasK, h]] at h2
  rw [show hasT x.op = false by simp [hasT, h]] at h3
  rw [show hasN x.op = false by simp [hasN, h]] at h4
  by_cases ett : x.to = 0
  rotate_left
  · have dtt : (x.to != 0) = true := by simpa using ett
    clear h HH HBAD ett
    go_wp2
    go_ret
    exact HT.out _ _ EB.out HB4.out
  by_cases en : x.n = 0
  rotate_left
  · have dn : (x.n != 0) = true := by simpa using en
    have dtt : (x.to != 0) = false := by simpa using ett
    clear h HH HBAD ett en
    go_wp2
    go_ret
    exact HT.out _ _ EB.out HB4.out
  exfalso
  have := HBAD.out
  simp [bareB, hasR, hasS, hasK, hasT, hasN, h, hin, ett, en] at this

set_option maxHeartbeats 8000000 in
set_option maxRecDepth 20000 in
theorem rinsBad1 (d : ProgD) (x : InsD) (w : World) (hl : d.lie w) (hs : OkSz d) (hx : x.wf) (h : fieldsN x.op = 1) (hbad : (inB x.op 1 18 && bareB x) = false) : Calls Try.prog 26 #[d.v, x.v] w (TellB (formB x && fitsB d.slots d.ts x) w) := by
  have EB : Hid (false = (formB x && fitsB d.slots d.ts x)) := by show _ = _; unfold formB; rw [hbad]; rfl
  have HBAD := hid hbad
  have HH := hid h
  clear hbad h
  obtain ⟨W2, hW2⟩ : ∃ W2, W2 = ((w.alloc (.cells #[.int .i64 d.slots, .slice d.tabs.a d.tabs.n d.tabs.c, .slice d.code.a d.code.n d.code.c] 25)).alloc (.cells #[.int .i64 x.op, .int .i64 x.r, .int .i64 x.s, .int .i64 x.k, .int .i64 x.to, .int .u64 x.n] 35)) := ⟨_, rfl⟩
  obtain ⟨pb, hpb⟩ : ∃ b, b = w.heap.size := ⟨_, rfl⟩
  obtain ⟨ib, hib⟩ : ∃ b, b = w.heap.size + 1 := ⟨_, rfl⟩
  have HB : Hid (Below w.heap.size w W2) := by rw [hW2]; exact bl_alloc (bl_alloc (Below.refl _ _))
  have PB : Hid (PBox d W2 pb) := by rw [hW2, hpb]; exact (pbox_new d w).step (bl_alloc (Below.refl _ _))
  have IB : Hid (IBox x W2 ib) := by
    show IBox x W2 ib
    rw [hW2, hib]
    have := ibox_new x (w.alloc (.cells #[.int .i64 d.slots, .slice d.tabs.a d.tabs.n d.tabs.c, .slice d.code.a d.code.n d.code.c] 25))
    simpa using this
  have HF := hid (rfields x.op W2)
  have HR := hid (fun n w => risReg n w)
  have HL := hid hl
  have HS := hid hs
  have HX := hid hx
  have EW := hid hW2
  have EP := hid hpb
  have EI := hid hib
  have HT : Hid (∀ b w', b = (formB x && fitsB d.slots d.ts x) → Below w.heap.size w w' → TellB (formB x && fitsB d.slots d.ts x) w (.returned (.bool b)) w') := fun b w' e h => ⟨by rw [e], h⟩
  dsimp only [ProgD.v, InsD.v]
  clear hl hs hx hW2 hpb hib
  go_enter Try.func26, Try.ntmps26
  go_wp2_with fail
  rw [← EW.out, ← EI.out, ← EP.out]
  clear EW EI EP
  refine HF.out.mono ?_
  rintro e w3 ⟨rfl, hb3⟩
  obtain ⟨W4, hW4⟩ : ∃ W4, W4 = w3.alloc (.cells #[.bool (hasR x.op), .bool (hasS x.op), .bool (hasK x.op), .bool (hasT x.op), .bool (hasN x.op)] 59) := ⟨_, rfl⟩
  obtain ⟨hb, hhb⟩ : ∃ b, b = w3.heap.size := ⟨_, rfl⟩
  have b4 : Below W2.heap.size W2 W4 := by rw [hW4]; exact bl_alloc hb3
  have FA : Hid (FAt d x W4 pb ib hb) := ⟨PB.out.step b4, IB.out.step b4, by rw [hW4, hhb]; simp, by rw [hW4, hhb]; simp, by rw [hW4, hhb]; simp, by rw [hW4, hhb]; simp, by rw [hW4, hhb]; simp⟩
  have HB4 := hid (bl_step HB.out b4)
  have EW4 := hid hW4
  have EH := hid hhb
  clear HF hb3 hW4 hhb b4 PB IB HB
  go_upto_region 2 with fail
  rw [← EW4.out, ← EH.out]
  clear EW4 EH
  obtain ⟨⟨p0, p1, p2⟩, ⟨i0, i1, i2, i3, i4, i5⟩, h0, h1, h2, h3, h4⟩ := FA.out
  clear p0 p1 p2 HL HS HX HR FA
  have h := HH.out
  have hin : inB x.op 1 18 = true := fields_in (by rw [h]; decide)
  rw [show hasR x.op = true by simp [hasR, h]] at h0
  rw [show hasS x.op = false by simp [hasS, h]] at h1
  rw [show hasK x.op = false by simp [hasK, h]] at h2
  rw [show hasT x.op = false by simp [hasT, h]] at h3
  rw [show hasN x.op = false by simp [hasN, h]] at h4
  by_cases es : x.s = 0
  rotate_left
  · have ds : (x.s != 0) = true := by simpa using es
    clear h HH HBAD es
    go_wp2
    go_ret
    exact HT.out _ _ EB.out HB4.out
  by_cases ek : x.k = 0
  rotate_left
  · have dk : (x.k != 0) = true := by simpa using ek
    have ds : (x.s != 0) = false := by simpa using es
    clear h HH HBAD es ek
    go_wp2
    go_ret
    exact HT.out _ _ EB.out HB4.out
  by_cases ett : x.to = 0
  rotate_left
  · have dtt : (x.to != 0) = true := by simpa using ett
    have ds : (x.s != 0) = false := by simpa using es
    have dk : (x.k != 0) = false := by simpa using ek
    clear h HH HBAD es ek ett
    go_wp2
    go_ret
    exact HT.out _ _ EB.out HB4.out
  by_cases en : x.n = 0
  rotate_left
  · have dn : (x.n != 0) = true := by simpa using en
    have ds : (x.s != 0) = false := by simpa using es
    have dk : (x.k != 0) = false := by simpa using ek
    have dtt : (x.to != 0) = false := by simpa using ett
    clear h HH HBAD es ek ett en
    go_wp2
    go_ret
    exact HT.out _ _ EB.out HB4.out
  exfalso
  have := HBAD.out
  simp [bareB, hasR, hasS, hasK, hasT, hasN, h, hin, es, ek, ett, en] at this

set_option maxHeartbeats 8000000 in
set_option maxRecDepth 20000 in
theorem rinsBad23 (d : ProgD) (x : InsD) (w : World) (hl : d.lie w) (hs : OkSz d) (hx : x.wf) (h : fieldsN x.op = 23) (hbad : (inB x.op 1 18 && bareB x) = false) : Calls Try.prog 26 #[d.v, x.v] w (TellB (formB x && fitsB d.slots d.ts x) w) := by
  have EB : Hid (false = (formB x && fitsB d.slots d.ts x)) := by show _ = _; unfold formB; rw [hbad]; rfl
  have HBAD := hid hbad
  have HH := hid h
  clear hbad h
  obtain ⟨W2, hW2⟩ : ∃ W2, W2 = ((w.alloc (.cells #[.int .i64 d.slots, .slice d.tabs.a d.tabs.n d.tabs.c, .slice d.code.a d.code.n d.code.c] 25)).alloc (.cells #[.int .i64 x.op, .int .i64 x.r, .int .i64 x.s, .int .i64 x.k, .int .i64 x.to, .int .u64 x.n] 35)) := ⟨_, rfl⟩
  obtain ⟨pb, hpb⟩ : ∃ b, b = w.heap.size := ⟨_, rfl⟩
  obtain ⟨ib, hib⟩ : ∃ b, b = w.heap.size + 1 := ⟨_, rfl⟩
  have HB : Hid (Below w.heap.size w W2) := by rw [hW2]; exact bl_alloc (bl_alloc (Below.refl _ _))
  have PB : Hid (PBox d W2 pb) := by rw [hW2, hpb]; exact (pbox_new d w).step (bl_alloc (Below.refl _ _))
  have IB : Hid (IBox x W2 ib) := by
    show IBox x W2 ib
    rw [hW2, hib]
    have := ibox_new x (w.alloc (.cells #[.int .i64 d.slots, .slice d.tabs.a d.tabs.n d.tabs.c, .slice d.code.a d.code.n d.code.c] 25))
    simpa using this
  have HF := hid (rfields x.op W2)
  have HR := hid (fun n w => risReg n w)
  have HL := hid hl
  have HS := hid hs
  have HX := hid hx
  have EW := hid hW2
  have EP := hid hpb
  have EI := hid hib
  have HT : Hid (∀ b w', b = (formB x && fitsB d.slots d.ts x) → Below w.heap.size w w' → TellB (formB x && fitsB d.slots d.ts x) w (.returned (.bool b)) w') := fun b w' e h => ⟨by rw [e], h⟩
  dsimp only [ProgD.v, InsD.v]
  clear hl hs hx hW2 hpb hib
  go_enter Try.func26, Try.ntmps26
  go_wp2_with fail
  rw [← EW.out, ← EI.out, ← EP.out]
  clear EW EI EP
  refine HF.out.mono ?_
  rintro e w3 ⟨rfl, hb3⟩
  obtain ⟨W4, hW4⟩ : ∃ W4, W4 = w3.alloc (.cells #[.bool (hasR x.op), .bool (hasS x.op), .bool (hasK x.op), .bool (hasT x.op), .bool (hasN x.op)] 59) := ⟨_, rfl⟩
  obtain ⟨hb, hhb⟩ : ∃ b, b = w3.heap.size := ⟨_, rfl⟩
  have b4 : Below W2.heap.size W2 W4 := by rw [hW4]; exact bl_alloc hb3
  have FA : Hid (FAt d x W4 pb ib hb) := ⟨PB.out.step b4, IB.out.step b4, by rw [hW4, hhb]; simp, by rw [hW4, hhb]; simp, by rw [hW4, hhb]; simp, by rw [hW4, hhb]; simp, by rw [hW4, hhb]; simp⟩
  have HB4 := hid (bl_step HB.out b4)
  have EW4 := hid hW4
  have EH := hid hhb
  clear HF hb3 hW4 hhb b4 PB IB HB
  go_upto_region 2 with fail
  rw [← EW4.out, ← EH.out]
  clear EW4 EH
  obtain ⟨⟨p0, p1, p2⟩, ⟨i0, i1, i2, i3, i4, i5⟩, h0, h1, h2, h3, h4⟩ := FA.out
  clear p0 p1 p2 HL HS HX HR FA
  have h := HH.out
  have hin : inB x.op 1 18 = true := fields_in (by rw [h]; decide)
  rw [show hasR x.op = true by simp [hasR, h]] at h0
  rw [show hasS x.op = true by simp [hasS, h]] at h1
  rw [show hasK x.op = true by simp [hasK, h]] at h2
  rw [show hasT x.op = false by simp [hasT, h]] at h3
  rw [show hasN x.op = true by simp [hasN, h]] at h4
  by_cases ett : x.to = 0
  rotate_left
  · have dtt : (x.to != 0) = true := by simpa using ett
    clear h HH HBAD ett
    go_wp2
    go_ret
    exact HT.out _ _ EB.out HB4.out
  exfalso
  have := HBAD.out
  simp [bareB, hasR, hasS, hasK, hasT, hasN, h, hin, ett] at this

set_option maxHeartbeats 8000000 in
set_option maxRecDepth 20000 in
theorem rinsBad25 (d : ProgD) (x : InsD) (w : World) (hl : d.lie w) (hs : OkSz d) (hx : x.wf) (h : fieldsN x.op = 25) (hbad : (inB x.op 1 18 && bareB x) = false) : Calls Try.prog 26 #[d.v, x.v] w (TellB (formB x && fitsB d.slots d.ts x) w) := by
  have EB : Hid (false = (formB x && fitsB d.slots d.ts x)) := by show _ = _; unfold formB; rw [hbad]; rfl
  have HBAD := hid hbad
  have HH := hid h
  clear hbad h
  obtain ⟨W2, hW2⟩ : ∃ W2, W2 = ((w.alloc (.cells #[.int .i64 d.slots, .slice d.tabs.a d.tabs.n d.tabs.c, .slice d.code.a d.code.n d.code.c] 25)).alloc (.cells #[.int .i64 x.op, .int .i64 x.r, .int .i64 x.s, .int .i64 x.k, .int .i64 x.to, .int .u64 x.n] 35)) := ⟨_, rfl⟩
  obtain ⟨pb, hpb⟩ : ∃ b, b = w.heap.size := ⟨_, rfl⟩
  obtain ⟨ib, hib⟩ : ∃ b, b = w.heap.size + 1 := ⟨_, rfl⟩
  have HB : Hid (Below w.heap.size w W2) := by rw [hW2]; exact bl_alloc (bl_alloc (Below.refl _ _))
  have PB : Hid (PBox d W2 pb) := by rw [hW2, hpb]; exact (pbox_new d w).step (bl_alloc (Below.refl _ _))
  have IB : Hid (IBox x W2 ib) := by
    show IBox x W2 ib
    rw [hW2, hib]
    have := ibox_new x (w.alloc (.cells #[.int .i64 d.slots, .slice d.tabs.a d.tabs.n d.tabs.c, .slice d.code.a d.code.n d.code.c] 25))
    simpa using this
  have HF := hid (rfields x.op W2)
  have HR := hid (fun n w => risReg n w)
  have HL := hid hl
  have HS := hid hs
  have HX := hid hx
  have EW := hid hW2
  have EP := hid hpb
  have EI := hid hib
  have HT : Hid (∀ b w', b = (formB x && fitsB d.slots d.ts x) → Below w.heap.size w w' → TellB (formB x && fitsB d.slots d.ts x) w (.returned (.bool b)) w') := fun b w' e h => ⟨by rw [e], h⟩
  dsimp only [ProgD.v, InsD.v]
  clear hl hs hx hW2 hpb hib
  go_enter Try.func26, Try.ntmps26
  go_wp2_with fail
  rw [← EW.out, ← EI.out, ← EP.out]
  clear EW EI EP
  refine HF.out.mono ?_
  rintro e w3 ⟨rfl, hb3⟩
  obtain ⟨W4, hW4⟩ : ∃ W4, W4 = w3.alloc (.cells #[.bool (hasR x.op), .bool (hasS x.op), .bool (hasK x.op), .bool (hasT x.op), .bool (hasN x.op)] 59) := ⟨_, rfl⟩
  obtain ⟨hb, hhb⟩ : ∃ b, b = w3.heap.size := ⟨_, rfl⟩
  have b4 : Below W2.heap.size W2 W4 := by rw [hW4]; exact bl_alloc hb3
  have FA : Hid (FAt d x W4 pb ib hb) := ⟨PB.out.step b4, IB.out.step b4, by rw [hW4, hhb]; simp, by rw [hW4, hhb]; simp, by rw [hW4, hhb]; simp, by rw [hW4, hhb]; simp, by rw [hW4, hhb]; simp⟩
  have HB4 := hid (bl_step HB.out b4)
  have EW4 := hid hW4
  have EH := hid hhb
  clear HF hb3 hW4 hhb b4 PB IB HB
  go_upto_region 2 with fail
  rw [← EW4.out, ← EH.out]
  clear EW4 EH
  obtain ⟨⟨p0, p1, p2⟩, ⟨i0, i1, i2, i3, i4, i5⟩, h0, h1, h2, h3, h4⟩ := FA.out
  clear p0 p1 p2 HL HS HX HR FA
  have h := HH.out
  have hin : inB x.op 1 18 = true := fields_in (by rw [h]; decide)
  rw [show hasR x.op = true by simp [hasR, h]] at h0
  rw [show hasS x.op = false by simp [hasS, h]] at h1
  rw [show hasK x.op = false by simp [hasK, h]] at h2
  rw [show hasT x.op = true by simp [hasT, h]] at h3
  rw [show hasN x.op = true by simp [hasN, h]] at h4
  by_cases es : x.s = 0
  rotate_left
  · have ds : (x.s != 0) = true := by simpa using es
    clear h HH HBAD es
    go_wp2
    go_ret
    exact HT.out _ _ EB.out HB4.out
  by_cases ek : x.k = 0
  rotate_left
  · have dk : (x.k != 0) = true := by simpa using ek
    have ds : (x.s != 0) = false := by simpa using es
    clear h HH HBAD es ek
    go_wp2
    go_ret
    exact HT.out _ _ EB.out HB4.out
  exfalso
  have := HBAD.out
  simp [bareB, hasR, hasS, hasK, hasT, hasN, h, hin, es, ek] at this

set_option maxHeartbeats 8000000 in
set_option maxRecDepth 20000 in
theorem rinsBad11 (d : ProgD) (x : InsD) (w : World) (hl : d.lie w) (hs : OkSz d) (hx : x.wf) (h : fieldsN x.op = 11) (hbad : (inB x.op 1 18 && bareB x) = false) : Calls Try.prog 26 #[d.v, x.v] w (TellB (formB x && fitsB d.slots d.ts x) w) := by
  have EB : Hid (false = (formB x && fitsB d.slots d.ts x)) := by show _ = _; unfold formB; rw [hbad]; rfl
  have HBAD := hid hbad
  have HH := hid h
  clear hbad h
  obtain ⟨W2, hW2⟩ : ∃ W2, W2 = ((w.alloc (.cells #[.int .i64 d.slots, .slice d.tabs.a d.tabs.n d.tabs.c, .slice d.code.a d.code.n d.code.c] 25)).alloc (.cells #[.int .i64 x.op, .int .i64 x.r, .int .i64 x.s, .int .i64 x.k, .int .i64 x.to, .int .u64 x.n] 35)) := ⟨_, rfl⟩
  obtain ⟨pb, hpb⟩ : ∃ b, b = w.heap.size := ⟨_, rfl⟩
  obtain ⟨ib, hib⟩ : ∃ b, b = w.heap.size + 1 := ⟨_, rfl⟩
  have HB : Hid (Below w.heap.size w W2) := by rw [hW2]; exact bl_alloc (bl_alloc (Below.refl _ _))
  have PB : Hid (PBox d W2 pb) := by rw [hW2, hpb]; exact (pbox_new d w).step (bl_alloc (Below.refl _ _))
  have IB : Hid (IBox x W2 ib) := by
    show IBox x W2 ib
    rw [hW2, hib]
    have := ibox_new x (w.alloc (.cells #[.int .i64 d.slots, .slice d.tabs.a d.tabs.n d.tabs.c, .slice d.code.a d.code.n d.code.c] 25))
    simpa using this
  have HF := hid (rfields x.op W2)
  have HR := hid (fun n w => risReg n w)
  have HL := hid hl
  have HS := hid hs
  have HX := hid hx
  have EW := hid hW2
  have EP := hid hpb
  have EI := hid hib
  have HT : Hid (∀ b w', b = (formB x && fitsB d.slots d.ts x) → Below w.heap.size w w' → TellB (formB x && fitsB d.slots d.ts x) w (.returned (.bool b)) w') := fun b w' e h => ⟨by rw [e], h⟩
  dsimp only [ProgD.v, InsD.v]
  clear hl hs hx hW2 hpb hib
  go_enter Try.func26, Try.ntmps26
  go_wp2_with fail
  rw [← EW.out, ← EI.out, ← EP.out]
  clear EW EI EP
  refine HF.out.mono ?_
  rintro e w3 ⟨rfl, hb3⟩
  obtain ⟨W4, hW4⟩ : ∃ W4, W4 = w3.alloc (.cells #[.bool (hasR x.op), .bool (hasS x.op), .bool (hasK x.op), .bool (hasT x.op), .bool (hasN x.op)] 59) := ⟨_, rfl⟩
  obtain ⟨hb, hhb⟩ : ∃ b, b = w3.heap.size := ⟨_, rfl⟩
  have b4 : Below W2.heap.size W2 W4 := by rw [hW4]; exact bl_alloc hb3
  have FA : Hid (FAt d x W4 pb ib hb) := ⟨PB.out.step b4, IB.out.step b4, by rw [hW4, hhb]; simp, by rw [hW4, hhb]; simp, by rw [hW4, hhb]; simp, by rw [hW4, hhb]; simp, by rw [hW4, hhb]; simp⟩
  have HB4 := hid (bl_step HB.out b4)
  have EW4 := hid hW4
  have EH := hid hhb
  clear HF hb3 hW4 hhb b4 PB IB HB
  go_upto_region 2 with fail
  rw [← EW4.out, ← EH.out]
  clear EW4 EH
  obtain ⟨⟨p0, p1, p2⟩, ⟨i0, i1, i2, i3, i4, i5⟩, h0, h1, h2, h3, h4⟩ := FA.out
  clear p0 p1 p2 HL HS HX HR FA
  have h := HH.out
  have hin : inB x.op 1 18 = true := fields_in (by rw [h]; decide)
  rw [show hasR x.op = true by simp [hasR, h]] at h0
  rw [show hasS x.op = true by simp [hasS, h]] at h1
  rw [show hasK x.op = false by simp [hasK, h]] at h2
  rw [show hasT x.op = true by simp [hasT, h]] at h3
  rw [show hasN x.op = false by simp [hasN, h]] at h4
  by_cases ek : x.k = 0
  rotate_left
  · have dk : (x.k != 0) = true := by simpa using ek
    clear h HH HBAD ek
    go_wp2
    go_ret
    exact HT.out _ _ EB.out HB4.out
  by_cases en : x.n = 0
  rotate_left
  · have dn : (x.n != 0) = true := by simpa using en
    have dk : (x.k != 0) = false := by simpa using ek
    clear h HH HBAD ek en
    go_wp2
    go_ret
    exact HT.out _ _ EB.out HB4.out
  exfalso
  have := HBAD.out
  simp [bareB, hasR, hasS, hasK, hasT, hasN, h, hin, ek, en] at this

set_option maxHeartbeats 8000000 in
set_option maxRecDepth 20000 in
theorem rinsBad8 (d : ProgD) (x : InsD) (w : World) (hl : d.lie w) (hs : OkSz d) (hx : x.wf) (h : fieldsN x.op = 8) (hbad : (inB x.op 1 18 && bareB x) = false) : Calls Try.prog 26 #[d.v, x.v] w (TellB (formB x && fitsB d.slots d.ts x) w) := by
  have EB : Hid (false = (formB x && fitsB d.slots d.ts x)) := by show _ = _; unfold formB; rw [hbad]; rfl
  have HBAD := hid hbad
  have HH := hid h
  clear hbad h
  obtain ⟨W2, hW2⟩ : ∃ W2, W2 = ((w.alloc (.cells #[.int .i64 d.slots, .slice d.tabs.a d.tabs.n d.tabs.c, .slice d.code.a d.code.n d.code.c] 25)).alloc (.cells #[.int .i64 x.op, .int .i64 x.r, .int .i64 x.s, .int .i64 x.k, .int .i64 x.to, .int .u64 x.n] 35)) := ⟨_, rfl⟩
  obtain ⟨pb, hpb⟩ : ∃ b, b = w.heap.size := ⟨_, rfl⟩
  obtain ⟨ib, hib⟩ : ∃ b, b = w.heap.size + 1 := ⟨_, rfl⟩
  have HB : Hid (Below w.heap.size w W2) := by rw [hW2]; exact bl_alloc (bl_alloc (Below.refl _ _))
  have PB : Hid (PBox d W2 pb) := by rw [hW2, hpb]; exact (pbox_new d w).step (bl_alloc (Below.refl _ _))
  have IB : Hid (IBox x W2 ib) := by
    show IBox x W2 ib
    rw [hW2, hib]
    have := ibox_new x (w.alloc (.cells #[.int .i64 d.slots, .slice d.tabs.a d.tabs.n d.tabs.c, .slice d.code.a d.code.n d.code.c] 25))
    simpa using this
  have HF := hid (rfields x.op W2)
  have HR := hid (fun n w => risReg n w)
  have HL := hid hl
  have HS := hid hs
  have HX := hid hx
  have EW := hid hW2
  have EP := hid hpb
  have EI := hid hib
  have HT : Hid (∀ b w', b = (formB x && fitsB d.slots d.ts x) → Below w.heap.size w w' → TellB (formB x && fitsB d.slots d.ts x) w (.returned (.bool b)) w') := fun b w' e h => ⟨by rw [e], h⟩
  dsimp only [ProgD.v, InsD.v]
  clear hl hs hx hW2 hpb hib
  go_enter Try.func26, Try.ntmps26
  go_wp2_with fail
  rw [← EW.out, ← EI.out, ← EP.out]
  clear EW EI EP
  refine HF.out.mono ?_
  rintro e w3 ⟨rfl, hb3⟩
  obtain ⟨W4, hW4⟩ : ∃ W4, W4 = w3.alloc (.cells #[.bool (hasR x.op), .bool (hasS x.op), .bool (hasK x.op), .bool (hasT x.op), .bool (hasN x.op)] 59) := ⟨_, rfl⟩
  obtain ⟨hb, hhb⟩ : ∃ b, b = w3.heap.size := ⟨_, rfl⟩
  have b4 : Below W2.heap.size W2 W4 := by rw [hW4]; exact bl_alloc hb3
  have FA : Hid (FAt d x W4 pb ib hb) := ⟨PB.out.step b4, IB.out.step b4, by rw [hW4, hhb]; simp, by rw [hW4, hhb]; simp, by rw [hW4, hhb]; simp, by rw [hW4, hhb]; simp, by rw [hW4, hhb]; simp⟩
  have HB4 := hid (bl_step HB.out b4)
  have EW4 := hid hW4
  have EH := hid hhb
  clear HF hb3 hW4 hhb b4 PB IB HB
  go_upto_region 2 with fail
  rw [← EW4.out, ← EH.out]
  clear EW4 EH
  obtain ⟨⟨p0, p1, p2⟩, ⟨i0, i1, i2, i3, i4, i5⟩, h0, h1, h2, h3, h4⟩ := FA.out
  clear p0 p1 p2 HL HS HX HR FA
  have h := HH.out
  have hin : inB x.op 1 18 = true := fields_in (by rw [h]; decide)
  rw [show hasR x.op = false by simp [hasR, h]] at h0
  rw [show hasS x.op = false by simp [hasS, h]] at h1
  rw [show hasK x.op = false by simp [hasK, h]] at h2
  rw [show hasT x.op = true by simp [hasT, h]] at h3
  rw [show hasN x.op = false by simp [hasN, h]] at h4
  by_cases er : x.r = 0
  rotate_left
  · have dr : (x.r != 0) = true := by simpa using er
    clear h HH HBAD er
    go_wp2
    go_ret
    exact HT.out _ _ EB.out HB4.out
  by_cases es : x.s = 0
  rotate_left
  · have ds : (x.s != 0) = true := by simpa using es
    have dr : (x.r != 0) = false := by simpa using er
    clear h HH HBAD er es
    go_wp2
    go_ret
    exact HT.out _ _ EB.out HB4.out
  by_cases ek : x.k = 0
  rotate_left
  · have dk : (x.k != 0) = true := by simpa using ek
    have dr : (x.r != 0) = false := by simpa using er
    have ds : (x.s != 0) = false := by simpa using es
    clear h HH HBAD er es ek
    go_wp2
    go_ret
    exact HT.out _ _ EB.out HB4.out
  by_cases en : x.n = 0
  rotate_left
  · have dn : (x.n != 0) = true := by simpa using en
    have dr : (x.r != 0) = false := by simpa using er
    have ds : (x.s != 0) = false := by simpa using es
    have dk : (x.k != 0) = false := by simpa using ek
    clear h HH HBAD er es ek en
    go_wp2
    go_ret
    exact HT.out _ _ EB.out HB4.out
  exfalso
  have := HBAD.out
  simp [bareB, hasR, hasS, hasK, hasT, hasN, h, hin, er, es, ek, en] at this

set_option maxHeartbeats 8000000 in
set_option maxRecDepth 20000 in
theorem rinsBad5 (d : ProgD) (x : InsD) (w : World) (hl : d.lie w) (hs : OkSz d) (hx : x.wf) (h : fieldsN x.op = 5) (hbad : (inB x.op 1 18 && bareB x) = false) : Calls Try.prog 26 #[d.v, x.v] w (TellB (formB x && fitsB d.slots d.ts x) w) := by
  have EB : Hid (false = (formB x && fitsB d.slots d.ts x)) := by show _ = _; unfold formB; rw [hbad]; rfl
  have HBAD := hid hbad
  have HH := hid h
  clear hbad h
  obtain ⟨W2, hW2⟩ : ∃ W2, W2 = ((w.alloc (.cells #[.int .i64 d.slots, .slice d.tabs.a d.tabs.n d.tabs.c, .slice d.code.a d.code.n d.code.c] 25)).alloc (.cells #[.int .i64 x.op, .int .i64 x.r, .int .i64 x.s, .int .i64 x.k, .int .i64 x.to, .int .u64 x.n] 35)) := ⟨_, rfl⟩
  obtain ⟨pb, hpb⟩ : ∃ b, b = w.heap.size := ⟨_, rfl⟩
  obtain ⟨ib, hib⟩ : ∃ b, b = w.heap.size + 1 := ⟨_, rfl⟩
  have HB : Hid (Below w.heap.size w W2) := by rw [hW2]; exact bl_alloc (bl_alloc (Below.refl _ _))
  have PB : Hid (PBox d W2 pb) := by rw [hW2, hpb]; exact (pbox_new d w).step (bl_alloc (Below.refl _ _))
  have IB : Hid (IBox x W2 ib) := by
    show IBox x W2 ib
    rw [hW2, hib]
    have := ibox_new x (w.alloc (.cells #[.int .i64 d.slots, .slice d.tabs.a d.tabs.n d.tabs.c, .slice d.code.a d.code.n d.code.c] 25))
    simpa using this
  have HF := hid (rfields x.op W2)
  have HR := hid (fun n w => risReg n w)
  have HL := hid hl
  have HS := hid hs
  have HX := hid hx
  have EW := hid hW2
  have EP := hid hpb
  have EI := hid hib
  have HT : Hid (∀ b w', b = (formB x && fitsB d.slots d.ts x) → Below w.heap.size w w' → TellB (formB x && fitsB d.slots d.ts x) w (.returned (.bool b)) w') := fun b w' e h => ⟨by rw [e], h⟩
  dsimp only [ProgD.v, InsD.v]
  clear hl hs hx hW2 hpb hib
  go_enter Try.func26, Try.ntmps26
  go_wp2_with fail
  rw [← EW.out, ← EI.out, ← EP.out]
  clear EW EI EP
  refine HF.out.mono ?_
  rintro e w3 ⟨rfl, hb3⟩
  obtain ⟨W4, hW4⟩ : ∃ W4, W4 = w3.alloc (.cells #[.bool (hasR x.op), .bool (hasS x.op), .bool (hasK x.op), .bool (hasT x.op), .bool (hasN x.op)] 59) := ⟨_, rfl⟩
  obtain ⟨hb, hhb⟩ : ∃ b, b = w3.heap.size := ⟨_, rfl⟩
  have b4 : Below W2.heap.size W2 W4 := by rw [hW4]; exact bl_alloc hb3
  have FA : Hid (FAt d x W4 pb ib hb) := ⟨PB.out.step b4, IB.out.step b4, by rw [hW4, hhb]; simp, by rw [hW4, hhb]; simp, by rw [hW4, hhb]; simp, by rw [hW4, hhb]; simp, by rw [hW4, hhb]; simp⟩
  have HB4 := hid (bl_step HB.out b4)
  have EW4 := hid hW4
  have EH := hid hhb
  clear HF hb3 hW4 hhb b4 PB IB HB
  go_upto_region 2 with fail
  rw [← EW4.out, ← EH.out]
  clear EW4 EH
  obtain ⟨⟨p0, p1, p2⟩, ⟨i0, i1, i2, i3, i4, i5⟩, h0, h1, h2, h3, h4⟩ := FA.out
  clear p0 p1 p2 HL HS HX HR FA
  have h := HH.out
  have hin : inB x.op 1 18 = true := fields_in (by rw [h]; decide)
  rw [show hasR x.op = true by simp [hasR, h]] at h0
  rw [show hasS x.op = false by simp [hasS, h]] at h1
  rw [show hasK x.op = true by simp [hasK, h]] at h2
  rw [show hasT x.op = false by simp [hasT, h]] at h3
  rw [show hasN x.op = false by simp [hasN, h]] at h4
  by_cases es : x.s = 0
  rotate_left
  · have ds : (x.s != 0) = true := by simpa using es
    clear h HH HBAD es
    go_wp2
    go_ret
    exact HT.out _ _ EB.out HB4.out
  by_cases ett : x.to = 0
  rotate_left
  · have dtt : (x.to != 0) = true := by simpa using ett
    have ds : (x.s != 0) = false := by simpa using es
    clear h HH HBAD es ett
    go_wp2
    go_ret
    exact HT.out _ _ EB.out HB4.out
  by_cases en : x.n = 0
  rotate_left
  · have dn : (x.n != 0) = true := by simpa using en
    have ds : (x.s != 0) = false := by simpa using es
    have dtt : (x.to != 0) = false := by simpa using ett
    clear h HH HBAD es ett en
    go_wp2
    go_ret
    exact HT.out _ _ EB.out HB4.out
  exfalso
  have := HBAD.out
  simp [bareB, hasR, hasS, hasK, hasT, hasN, h, hin, es, ett, en] at this

set_option maxHeartbeats 8000000 in
set_option maxRecDepth 20000 in
theorem rinsBad0 (d : ProgD) (x : InsD) (w : World) (hl : d.lie w) (hs : OkSz d) (hx : x.wf) (h : fieldsN x.op = 0) (hbad : (inB x.op 1 18 && bareB x) = false) : Calls Try.prog 26 #[d.v, x.v] w (TellB (formB x && fitsB d.slots d.ts x) w) := by
  have EB : Hid (false = (formB x && fitsB d.slots d.ts x)) := by show _ = _; unfold formB; rw [hbad]; rfl
  have HBAD := hid hbad
  have HH := hid h
  clear hbad h
  obtain ⟨W2, hW2⟩ : ∃ W2, W2 = ((w.alloc (.cells #[.int .i64 d.slots, .slice d.tabs.a d.tabs.n d.tabs.c, .slice d.code.a d.code.n d.code.c] 25)).alloc (.cells #[.int .i64 x.op, .int .i64 x.r, .int .i64 x.s, .int .i64 x.k, .int .i64 x.to, .int .u64 x.n] 35)) := ⟨_, rfl⟩
  obtain ⟨pb, hpb⟩ : ∃ b, b = w.heap.size := ⟨_, rfl⟩
  obtain ⟨ib, hib⟩ : ∃ b, b = w.heap.size + 1 := ⟨_, rfl⟩
  have HB : Hid (Below w.heap.size w W2) := by rw [hW2]; exact bl_alloc (bl_alloc (Below.refl _ _))
  have PB : Hid (PBox d W2 pb) := by rw [hW2, hpb]; exact (pbox_new d w).step (bl_alloc (Below.refl _ _))
  have IB : Hid (IBox x W2 ib) := by
    show IBox x W2 ib
    rw [hW2, hib]
    have := ibox_new x (w.alloc (.cells #[.int .i64 d.slots, .slice d.tabs.a d.tabs.n d.tabs.c, .slice d.code.a d.code.n d.code.c] 25))
    simpa using this
  have HF := hid (rfields x.op W2)
  have HR := hid (fun n w => risReg n w)
  have HL := hid hl
  have HS := hid hs
  have HX := hid hx
  have EW := hid hW2
  have EP := hid hpb
  have EI := hid hib
  have HT : Hid (∀ b w', b = (formB x && fitsB d.slots d.ts x) → Below w.heap.size w w' → TellB (formB x && fitsB d.slots d.ts x) w (.returned (.bool b)) w') := fun b w' e h => ⟨by rw [e], h⟩
  dsimp only [ProgD.v, InsD.v]
  clear hl hs hx hW2 hpb hib
  go_enter Try.func26, Try.ntmps26
  go_wp2_with fail
  rw [← EW.out, ← EI.out, ← EP.out]
  clear EW EI EP
  refine HF.out.mono ?_
  rintro e w3 ⟨rfl, hb3⟩
  obtain ⟨W4, hW4⟩ : ∃ W4, W4 = w3.alloc (.cells #[.bool (hasR x.op), .bool (hasS x.op), .bool (hasK x.op), .bool (hasT x.op), .bool (hasN x.op)] 59) := ⟨_, rfl⟩
  obtain ⟨hb, hhb⟩ : ∃ b, b = w3.heap.size := ⟨_, rfl⟩
  have b4 : Below W2.heap.size W2 W4 := by rw [hW4]; exact bl_alloc hb3
  have FA : Hid (FAt d x W4 pb ib hb) := ⟨PB.out.step b4, IB.out.step b4, by rw [hW4, hhb]; simp, by rw [hW4, hhb]; simp, by rw [hW4, hhb]; simp, by rw [hW4, hhb]; simp, by rw [hW4, hhb]; simp⟩
  have HB4 := hid (bl_step HB.out b4)
  have EW4 := hid hW4
  have EH := hid hhb
  clear HF hb3 hW4 hhb b4 PB IB HB
  go_upto_region 2 with fail
  rw [← EW4.out, ← EH.out]
  clear EW4 EH
  obtain ⟨⟨p0, p1, p2⟩, ⟨i0, i1, i2, i3, i4, i5⟩, h0, h1, h2, h3, h4⟩ := FA.out
  clear p0 p1 p2 HL HS HX HR FA
  have h := HH.out
  by_cases hin : inB x.op 1 18 = true
  rotate_left
  · have hin : inB x.op 1 18 = false := by simpa using hin
    clear h HH HBAD
    go_wp2
    go_ret
    exact HT.out _ _ EB.out HB4.out
  rw [show hasR x.op = false by simp [hasR, h]] at h0
  rw [show hasS x.op = false by simp [hasS, h]] at h1
  rw [show hasK x.op = false by simp [hasK, h]] at h2
  rw [show hasT x.op = false by simp [hasT, h]] at h3
  rw [show hasN x.op = false by simp [hasN, h]] at h4
  by_cases er : x.r = 0
  rotate_left
  · have dr : (x.r != 0) = true := by simpa using er
    clear h HH HBAD er
    go_wp2
    go_ret
    exact HT.out _ _ EB.out HB4.out
  by_cases es : x.s = 0
  rotate_left
  · have ds : (x.s != 0) = true := by simpa using es
    have dr : (x.r != 0) = false := by simpa using er
    clear h HH HBAD er es
    go_wp2
    go_ret
    exact HT.out _ _ EB.out HB4.out
  by_cases ek : x.k = 0
  rotate_left
  · have dk : (x.k != 0) = true := by simpa using ek
    have dr : (x.r != 0) = false := by simpa using er
    have ds : (x.s != 0) = false := by simpa using es
    clear h HH HBAD er es ek
    go_wp2
    go_ret
    exact HT.out _ _ EB.out HB4.out
  by_cases ett : x.to = 0
  rotate_left
  · have dtt : (x.to != 0) = true := by simpa using ett
    have dr : (x.r != 0) = false := by simpa using er
    have ds : (x.s != 0) = false := by simpa using es
    have dk : (x.k != 0) = false := by simpa using ek
    clear h HH HBAD er es ek ett
    go_wp2
    go_ret
    exact HT.out _ _ EB.out HB4.out
  by_cases en : x.n = 0
  rotate_left
  · have dn : (x.n != 0) = true := by simpa using en
    have dr : (x.r != 0) = false := by simpa using er
    have ds : (x.s != 0) = false := by simpa using es
    have dk : (x.k != 0) = false := by simpa using ek
    have dtt : (x.to != 0) = false := by simpa using ett
    clear h HH HBAD er es ek ett en
    go_wp2
    go_ret
    exact HT.out _ _ EB.out HB4.out
  exfalso
  have := HBAD.out
  simp [bareB, hasR, hasS, hasK, hasT, hasN, h, hin, er, es, ek, ett, en] at this

theorem rinsBad (d : ProgD) (x : InsD) (w : World) (hl : d.lie w) (hs : OkSz d) (hx : x.wf) (hbad : (inB x.op 1 18 && bareB x) = false) : Calls Try.prog 26 #[d.v, x.v] w (TellB (formB x && fitsB d.slots d.ts x) w) := by
  rcases field_ways x.op with h | h | h | h | h | h | h | h | h | h
  · exact rinsBad17 d x w hl hs hx h hbad
  · exact rinsBad3 d x w hl hs hx h hbad
  · exact rinsBad7 d x w hl hs hx h hbad
  · exact rinsBad1 d x w hl hs hx h hbad
  · exact rinsBad23 d x w hl hs hx h hbad
  · exact rinsBad25 d x w hl hs hx h hbad
  · exact rinsBad11 d x w hl hs hx h hbad
  · exact rinsBad8 d x w hl hs hx h hbad
  · exact rinsBad5 d x w hl hs hx h hbad
  · exact rinsBad0 d x w hl hs hx h hbad
end Go.Proofs.Ytmohffibkpecpaa
