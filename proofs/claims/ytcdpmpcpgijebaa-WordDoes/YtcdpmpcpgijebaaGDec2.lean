/- word.Decode. -/
import Derived.Test.YtcdpmpcpgijebaaGDec
namespace Go.Proofs.Ytcdpmpcpgijebaa
open Go.RowKit

/-- Decode's fault -/
def decF (zs : List Int) : Int × Int := if (wrongB zs).1 ≠ 0 then wrongB zs else chkW (slotsOf (zs.drop 3)) (tsOf (zs.drop 3)) (csOf (zs.drop 3))

@[reducible] def nilP : Value := .agg #[.int .i64 0, .slice none 0 0, .slice none 0 0]

/-- what Decode does -/
def GDecDone (zs : List Int) (w : World) (e : Ending) (w' : World) : Prop :=
  ((decF zs).1 ≠ 0 ∧ e = .returned (.tuple #[nilP, .agg #[.int .i64 (decF zs).1, .int .i64 (decF zs).2]]) ∧ Below w.heap.size w w') ∨
  ((decF zs).1 = 0 ∧ (wrongB zs).1 = 0 ∧ ∃ d : ProgD, e = .returned (.tuple #[d.v, .agg #[.int .i64 0, .int .i64 0]]) ∧ d.slots = slotsOf (zs.drop 3) ∧ d.ts = tsOf (zs.drop 3) ∧ d.cs = csOf (zs.drop 3) ∧ d.lie w' ∧ d.small ∧ Below w.heap.size w w')

/-- the results' boxes -/
structure DBox (w W : World) (qb fb : Nat) : Prop where
  q : W.heap[qb]? = some (.cells #[.int .i64 0, .slice none 0 0, .slice none 0 0] 25 (0, 0))
  f : W.heap[fb]? = some (.cells #[.int .i64 0, .int .i64 0] 31 (0, 0))
  wq : w.heap.size ≤ qb
  qf : qb < fb
theorem DBox.step {w W W' : World} {qb fb : Nat} (h : DBox w W qb fb) (b : Below W.heap.size W W') : DBox w W' qb fb :=
  ⟨(b.block qb (Array.getElem?_eq_some_iff.1 h.q).1).trans h.q, (b.block fb (Array.getElem?_eq_some_iff.1 h.f).1).trans h.f, h.wq, h.qf⟩
theorem DBox.rn {w W W' : World} {qb fb p : Nat} (h : DBox w W qb fb) (r : GRn p W W') (hp : fb < p) : DBox w W' qb fb :=
  ⟨(r.block qb (Array.getElem?_eq_some_iff.1 h.q).1 (by have := h.qf; omega)).trans h.q, (r.block fb (Array.getElem?_eq_some_iff.1 h.f).1 (by omega)).trans h.f, h.wq, h.qf⟩
theorem dbox_new (w : World) : DBox w ((w.alloc (.cells #[.int .i64 0, .slice none 0 0, .slice none 0 0] 25)).alloc (.cells #[.int .i64 0, .int .i64 0] 31)) w.heap.size (w.heap.size + 1) := by
  refine ⟨?_, ?_, Nat.le_refl _, by omega⟩
  · have b2 : Below (w.alloc (.cells #[.int .i64 0, .slice none 0 0, .slice none 0 0] 25)).heap.size (w.alloc (.cells #[.int .i64 0, .slice none 0 0, .slice none 0 0] 25)) ((w.alloc (.cells #[.int .i64 0, .slice none 0 0, .slice none 0 0] 25)).alloc (.cells #[.int .i64 0, .int .i64 0] 31)) := bl_alloc (Below.refl _ _)
    rw [b2.block w.heap.size (by simp)]
    exact galloc_at _ _ _
  · have := galloc_at (w.alloc (.cells #[.int .i64 0, .slice none 0 0, .slice none 0 0] 25)) #[.int .i64 0, .int .i64 0] 31
    simpa using this

/-- the cells of the boxes, for the walk -/
structure DCells (W : World) (qb fb : Nat) : Prop where
  q0 : W.cell? ⟨qb, 0, none⟩ = some (.int .i64 0)
  q1 : W.cell? ⟨qb, 1, none⟩ = some (.slice none 0 0)
  q2 : W.cell? ⟨qb, 2, none⟩ = some (.slice none 0 0)
  f0 : W.cell? ⟨fb, 0, none⟩ = some (.int .i64 0)
  f1 : W.cell? ⟨fb, 1, none⟩ = some (.int .i64 0)
  z0 : W.frozen? ⟨qb, 0, none⟩ = false
  z1 : W.frozen? ⟨qb, 1, none⟩ = false
  z2 : W.frozen? ⟨qb, 2, none⟩ = false
  z3 : W.frozen? ⟨fb, 0, none⟩ = false
  z4 : W.frozen? ⟨fb, 1, none⟩ = false
  lq : qb < W.heap.size
  lf : fb < W.heap.size
theorem DBox.cells {w W : World} {qb fb : Nat} (h : DBox w W qb fb) : DCells W qb fb :=
  ⟨gbox_cell h.q 0, gbox_cell h.q 1, gbox_cell h.q 2, gbox_cell h.f 0, gbox_cell h.f 1, by simp [World.frozen?, h.q], by simp [World.frozen?, h.q], by simp [World.frozen?, h.q], by simp [World.frozen?, h.f], by simp [World.frozen?, h.f], (Array.getElem?_eq_some_iff.1 h.q).1, (Array.getElem?_eq_some_iff.1 h.f).1⟩

/-- stores into both boxes -/
theorem dput {w W : World} {qb fb : Nat} (h : DBox w W qb fb) (hb : Below w.heap.size w W) (a b c d e : Value) : Below w.heap.size w (((((W.setCell ⟨qb, 0, none⟩ a).setCell ⟨qb, 1, none⟩ b).setCell ⟨qb, 2, none⟩ c).setCell ⟨fb, 0, none⟩ d).setCell ⟨fb, 1, none⟩ e) := by
  have h1 := h.wq
  have h2 := h.qf
  exact ((((hb.setCell (p := ⟨qb, 0, none⟩) h1 _).setCell (p := ⟨qb, 1, none⟩) h1 _).setCell (p := ⟨qb, 2, none⟩) h1 _).setCell (p := ⟨fb, 0, none⟩) (by show w.heap.size ≤ fb; omega) _).setCell (p := ⟨fb, 1, none⟩) (by show w.heap.size ≤ fb; omega) _

set_option maxHeartbeats 4000000 in
set_option maxRecDepth 20000 in
theorem gdec_bad1 (a : Option Addr) (n c : Nat) (zs : List Int) (w : World) (hz : Has .u8 w a n zs) (hc : n ≤ c) (hcm : c ≤ maxLen) (hn : n ≤ 1000000) (hw : (wrongB zs).1 ≠ 0) : Calls Try.prog 11 #[.slice a n c] w (GDecDone zs w) := by
  obtain ⟨W2, hW2⟩ : ∃ W2, W2 = ((w.alloc (.cells #[.int .i64 0, .slice none 0 0, .slice none 0 0] 25)).alloc (.cells #[.int .i64 0, .int .i64 0] 31)) := ⟨_, rfl⟩
  obtain ⟨qb, hqb⟩ : ∃ b, b = w.heap.size := ⟨_, rfl⟩
  obtain ⟨fb, hfb⟩ : ∃ b, b = w.heap.size + 1 := ⟨_, rfl⟩
  have HD : Hid (DBox w W2 qb fb) := by rw [hW2, hqb, hfb]; exact dbox_new w
  have HB : Hid (Below w.heap.size w W2) := by rw [hW2]; exact bl_alloc (bl_alloc (Below.refl _ _))
  have HWB := hid (gwrongBytes a n c zs W2 (hz.step HB.out) hc hcm hn)
  have eF : decF zs = wrongB zs := by unfold decF; rw [if_pos hw]
  have HE : Hid (∀ w', Below w.heap.size w w' → GDecDone zs w (.returned (.tuple #[nilP, .agg #[.int .i64 (wrongB zs).1, .int .i64 (wrongB zs).2]])) w') := fun w' h => .inl ⟨by rw [eF]; exact hw, by rw [eF], h⟩
  have hne : ((wrongB zs).1 != 0) = true := by rw [bne_iff_ne]; exact hw
  have EW := hid hW2
  have EQ := hid hqb
  have EF := hid hfb
  unfold TellF at HWB
  clear hz hc hcm hn hw hW2 hqb hfb eF
  generalize (wrongB zs).1 = C at *
  generalize (wrongB zs).2 = A at *
  go_enter Try.func11, Try.ntmps11
  go_wp2_with fail
  rw [← EW.out, ← EF.out, ← EQ.out]
  refine HWB.out.mono ?_
  rintro e w1 ⟨rfl, hb1⟩
  clear HWB EW EQ EF
  have HD1 := hid (HD.out.step hb1)
  have HB1 := hid (bl_step HB.out hb1)
  obtain ⟨q0, q1, q2, f0, f1, z0, z1, z2, z3, z4, lq, lf⟩ := HD1.out.cells
  have hqf : ¬ qb = fb := by have := HD1.out.qf; omega
  have hfq : ¬ fb = qb := by have := HD1.out.qf; omega
  have HX : Hid (∀ o a b c d e, GDecDone zs w (.returned (.tuple #[nilP, .agg #[.int .i64 C, .int .i64 A]])) ((((((w1.setCell ⟨qb, 0, none⟩ a).setCell ⟨qb, 1, none⟩ b).setCell ⟨qb, 2, none⟩ c).setCell ⟨fb, 0, none⟩ d).setCell ⟨fb, 1, none⟩ e).alloc o).drew) := fun o a b c d e => HE.out _ (bl_alloc (dput HD1.out HB1.out a b c d e)).drew
  clear HD HB HD1 HE HB1 hb1
  go_wp2_with fail
  go_region
  all_goals
    go_wp2
    exact bodyPost_ret (v := .tuple #[nilP, .agg #[.int .i64 C, .int .i64 A]]) (by simp [results, Try.results11, go_sem, *]) rfl (HX.out _ _ _ _ _ _)

theorem wrong_none' {zs : List Int} (h : (wrongB zs).1 = 0) : 5 ≤ zs.length ∧ zs.take 3 = [83, 87, 1] ∧ zs.length = 7 + 3 * ntOf (zs.drop 3) + 14 * ncOf (zs.drop 3) := by
  unfold wrongB at h
  by_cases h1 : zs.length < 5
  · rw [if_pos h1] at h; simp at h
  rw [if_neg h1] at h
  by_cases h2 : zs.take 3 ≠ [83, 87, 1]
  · rw [if_pos h2] at h; simp at h
  rw [if_neg h2] at h
  by_cases h3 : zs.length < 7 + 3 * ntOf (zs.drop 3)
  · rw [if_pos h3] at h; simp at h
  rw [if_neg h3] at h
  by_cases h4 : zs.length < 7 + 3 * ntOf (zs.drop 3) + 14 * ncOf (zs.drop 3)
  · rw [if_pos h4] at h; simp at h
  rw [if_neg h4] at h
  by_cases h5 : 7 + 3 * ntOf (zs.drop 3) + 14 * ncOf (zs.drop 3) < zs.length
  · rw [if_pos h5] at h; simp at h
  exact ⟨by omega, by simpa using h2, by omega⟩

theorem DBox.ne {w W : World} {qb fb : Nat} (h : DBox w W qb fb) : ¬ qb = fb ∧ ¬ fb = qb := by
  have := h.qf
  omega

theorem cell_blk {w w' : World} {g o : Nat} {v : Value} (h : w'.heap[g]? = w.heap[g]?) (hc : w.cell? ⟨g, o, none⟩ = some v) : w'.cell? ⟨g, o, none⟩ = some v := by
  simp only [World.cell?, h] at hc ⊢
  exact hc
theorem CI.blk {w w' : World} {g o : Nat} {n : Int} (h : CI w g o n) (e : w'.heap[g]? = w.heap[g]?) : CI w' g o n := ⟨cell_blk e h.1, h.2⟩
theorem CU.blk {w w' : World} {g o : Nat} {n : Int} (h : CU w g o n) (e : w'.heap[g]? = w.heap[g]?) : CU w' g o n := ⟨cell_blk e h.1, h.2⟩

theorem ProgD.lie.blk {d : ProgD} {w w' : World} (h : d.lie w) (ht : ∀ ad, d.tabs.a = some ad → w'.heap[ad.block]? = w.heap[ad.block]?) (hc : ∀ ad, d.code.a = some ad → w'.heap[ad.block]? = w.heap[ad.block]?) : d.lie w' := by
  refine ⟨h.ws, h.n1, h.n2, ⟨h.t.1, fun i x hx => ?_⟩, ⟨h.c.1, fun i x hx => ?_⟩⟩
  · obtain ⟨g, off, e, hp⟩ := h.t.2 i x hx
    have q : w'.heap[g]? = w.heap[g]? := ht _ e
    exact ⟨g, off, e, hp.1.blk q, hp.2.1.blk q, hp.2.2.blk q⟩
  · obtain ⟨g, off, e, hp⟩ := h.c.2 i x hx
    have q : w'.heap[g]? = w.heap[g]? := hc _ e
    exact ⟨g, off, e, hp.1.blk q, hp.2.1.blk q, hp.2.2.1.blk q, hp.2.2.2.1.blk q, hp.2.2.2.2.1.blk q, hp.2.2.2.2.2.blk q⟩

set_option maxHeartbeats 4000000 in
set_option maxRecDepth 20000 in
theorem gdec_good (a : Option Addr) (n c : Nat) (zs : List Int) (w : World) (hz : Has .u8 w a n zs) (hc : n ≤ c) (hcm : c ≤ maxLen) (hn : n ≤ 1000000) (hw : (wrongB zs).1 = 0) : Calls Try.prog 11 #[.slice a n c] w (GDecDone zs w) := by
  obtain ⟨h5, hmk, hlen⟩ := wrong_none' hw
  have hl := hz.1
  obtain ⟨g, off, rfl, hgl, -⟩ := hz.some (by omega)
  obtain ⟨W2, hW2⟩ : ∃ W2, W2 = ((w.alloc (.cells #[.int .i64 0, .slice none 0 0, .slice none 0 0] 25)).alloc (.cells #[.int .i64 0, .int .i64 0] 31)) := ⟨_, rfl⟩
  obtain ⟨qb, hqb⟩ : ∃ b, b = w.heap.size := ⟨_, rfl⟩
  obtain ⟨fb, hfb⟩ : ∃ b, b = w.heap.size + 1 := ⟨_, rfl⟩
  have HD : Hid (DBox w W2 qb fb) := by rw [hW2, hqb, hfb]; exact dbox_new w
  have HB : Hid (Below w.heap.size w W2) := by rw [hW2]; exact bl_alloc (bl_alloc (Below.refl _ _))
  have HWB := hid (gwrongBytes _ n c zs W2 (hz.step HB.out) hc hcm hn)
  have EW := hid hW2
  have EQ := hid hqb
  have EF := hid hfb
  unfold TellF at HWB
  rw [hw] at HWB
  have eF : decF zs = chkW (slotsOf (zs.drop 3)) (tsOf (zs.drop 3)) (csOf (zs.drop 3)) := by unfold decF; rw [if_neg (by rw [hw]; exact fun h => h rfl)]
  have HE1 : Hid ((decF zs).1 ≠ 0 → ∀ w', Below w.heap.size w w' → GDecDone zs w (.returned (.tuple #[nilP, .agg #[.int .i64 (decF zs).1, .int .i64 (decF zs).2]])) w') := fun hd w' h => .inl ⟨hd, rfl, h⟩
  have HE2 : Hid ((decF zs).1 = 0 → ∀ (d : ProgD) w', d.slots = slotsOf (zs.drop 3) → d.ts = tsOf (zs.drop 3) → d.cs = csOf (zs.drop 3) → d.lie w' → d.small → Below w.heap.size w w' → GDecDone zs w (.returned (.tuple #[d.v, .agg #[.int .i64 0, .int .i64 0]])) w') := fun hd d w' h1 h2 h3 h4 h5 h6 => .inr ⟨hd, hw, d, rfl, h1, h2, h3, h4, h5, h6⟩
  have HZ := hid hz
  have HH5 := hid h5
  have HLEN := hid hlen
  have HLN := hid hl
  have HC := hid hc
  have HCM := hid hcm
  have HN := hid hn
  have EDF := hid eF
  have h3n : (3 : Int) ≤ (n : Int) := by omega
  have h3c : (3 : Int) ≤ (c : Int) := by omega
  have h3n' : 3 ≤ n := by omega
  have h3c' : 3 ≤ c := by omega
  have hc3 : ¬ c = 3 := by omega
  have hci : (c : Int) < 9223372036854775808 := by unfold maxLen at hcm; omega
  have HGL := hid hgl
  clear hz hc hcm hn hw hW2 hqb hfb eF h5 hmk hlen hl hgl
  go_enter Try.func11, Try.ntmps11
  go_wp2_with fail
  rw [← EW.out, ← EF.out, ← EQ.out]
  refine HWB.out.mono ?_
  rintro e w1 ⟨rfl, hb1⟩
  clear HWB EW EQ EF
  generalize (wrongB zs).2 = A
  obtain ⟨W3, hW3⟩ : ∃ W3, W3 = (w1.alloc (.cells #[.int .i64 0, .int .i64 A] 31)).alloc (.cells #[.slice (some ⟨g, off + 3, none⟩) (n - 3) (c - 3)] 62) := ⟨_, rfl⟩
  obtain ⟨p, hp⟩ : ∃ p, p = w1.heap.size + 1 := ⟨_, rfl⟩
  have b3 : Below W2.heap.size W2 W3 := by rw [hW3]; exact bl_alloc (bl_alloc hb1)
  have HD3 := hid (HD.out.step b3)
  have HB3 := hid (bl_step HB.out b3)
  have hfp : fb < p := by have := (HD.out.step hb1).cells.lf; omega
  have HFP := hid hfp
  have RD : GRd p (zs.drop 3) W3 := by
    have hcut := (HZ.out.step HB3.out).cut 3 h3n'
    refine ⟨⟨some ⟨g, off + 3, none⟩, c - 3, ?_, ?_, by rw [List.length_drop, HLN.out]; have := HC.out; omega, by have := HCM.out; omega, ?_⟩, by rw [List.length_drop, HLN.out]; have := HN.out; omega⟩
    · rw [List.length_drop, HLN.out, hW3, hp]
      have := galloc_at (w1.alloc (.cells #[.int .i64 0, .int .i64 A] 31)) #[.slice (some ⟨g, off + 3, none⟩) (n - 3) (c - 3)] 62
      simpa using this
    · rw [List.length_drop, HLN.out]; exact hcut
    · intro ad had
      simp only [Option.some.injEq] at had
      subst had
      show g < p
      have := HGL.out
      have := HB.out.size
      have := hb1.size
      omega
  have HPR := hid (grprog p (zs.drop 3) W3 RD (by rw [List.length_drop]; have := HLEN.out; omega) (by rw [List.length_drop]; have := HLEN.out; omega))
  have HPL : Hid (p < W3.heap.size) := RD.pl
  have HWP : Hid (w.heap.size ≤ p) := by have := HD.out.wq; have := HD.out.qf; show w.heap.size ≤ p; omega
  have EW3 := hid hW3
  have EP := hid hp
  clear hb1 b3 hW3 hp hfp RD HD HB
  go_wp2_with fail
  rw [← EW3.out, ← EP.out]
  refine HPR.out.mono ?_
  rintro e w4 ⟨d, rfl, es, et, ec, ent, enc, hlie, hrn, hfar1, hfar2⟩
  clear EW3 EP HPR
  have HD4 := hid (HD3.out.rn hrn HFP.out)
  have HB4 : Hid (Below w.heap.size w w4) := HB3.out.trans (hrn.low HWP.out HB3.out.size)
  have hsm : d.small := by
    have h1 := HLEN.out
    have h2 := HLN.out
    have h3 := HN.out
    have hby := HZ.out.byt
    have q1 : ntOf (zs.drop 3) < 256 := numB_small (k := 1) (fun y hy => hby y (List.mem_of_mem_drop (List.mem_of_mem_drop (List.mem_of_mem_take hy)))) (by rw [List.length_take]; omega)
    have q2 : ncOf (zs.drop 3) < 65536 := numB_small (k := 2) (fun y hy => hby y (List.mem_of_mem_drop (List.mem_of_mem_drop (List.mem_of_mem_drop (List.mem_of_mem_drop (List.mem_of_mem_take hy)))))) (by rw [List.length_take]; omega)
    exact ⟨by omega, by omega⟩
  obtain ⟨W5, hW5⟩ : ∃ W5, W5 = w4.alloc (.cells #[.int .i64 d.slots, .slice d.tabs.a d.tabs.n d.tabs.c, .slice d.code.a d.code.n d.code.c] 25) := ⟨_, rfl⟩
  obtain ⟨pb, hpb⟩ : ∃ b, b = w4.heap.size := ⟨_, rfl⟩
  have PB : Hid (PBox d W5 pb) := by rw [hW5, hpb]; exact pbox_new d w4
  have b5 : Below w4.heap.size w4 W5 := by rw [hW5]; exact bl_alloc (Below.refl _ _)
  have HD5 := hid (HD4.out.step b5)
  have HB5 := hid (bl_step HB4.out b5)
  have HL5 := hid (hlie.step b5)
  have HCK := hid (gcheck d W5 HL5.out hsm)
  rw [es, et, ec, ← EDF.out] at HCK
  unfold TellF at HCK
  have HIS : Hid ((decF zs).1 = 0 → ∀ w', d.lie w' → Below w.heap.size w w' → GDecDone zs w (.returned (.tuple #[d.v, .agg #[.int .i64 0, .int .i64 0]])) w') := fun hd w' h1 h2 => HE2.out hd d w' es et ec h1 hsm h2
  dsimp only [ProgD.v] at HCK HIS
  have EW5 := hid hW5
  have EPB := hid hpb
  have HFR1 : Hid (∀ ad, d.tabs.a = some ad → qb < ad.block ∧ fb < ad.block) := fun ad had => by
    have h1 := hfar1 ad had
    have := HD3.out.cells.lf
    have := HD3.out.cells.lq
    omega
  have HFR2 : Hid (∀ ad, d.code.a = some ad → qb < ad.block ∧ fb < ad.block) := fun ad had => by
    have h1 := hfar2 ad had
    have := HD3.out.cells.lf
    have := HD3.out.cells.lq
    omega
  have HPQ : Hid (fb < pb ∧ qb < pb) := by have := HD4.out.cells.lf; have := HD4.out.cells.lq; show _ ∧ _; omega
  clear hfar1 hfar2 hW5 hpb b5 HD4 HB4 HD3 HB3 es et ec ent enc hlie hrn hsm HE2 EDF
  go_wp2_with fail
  rw [← EW5.out, ← EPB.out]
  clear EW5 EPB
  refine HCK.out.mono ?_
  rintro e w6 ⟨rfl, hb6⟩
  have HD6 := hid (HD5.out.step hb6)
  have HB6 := hid (bl_step HB5.out hb6)
  have HL6 := hid (HL5.out.step hb6)
  obtain ⟨p0, p1, p2⟩ := PB.out.step hb6
  have lp : pb < w6.heap.size := World.block_lt_of_cell? _ _ p0
  obtain ⟨q0, q1, q2, f0, f1, z0, z1, z2, z3, z4, lq, lf⟩ := HD6.out.cells
  obtain ⟨hqf, hfq⟩ := HD6.out.ne
  clear HCK HD5 HB5 HL5 PB hb6 HZ HH5 HLEN HLN HC HCM HN HGL
  by_cases hcz : (decF zs).1 = 0
  · have HX := hid (HIS.out hcz)
    rw [hcz]
    clear HIS HE1 hcz
    generalize (decF zs).2 = B
    have HLIE : Hid (∀ o a b c e f, d.lie ((((((w6.setCell ⟨qb, 0, none⟩ a).setCell ⟨qb, 1, none⟩ b).setCell ⟨qb, 2, none⟩ c).setCell ⟨fb, 0, none⟩ e).setCell ⟨fb, 1, none⟩ f).alloc o)) := by
      intro o a b c e f
      refine ProgD.lie.step (HL6.out.blk (fun ad had => ?_) (fun ad had => ?_)) (bl_alloc (Below.refl _ _))
      · have := HFR1.out ad had
        rw [Below.heap_setCell _ _ _ _ (by show ad.block ≠ fb; omega), Below.heap_setCell _ _ _ _ (by show ad.block ≠ fb; omega), Below.heap_setCell _ _ _ _ (by show ad.block ≠ qb; omega), Below.heap_setCell _ _ _ _ (by show ad.block ≠ qb; omega), Below.heap_setCell _ _ _ _ (by show ad.block ≠ qb; omega)]
      · have := HFR2.out ad had
        rw [Below.heap_setCell _ _ _ _ (by show ad.block ≠ fb; omega), Below.heap_setCell _ _ _ _ (by show ad.block ≠ fb; omega), Below.heap_setCell _ _ _ _ (by show ad.block ≠ qb; omega), Below.heap_setCell _ _ _ _ (by show ad.block ≠ qb; omega), Below.heap_setCell _ _ _ _ (by show ad.block ≠ qb; omega)]
    have HBB : Hid (∀ o a b c e f, Below w.heap.size w ((((((w6.setCell ⟨qb, 0, none⟩ a).setCell ⟨qb, 1, none⟩ b).setCell ⟨qb, 2, none⟩ c).setCell ⟨fb, 0, none⟩ e).setCell ⟨fb, 1, none⟩ f).alloc o)) := fun o a b c e f => bl_alloc (dput HD6.out HB6.out a b c e f)
    clear HD6 HB6 HL6 h3n h3c h3n' h3c' hc3 hci HFR1 HFR2 HPL HWP HFP HPQ
    go_wp2
    exact bodyPost_ret (v := .tuple #[.agg #[.int .i64 d.slots, .slice d.tabs.a d.tabs.n d.tabs.c, .slice d.code.a d.code.n d.code.c], .agg #[.int .i64 0, .int .i64 0]]) (by simp [results, Try.results11, go_sem, *]) rfl (HX.out _ (HLIE.out _ _ _ _ _ _) (HBB.out _ _ _ _ _ _))
  · have hne : ((decF zs).1 != 0) = true := by rw [bne_iff_ne]; exact hcz
    have HX := hid (HE1.out hcz)
    clear HIS HE1 hcz HL6
    generalize (decF zs).1 = C at *
    generalize (decF zs).2 = B at *
    have HBB : Hid (∀ o a b c e f, Below w.heap.size w ((((((w6.setCell ⟨qb, 0, none⟩ a).setCell ⟨qb, 1, none⟩ b).setCell ⟨qb, 2, none⟩ c).setCell ⟨fb, 0, none⟩ e).setCell ⟨fb, 1, none⟩ f).alloc o).drew) := fun o a b c e f => (bl_alloc (dput HD6.out HB6.out a b c e f)).drew
    clear HD6 HB6
    go_wp2_with fail
    go_region
    all_goals
      go_wp2
      exact bodyPost_ret (v := .tuple #[nilP, .agg #[.int .i64 C, .int .i64 B]]) (by simp [results, Try.results11, go_sem, *]) rfl (HX.out _ (HBB.out _ _ _ _ _ _))

theorem gdecode (a : Option Addr) (n c : Nat) (zs : List Int) (w : World) (hz : Has .u8 w a n zs) (hc : n ≤ c) (hcm : c ≤ maxLen) (hn : n ≤ 1000000) : Calls Try.prog 11 #[.slice a n c] w (GDecDone zs w) := by
  by_cases hw : (wrongB zs).1 = 0
  · exact gdec_good a n c zs w hz hc hcm hn hw
  · exact gdec_bad1 a n c zs w hz hc hcm hn hw
end Go.Proofs.Ytcdpmpcpgijebaa
