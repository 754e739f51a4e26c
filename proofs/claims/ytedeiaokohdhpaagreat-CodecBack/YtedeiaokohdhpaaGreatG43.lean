/- Texts of one chain, joined: ZTorn. -/
import Derived.Test.YtedeiaokohdhpaaGreatG40
import Derived.Test.YtedeiaokohdhpaaGreatG42
import Derived.Deep.RegionHeld3
namespace Go.Proofs.YtedeiaokohdhpaaGreat
open Go.RowKit
@[reducible] def noPlan : Value := .agg #[.slice none 0 0, .slice none 0 0, .slice none 0 0, .slice none 0 0, .slice none 0 0, .slice none 0 0, .slice none 0 0]
set_option maxHeartbeats 8000000 in
set_option maxRecDepth 20000 in
theorem decode_bad (a : Option Addr) (n c : Nat) (zs : List Int) (w : World) (hn : n ≤ 10000000) (hnc : n ≤ c) (hz : Has .u8 w a n zs) (hb : (frameF zs).1 ≠ 0) :
    Calls Tryz.prog 10 #[.slice a n c] w fun e w' => e = .returned (.tuple #[noPlan, .agg #[.int .i64 (frameF zs).1, .int .i64 (frameF zs).2]]) ∧ Below w.heap.size w w' := by
  obtain ⟨W2, hW⟩ : ∃ W2, W2 = ((w.alloc (.cells #[.slice none 0 0, .slice none 0 0, .slice none 0 0, .slice none 0 0, .slice none 0 0, .slice none 0 0, .slice none 0 0] 29)).alloc (.cells #[.int .i64 0, .int .i64 0] 35)) := ⟨_, rfl⟩
  obtain ⟨s, es⟩ : ∃ s, s = w.heap.size := ⟨_, rfl⟩
  obtain ⟨f, ef⟩ : ∃ f, f = w.heap.size + 1 := ⟨_, rfl⟩
  have HB : Hid (Below w.heap.size w W2) := by rw [hW]; exact bl_alloc (bl_alloc (Below.refl _ _))
  have hc : (∀ k, k < 7 → W2.cell? ⟨s, k, none⟩ = some (.slice none 0 0)) ∧ W2.cell? ⟨f, 0, none⟩ = some (.int .i64 0) ∧ W2.cell? ⟨f, 1, none⟩ = some (.int .i64 0) ∧ (∀ o, W2.frozen? ⟨s, o, none⟩ = false) ∧ ∀ o, W2.frozen? ⟨f, o, none⟩ = false := by
    rw [hW, es, ef]
    refine ⟨fun k hk => ?_, ?_, ?_, fun o => ?_, fun o => ?_⟩
    · rcases (show k = 0 ∨ k = 1 ∨ k = 2 ∨ k = 3 ∨ k = 4 ∨ k = 5 ∨ k = 6 by omega) with rfl | rfl | rfl | rfl | rfl | rfl | rfl <;> exact (World.cell?_alloc_past _ _ _ (by simp)).trans ((World.cell?_alloc_at _ _ _ _ rfl).trans rfl)
    · exact (World.cell?_alloc_at _ _ _ _ (by simp)).trans rfl
    · exact (World.cell?_alloc_at _ _ _ _ (by simp)).trans rfl
    · exact (World.frozen?_alloc_past _ _ _ (by simp)).trans (World.frozen?_alloc_at _ _ _ _ rfl)
    · exact World.frozen?_alloc_at _ _ _ _ (by simp)
  have HF := hid (frame_any a n c zs W2 hn hnc (hz.step HB.out))
  have hne : ((frameF zs).1 != 0) = true := by rw [bne_iff_ne]; exact hb
  have hsf : s < f ∧ f < W2.heap.size ∧ w.heap.size ≤ s := by rw [hW, es, ef]; simp
  have EW := hid hW
  have ES := hid es
  have EF := hid ef
  have HC := hid hc
  have HSF := hid hsf
  clear hz hW es ef hc hb hsf
  unfold FrameDone at HF
  generalize (frameF zs).1 = C at *
  generalize (frameF zs).2 = A at *
  go_enter Tryz.func10, Tryz.ntmps10
  go_wp2_with fail
  rw [← EW.out, ← EF.out, ← ES.out]
  refine HF.out.mono ?_
  rintro e w1 ⟨rfl, hb1⟩
  clear HF EW ES EF
  have HB1 := hid (bl_step HB.out hb1)
  have c0 := cell_keep (HC.out.1 0 (by decide)) hb1
  have c1 := cell_keep (HC.out.1 1 (by decide)) hb1
  have c2 := cell_keep (HC.out.1 2 (by decide)) hb1
  have c3 := cell_keep (HC.out.1 3 (by decide)) hb1
  have c4 := cell_keep (HC.out.1 4 (by decide)) hb1
  have c5 := cell_keep (HC.out.1 5 (by decide)) hb1
  have c6 := cell_keep (HC.out.1 6 (by decide)) hb1
  have y0 := cell_keep HC.out.2.1 hb1
  have y1 := cell_keep HC.out.2.2.1 hb1
  have z : ∀ o, w1.frozen? ⟨s, o, none⟩ = false := fun o => (hb1.frozen (p := ⟨s, o, none⟩) (Nat.lt_trans HSF.out.1 HSF.out.2.1)).trans (HC.out.2.2.2.1 o)
  have zf : ∀ o, w1.frozen? ⟨f, o, none⟩ = false := fun o => (hb1.frozen (p := ⟨f, o, none⟩) HSF.out.2.1).trans (HC.out.2.2.2.2 o)
  have hfl : f < w1.heap.size := Nat.lt_of_lt_of_le HSF.out.2.1 hb1.size
  have hsl : s < w1.heap.size := Nat.lt_trans HSF.out.1 hfl
  have hsf : s ≠ f := Nat.ne_of_lt HSF.out.1
  have hws : w.heap.size ≤ s := HSF.out.2.2
  have hwf : w.heap.size ≤ f := Nat.le_trans hws (Nat.le_of_lt HSF.out.1)
  have HWS := hid hws
  have HWF := hid hwf
  have set7 : Hid (∀ x : World, Below w.heap.size w x → Below w.heap.size w (((((((x.setCell ⟨s, 0, none⟩ (.slice none 0 0)).setCell ⟨s, 1, none⟩ (.slice none 0 0)).setCell ⟨s, 2, none⟩ (.slice none 0 0)).setCell ⟨s, 3, none⟩ (.slice none 0 0)).setCell ⟨s, 4, none⟩ (.slice none 0 0)).setCell ⟨s, 5, none⟩ (.slice none 0 0)).setCell ⟨s, 6, none⟩ (.slice none 0 0))) := fun x h => ((((((h.setCell (p := ⟨s, 0, none⟩) hws _).setCell (p := ⟨s, 1, none⟩) hws _).setCell (p := ⟨s, 2, none⟩) hws _).setCell (p := ⟨s, 3, none⟩) hws _).setCell (p := ⟨s, 4, none⟩) hws _).setCell (p := ⟨s, 5, none⟩) hws _).setCell (p := ⟨s, 6, none⟩) hws _
  clear HB HC HSF hb1 hws hwf
  go_wp2_with fail
  go_region
  all_goals
    go_wp2
    exact bodyPost_ret (v := .tuple #[noPlan, .agg #[.int .i64 C, .int .i64 A]]) (by simp [results, Tryz.results10, go_sem, *]) rfl ⟨rfl, (bl_alloc (((set7.out w1 HB1.out).setCell (p := ⟨f, 0, none⟩) HWF.out _).setCell (p := ⟨f, 1, none⟩) HWF.out _)).drew⟩
@[reducible] def CD (p0 : Nat) : PlanD := ⟨⟨none, 0, 0⟩, [], ⟨none, 0, 0⟩, [], ⟨some ⟨p0, 0, none⟩, 1, 1⟩, [⟨-1, ⟨0, 0⟩, ⟨none, 0, 0⟩, [], 1000⟩], ⟨none, 0, 0⟩, [], ⟨none, 0, 0⟩, [], ⟨none, 0, 0⟩, [], ⟨none, 0, 0⟩, []⟩
theorem CD.lie {w : World} {p0 : Nat} (h0 : w.cell? ⟨p0, 0, none⟩ = some (.int .i64 (-1))) (h1 : w.cell? ⟨p0, 1, none⟩ = some (.int .i64 0)) (h2 : w.cell? ⟨p0, 2, none⟩ = some (.int .i64 0)) (h3 : w.cell? ⟨p0, 3, none⟩ = some (.slice none 0 0)) (h4 : w.cell? ⟨p0, 4, none⟩ = some (.int .i64 1000)) : (CD p0).lie w := by
  refine ⟨⟨rfl, by simp⟩, has_nil _ _, ⟨rfl, fun i d hd => ?_⟩, ⟨rfl, by simp⟩, ⟨rfl, by simp⟩, ⟨rfl, by simp⟩, has_nil _ _, Nat.le_refl _⟩
  match i, hd with
  | 0, hd =>
    obtain rfl : _ = d := Option.some.inj hd
    exact ⟨p0, 0, rfl, ⟨h0, by decide⟩, ⟨h1, by decide⟩, ⟨h2, by decide⟩, ⟨h3, fun _ => ⟨rfl, rfl⟩⟩, ⟨h4, by decide⟩, ⟨rfl, by simp⟩⟩
theorem CD.chk (p0 : Nat) : chkP (CD p0).p = (0, 0) := by
  show chkP ⟨[], [], [⟨-1, ⟨0, 0⟩, [], 1000⟩], [], [], [], []⟩ = (0, 0)
  decide +kernel
theorem CD.body (p0 : Nat) : bodyL (CD p0) = [83, 89, 1, 0, 0, 2, 1, 0, 208, 15, 0, 0, 0, 0] := by
  have e : bodyL (CD p0) = bodyL (CD 0) := rfl
  rw [e]
  decide +kernel
theorem CD.few (p0 : Nat) : (CD p0).wfew := by
  refine ⟨⟨Nat.zero_le _, by simp⟩, Nat.zero_le _, ⟨(show 1 ≤ 100000 by decide), fun y hy => ?_⟩, ⟨Nat.zero_le _, by simp⟩, ⟨Nat.zero_le _, by simp⟩, ⟨Nat.zero_le _, by simp⟩, Nat.zero_le _⟩
  simp only [List.mem_cons, List.not_mem_nil, or_false] at hy
  subst hy
  decide
theorem CD.small (p0 : Nat) : (CD p0).small := ⟨Nat.zero_le _, by simp, by simp, Nat.zero_le _⟩
theorem crc_begun : Mth.crc [49, 50, 51, 52, 53, 54, 55, 56, 57] = 3421780262 := by decide +kernel
theorem has_marked (w : World) (zs : List Int) (hz : Mth.Byt zs) (f : Nat × Nat) : Has .u8 (w.alloc (.cells (BB zs).toArray 5 f)) (some ⟨w.heap.size, 0, none⟩) zs.length zs := by
  refine ⟨rfl, fun n hn => wf_u8 n (hz n hn), .inr ⟨w.heap.size, 0, rfl, by simp, fun i hi => ?_⟩⟩
  have : (w.alloc (.cells (BB zs).toArray 5 f)).heap[w.heap.size]? = some (.cells (BB zs).toArray 5 f) := heap_alloc_new w _
  have e : (BB zs).toArray[i]? = some (.int .u8 (zs.getD i 0)) := by
    simp only [List.getElem?_toArray, BB, List.getElem?_map, List.getD_eq_getElem?_getD, List.getElem?_eq_getElem hi, Option.map_some, Option.getD_some]
  generalize (BB zs).toArray = cur at *
  generalize w.alloc (.cells cur 5 f) = W at *
  rw [Nat.zero_add]
  simp only [World.cell?, this]
  exact e
set_option maxHeartbeats 8000000 in
set_option maxRecDepth 20000 in
theorem codec_begun (w : World) : Calls Tryz.prog 5 #[] w fun e w' => e = .returned (.bool true) ∧ Below w.heap.size w w' := by
  obtain ⟨W1, hW⟩ : ∃ W1, W1 = w.alloc (.cells #[.int .i64 (-1), .int .i64 0, .int .i64 0, .slice none 0 0, .int .i64 1000] 51) := ⟨_, rfl⟩
  obtain ⟨p0, hp⟩ : ∃ p0, p0 = w.heap.size := ⟨_, rfl⟩
  have hlie : (CD p0).lie W1 := by
    rw [hW, hp]
    refine CD.lie ?_ ?_ ?_ ?_ ?_ <;> exact (World.cell?_alloc_at _ _ _ _ rfl).trans rfl
  have HB : Hid (Below w.heap.size w W1) := by rw [hW]; exact bl_alloc (Below.refl _ _)
  have hn : (encL (CD p0)).length = 18 := by rw [enc_len, CD.body]; rfl
  have HEN : Hid (Calls Tryz.prog 8 #[(CD p0).v] W1 fun e w' => ∃ g cap, e = .returned (.tuple #[.slice (some ⟨g, 0, none⟩) 18 cap, .agg #[.int .i64 0, .int .i64 0]]) ∧ (∀ i, i < 18 → w'.cell? ⟨g, i, none⟩ = some (.int .u8 ((encL (CD p0)).getD i 0))) ∧ Below W1.heap.size W1 w') :=
    (encode_any (CD p0) W1 hlie (CD.small p0) (CD.few p0) (by rw [CD.body]; decide)).mono fun e w' h => by
      rcases h with ⟨h, _⟩ | ⟨_, g, cap, he, ho, hb⟩
      · rw [CD.chk] at h; exact absurd rfl h
      · rw [hn] at he ho
        refine ⟨g, cap, he, fun i hi => ?_, hb⟩
        rw [ho.cellAt i (by omega)]
        simp only [BB, List.getElem?_map, List.getD_eq_getElem?_getD]
        rw [List.getElem?_eq_getElem (by omega)]; rfl
  have HS : Hid (∀ w' : World, Calls Tryz.prog 14 #[.slice (some ⟨w'.heap.size, 0, none⟩) 9 9] (w'.alloc (.cells #[.int .u8 49, .int .u8 50, .int .u8 51, .int .u8 52, .int .u8 53, .int .u8 54, .int .u8 55, .int .u8 56, .int .u8 57] 5 (9, 10))) fun e w'' => e = .returned (.int .u32 3421780262) ∧ w'' = w'.alloc (.cells #[.int .u8 49, .int .u8 50, .int .u8 51, .int .u8 52, .int .u8 53, .int .u8 54, .int .u8 55, .int .u8 56, .int .u8 57] 5 (9, 10))) := fun w' => by
    have := sum_any _ 9 9 _ _ (by decide) (has_marked w' [49, 50, 51, 52, 53, 54, 55, 56, 57] (by intro x hx; simp only [List.mem_cons, List.not_mem_nil, or_false] at hx; omega) (9, 10))
    rw [crc_begun] at this
    exact this
  have b5 : (encL (CD p0)).getD 5 0 = 2 := by unfold encL; rw [CD.body]; rfl
  have b8 : (encL (CD p0)).getD 8 0 = 208 := by unfold encL; rw [CD.body]; rfl
  have b9 : (encL (CD p0)).getD 9 0 = 15 := by unfold encL; rw [CD.body]; rfl
  have H5 := hid b5
  have H8 := hid b8
  have H9 := hid b9
  have EW := hid hW
  have EP := hid hp
  clear hlie hn b5 b8 b9 hW hp
  go_enter Tryz.func5, Tryz.ntmps5
  go_wp2_with fail
  rw [← EW.out, ← EP.out]
  refine HEN.out.mono ?_
  rintro e w1 ⟨g, cap, rfl, hcs, hb1⟩
  have q5 := hcs 5 (by decide)
  have q8 := hcs 8 (by decide)
  have q9 := hcs 9 (by decide)
  rw [H5.out] at q5
  rw [H8.out] at q8
  rw [H9.out] at q9
  have HB1 := hid (bl_step HB.out hb1)
  have hgl : g < w1.heap.size := World.block_lt_of_cell? w1 _ q5
  have hcv : ∀ o, (convert 30 30 (.slice (some ⟨w1.heap.size + 1, 0, none⟩) 9 9)).run Tryz.prog ((w1.alloc o).alloc (.cells #[.int .u8 49, .int .u8 50, .int .u8 51, .int .u8 52, .int .u8 53, .int .u8 54, .int .u8 55, .int .u8 56, .int .u8 57] 5)) = .ok (.slice (some ⟨w1.heap.size + 1, 0, none⟩) 9 9) ((w1.alloc o).alloc (.cells #[.int .u8 49, .int .u8 50, .int .u8 51, .int .u8 52, .int .u8 53, .int .u8 54, .int .u8 55, .int .u8 56, .int .u8 57] 5 (9, 10))) := fun o => by
    have := Lib.run_convert_bytes_const (P := Tryz.prog) (w1.alloc o) 30 5 #[.int .u8 49, .int .u8 50, .int .u8 51, .int .u8 52, .int .u8 53, .int .u8 54, .int .u8 55, .int .u8 56, .int .u8 57] 9 9 Tryz.underlying30 Tryz.underlying5
    simpa using this
  have HSS : Hid (∀ o, Calls Tryz.prog 14 #[.slice (some ⟨w1.heap.size + 1, 0, none⟩) 9 9] ((w1.alloc o).alloc (.cells #[.int .u8 49, .int .u8 50, .int .u8 51, .int .u8 52, .int .u8 53, .int .u8 54, .int .u8 55, .int .u8 56, .int .u8 57] 5 (9, 10))) fun e w'' => e = .returned (.int .u32 3421780262) ∧ w'' = (w1.alloc o).alloc (.cells #[.int .u8 49, .int .u8 50, .int .u8 51, .int .u8 52, .int .u8 53, .int .u8 54, .int .u8 55, .int .u8 56, .int .u8 57] 5 (9, 10))) := fun o => by
    have := HS.out (w1.alloc o)
    simpa using this
  clear HEN HB EW EP hcs hb1 H5 H8 H9 HS
  go_wp2_with fail
  refine (HSS.out _).mono ?_
  rintro e w2 ⟨rfl, rfl⟩
  clear HSS hcv
  go_wp2
  go_ret
  exact ⟨rfl, bl_alloc (bl_alloc HB1.out)⟩
end Go.Proofs.YtedeiaokohdhpaaGreat
