/- shuntyardlaw.guardBegun. -/
import Derived.Test.YtjmlkaciibdpaaaHCheck
namespace Go.Proofs.Ytjmlkaciibdpaaa
open Go.RowKit

theorem row_box {W : World} {g : Nat} {cs : List InsD} {T : TypeId} (h : BoxC W g (cs.flatMap kInsE).toArray T) (hw : ∀ x ∈ cs, x.wf) : QRow 6 InsD.lie W ⟨some ⟨g, 0, none⟩, cs.length, cs.length⟩ cs := by
  refine ⟨rfl, fun i x hx => ⟨g, 0, rfl, ?_⟩⟩
  have hxw := hw x (List.mem_of_getElem? hx)
  have c : ∀ r u, (kInsE x)[r]? = some u → W.cell? ⟨g, 0 + i * 6 + r, none⟩ = some u := fun r u hu => by
    rw [h.cell, List.getElem?_toArray, Nat.zero_add]
    exact gflat_to (k := 6) (fun _ => rfl) hx hu
  exact ⟨⟨c 0 _ rfl, hxw.1⟩, ⟨c 1 _ rfl, hxw.2.1⟩, ⟨c 2 _ rfl, hxw.2.2.1⟩, ⟨c 3 _ rfl, hxw.2.2.2.1⟩, ⟨c 4 _ rfl, hxw.2.2.2.2.1⟩, ⟨c 5 _ rfl, hxw.2.2.2.2.2⟩⟩

def begCs (y : InsD) : List InsD := [⟨1, 0, 0, 0, 0, 0⟩, y, ⟨6, 1, 0, 1, 0, 0⟩, ⟨17, 0, 0, 0, 0, 0⟩]
theorem beg_lie {W : World} {g : Nat} {T : TypeId} {y : InsD} (h : BoxC W g ((begCs y).flatMap kInsE).toArray T) (hy : y.wf) : ProgD.lie ⟨0, ⟨none, 0, 0⟩, [], ⟨some ⟨g, 0, none⟩, 4, 4⟩, begCs y⟩ W := by
  refine ⟨(show gwfI 0 by decide), by simp [QSl.nil0], by simp [QSl.nil0], ⟨rfl, by simp⟩, row_box h fun x hx => ?_⟩
  simp only [begCs, List.mem_cons, List.not_mem_nil, or_false] at hx
  rcases hx with rfl | rfl | rfl | rfl
  · exact ⟨by decide, by decide, by decide, by decide, by decide, by decide⟩
  · exact hy
  · exact ⟨by decide, by decide, by decide, by decide, by decide, by decide⟩
  · exact ⟨by decide, by decide, by decide, by decide, by decide, by decide⟩

theorem beg_one : guardW 0 [] (begCs ⟨9, 0, 0, 0, 1, 1⟩) = (0, 0) := by decide
theorem beg_two : guardW 0 [] (begCs ⟨1, 2, 0, 0, 0, 0⟩) = (16, 2) := by decide

set_option maxHeartbeats 4000000 in
set_option maxRecDepth 20000 in
theorem hbegun (w : World) : Calls Try.prog 5 #[] w (TellB true w) := by
  obtain ⟨W2, hW2⟩ : ∃ W, W = (w.alloc (.cells #[.int .i64 1, .int .i64 0, .int .i64 0, .int .i64 0, .int .i64 0, .int .u64 0, .int .i64 9, .int .i64 0, .int .i64 0, .int .i64 0, .int .i64 1, .int .u64 1, .int .i64 6, .int .i64 1, .int .i64 0, .int .i64 1, .int .i64 0, .int .u64 0, .int .i64 17, .int .i64 0, .int .i64 0, .int .i64 0, .int .i64 0, .int .u64 0] 36)).alloc (.cells #[.int .i64 0, .slice none 0 0, .slice (some ⟨w.heap.size, 0, none⟩) 4 4] 25) := ⟨_, rfl⟩
  obtain ⟨g, hg⟩ : ∃ b, b = w.heap.size := ⟨_, rfl⟩
  obtain ⟨pb, hpb⟩ : ∃ b, b = w.heap.size + 1 := ⟨_, rfl⟩
  have b2 : Below w.heap.size w W2 := by rw [hW2]; exact bl_alloc (bl_alloc (Below.refl _ _))
  have xg : BoxC W2 g ((begCs ⟨9, 0, 0, 0, 1, 1⟩).flatMap kInsE).toArray 36 := by
    rw [hW2, hg]
    exact BoxC.step (boxc_new _ _ _ rfl) (bl_alloc (Below.refl _ _))
  have xp : BoxC W2 pb #[.int .i64 0, .slice none 0 0, .slice (some ⟨g, 0, none⟩) 4 4] 25 := by
    rw [hW2, hpb, hg]
    exact boxc_new _ _ _ (by simp)
  have HC1 := hid (hcheck ⟨0, ⟨none, 0, 0⟩, [], ⟨some ⟨g, 0, none⟩, 4, 4⟩, begCs ⟨9, 0, 0, 0, 1, 1⟩⟩ W2 (beg_lie xg ⟨by decide, by decide, by decide, by decide, by decide, by decide⟩) ⟨Nat.zero_le _, show (4 : Nat) ≤ 65535 by decide⟩)
  rw [beg_one] at HC1
  dsimp only [ProgD.v, TellF] at HC1
  have XG := hid xg
  have XP := hid xp
  have B2 := hid b2
  have hgp : ¬ g = pb := by omega
  have hwg : w.heap.size ≤ g := by omega
  have HWG := hid hwg
  have EW := hid hW2
  have EG := hid hg
  have EP := hid hpb
  clear hW2 hg hpb b2 xg xp hwg
  go_enter Try.func5, Try.ntmps5
  go_upto_region 2 with fail
  rw [← EW.out, ← EP.out, ← EG.out]
  clear EW EP EG
  have p0 : W2.cell? ⟨pb, 0, none⟩ = some (.int .i64 0) := XP.out.cell 0
  have p1 : W2.cell? ⟨pb, 1, none⟩ = some (.slice none 0 0) := XP.out.cell 1
  have p2 : W2.cell? ⟨pb, 2, none⟩ = some (.slice (some ⟨g, 0, none⟩) 4 4) := XP.out.cell 2
  have hpl := XP.out.lt
  go_wp2_with fail
  refine HC1.out.mono ?_
  rintro e w3 ⟨rfl, hb3⟩
  clear p0 p1 p2 hpl HC1
  obtain ⟨W4, hW4⟩ : ∃ W, W = w3.alloc (.cells #[.int .i64 0, .int .i64 0] 30) := ⟨_, rfl⟩
  obtain ⟨fb, hfb⟩ : ∃ b, b = w3.heap.size := ⟨_, rfl⟩
  have b4 : Below W2.heap.size W2 W4 := by rw [hW4]; exact bl_alloc hb3
  have xf : BoxC W4 fb #[.int .i64 0, .int .i64 0] 30 := by rw [hW4, hfb]; exact boxc_new _ _ _ rfl
  have hfg : ¬ g = fb := by
    have h1 := XG.out.lt
    have h2 := hb3.size
    omega
  have XG4 := hid (XG.out.step b4)
  have XP4 := hid (XP.out.step b4)
  have XF4 := hid xf
  have B4 := hid (bl_step B2.out b4)
  have E4 := hid hW4
  have EF := hid hfb
  clear hW4 hfb b4 xf hb3 XG XP B2
  go_upto_region 3 with fail
  rw [← E4.out, ← EF.out]
  clear E4 EF
  have p2 : W4.cell? ⟨pb, 2, none⟩ = some (.slice (some ⟨g, 0, none⟩) 4 4) := XP4.out.cell 2
  have hpl := XP4.out.lt
  have hgl := XG4.out.lt
  have g6 : W4.cell? ⟨g, 6, none⟩ = some (.int .i64 9) := XG4.out.cell 6
  have g7 : W4.cell? ⟨g, 7, none⟩ = some (.int .i64 0) := XG4.out.cell 7
  have g8 : W4.cell? ⟨g, 8, none⟩ = some (.int .i64 0) := XG4.out.cell 8
  have g9 : W4.cell? ⟨g, 9, none⟩ = some (.int .i64 0) := XG4.out.cell 9
  have g10 : W4.cell? ⟨g, 10, none⟩ = some (.int .i64 1) := XG4.out.cell 10
  have g11 : W4.cell? ⟨g, 11, none⟩ = some (.int .u64 1) := XG4.out.cell 11
  have z6 := XG4.out.fz 6
  have z7 := XG4.out.fz 7
  have z8 := XG4.out.fz 8
  have z9 := XG4.out.fz 9
  have z10 := XG4.out.fz 10
  have z11 := XG4.out.fz 11
  obtain ⟨W5, hW5⟩ : ∃ W, W = (((((W4.setCell ⟨g, 6, none⟩ (.int .i64 1)).setCell ⟨g, 7, none⟩ (.int .i64 2)).setCell ⟨g, 8, none⟩ (.int .i64 0)).setCell ⟨g, 9, none⟩ (.int .i64 0)).setCell ⟨g, 10, none⟩ (.int .i64 0)).setCell ⟨g, 11, none⟩ (.int .u64 0) := ⟨_, rfl⟩
  have xg5 : BoxC W5 g ((begCs ⟨1, 2, 0, 0, 0, 0⟩).flatMap kInsE).toArray 36 := by
    rw [hW5]
    exact (((((XG4.out.put 6 (.int .i64 1)).put 7 (.int .i64 2)).put 8 (.int .i64 0)).put 9 (.int .i64 0)).put 10 (.int .i64 0)).put 11 (.int .u64 0)
  have xp5 : BoxC W5 pb #[.int .i64 0, .slice none 0 0, .slice (some ⟨g, 0, none⟩) 4 4] 25 := by
    rw [hW5]
    exact (((((XP4.out.far hgp _ _).far hgp _ _).far hgp _ _).far hgp _ _).far hgp _ _).far hgp _ _
  have xf5 : BoxC W5 fb #[.int .i64 0, .int .i64 0] 30 := by
    rw [hW5]
    exact (((((XF4.out.far hfg _ _).far hfg _ _).far hfg _ _).far hfg _ _).far hfg _ _).far hfg _ _
  have B5 : Hid (Below w.heap.size w W5) := by
    rw [hW5]
    exact hput1 (hput1 (hput1 (hput1 (hput1 (hput1 B4.out HWG.out _ _) HWG.out _ _) HWG.out _ _) HWG.out _ _) HWG.out _ _) HWG.out _ _
  have HC2 := hid (hcheck ⟨0, ⟨none, 0, 0⟩, [], ⟨some ⟨g, 0, none⟩, 4, 4⟩, begCs ⟨1, 2, 0, 0, 0, 0⟩⟩ W5 (beg_lie xg5 ⟨by decide, by decide, by decide, by decide, by decide, by decide⟩) ⟨Nat.zero_le _, show (4 : Nat) ≤ 65535 by decide⟩)
  rw [beg_two] at HC2
  dsimp only [ProgD.v, TellF] at HC2
  have XP5 := hid xp5
  have XF5 := hid xf5
  have E5 := hid hW5
  clear hW5 xg5 xp5 xf5 XG4 XP4 XF4 B4
  go_upto_region 4 with fail
  rw [← E5.out]
  clear E5 p2 hpl hgl g6 g7 g8 g9 g10 g11 z6 z7 z8 z9 z10 z11
  have p0 : W5.cell? ⟨pb, 0, none⟩ = some (.int .i64 0) := XP5.out.cell 0
  have p1 : W5.cell? ⟨pb, 1, none⟩ = some (.slice none 0 0) := XP5.out.cell 1
  have p2 : W5.cell? ⟨pb, 2, none⟩ = some (.slice (some ⟨g, 0, none⟩) 4 4) := XP5.out.cell 2
  have hpl := XP5.out.lt
  have c0 : W5.cell? ⟨fb, 0, none⟩ = some (.int .i64 0) := XF5.out.cell 0
  have hfl := XF5.out.lt
  go_wp2_with fail
  refine HC2.out.mono ?_
  rintro e w6 ⟨rfl, hb6⟩
  have B6 := hid (bl_step B5.out hb6)
  clear hb6 HC2 p0 p1 p2 hpl c0 hfl
  go_wp2
  go_ret
  exact ⟨rfl, B6.out⟩
end Go.Proofs.Ytjmlkaciibdpaaa
