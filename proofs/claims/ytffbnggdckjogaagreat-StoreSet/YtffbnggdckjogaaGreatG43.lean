/- Texts of one chain, joined: SBegun. -/
import Derived.Test.YtffbnggdckjogaaGreatG51
import Derived.Test.YtffbnggdckjogaaGreatG42
namespace Go.Proofs.YtffbnggdckjogaaGreat
open Go.RowKit Mth
theorem has_row1 {k : IntKind} (w : World) (T : TypeId) (x : Int) (hx : (Lit.int k x).wf = true) : Has k (w.alloc (.cells #[.int k x] T)) (some ⟨w.heap.size, 0, none⟩) 1 [x] := by
  refine ⟨rfl, fun n hn => by simp only [List.mem_cons, List.not_mem_nil, or_false] at hn; subst hn; exact hx, .inr ⟨w.heap.size, 0, rfl, by simp, fun i hi => ?_⟩⟩
  obtain rfl : i = 0 := by omega
  exact (World.cell?_alloc_at _ _ _ _ rfl).trans rfl
theorem has_row2 {k : IntKind} (w : World) (T : TypeId) (x y : Int) (hx : (Lit.int k x).wf = true) (hy : (Lit.int k y).wf = true) : Has k (w.alloc (.cells #[.int k x, .int k y] T)) (some ⟨w.heap.size, 0, none⟩) 2 [x, y] := by
  refine ⟨rfl, fun n hn => by simp only [List.mem_cons, List.not_mem_nil, or_false] at hn; rcases hn with rfl | rfl <;> assumption, .inr ⟨w.heap.size, 0, rfl, by simp, fun i hi => ?_⟩⟩
  rcases (show i = 0 ∨ i = 1 by omega) with rfl | rfl <;> exact (World.cell?_alloc_at _ _ _ _ rfl).trans rfl
@[reducible] def SBT (g3 : Nat) : TabD := ⟨2, ⟨none, 0, 0⟩, [], ⟨some ⟨g3, 0, none⟩, 2, 2⟩, [0, 1], 2, 0, ⟨none, 0, 0⟩, []⟩
@[reducible] def SBA (g1 : Nat) : List ActD := [⟨⟨none, 0, 0⟩, [], ⟨none, 0, 0⟩, []⟩, ⟨⟨some ⟨g1, 0, none⟩, 1, 1⟩, [8], ⟨none, 0, 0⟩, []⟩]
@[reducible] def SBE : TE := ⟨[128], [], 0, 1, [7]⟩
theorem sb_code (g1 g3 : Nat) : storeC (SBT g3).p [8] ((SBA g1).map ActD.p) = 0 := by
  show storeC ⟨2, [], [0, 1], 2, 0, []⟩ [8] [⟨[], []⟩, ⟨[8], []⟩] = 0
  decide +kernel
theorem sb_says (g1 : Nat) : sayL (SBA g1) [0, 1] = [(0, []), (1, [8])] := rfl
def SBF : FSt := { FSt.none with C := addC FSt.none.C FSt.none.es 8 2 128 1 (1, [7]), es := addE FSt.none.C FSt.none.es 8 2 128 1 }
theorem sb_add {k : FK} (hk : k.kind = 2) (hw : k.wd = 8) (hm : k.most = 2) : stAdd k FSt.none [8] [(0, []), (1, [8])] SBE 1 = (0, SBF) := by
  have h1 : entryC 2 [8] [(0, []), (1, [8])] SBE 1 = 0 := by decide +kernel
  have h2 : addCode FSt.none.C FSt.none.es 8 2 128 1 = 0 := by decide +kernel
  have h3 : key0 SBE = 128 := by decide +kernel
  unfold stAdd
  rw [hk, h1, if_neg (by decide)]
  unfold faceAdd
  rw [if_neg (by rw [hk]; decide), if_pos hk, hw, hm, h3, h2]
  rfl
theorem sb_find {k : FK} (hk : k.kind = 2) (hw : k.wd = 8) : stFind k SBF [8] [255] = some (1, [7]) ∧ stFind k SBF [8] [127] = none := by
  have n1 : Narrow [255] [8] := by decide +kernel
  have n2 : Narrow [127] [8] := by decide +kernel
  have f1 : (foundIn SBF.C 8 255).map Prod.fst = some (1, [7]) := by decide +kernel
  have f2 : (foundIn SBF.C 8 127).map Prod.fst = none := by decide +kernel
  constructor
  · unfold stFind faceFind
    rw [if_pos ⟨rfl, n1⟩, if_neg (by rw [hk]; decide), if_pos hk, hw]
    exact f1
  · unfold stFind faceFind
    rw [if_pos ⟨rfl, n2⟩, if_neg (by rw [hk]; decide), if_pos hk, hw]
    exact f2
theorem sb_lies {w : World} {g1 g2 : Nat} (h0 : w.cell? ⟨g2, 0, none⟩ = some (.slice none 0 0)) (h1 : w.cell? ⟨g2, 1, none⟩ = some (.slice none 0 0)) (h2 : w.cell? ⟨g2, 2, none⟩ = some (.slice (some ⟨g1, 0, none⟩) 1 1)) (h3 : w.cell? ⟨g2, 3, none⟩ = some (.slice none 0 0)) (h8 : Has .i64 w (some ⟨g1, 0, none⟩) 1 [8]) : QRow 2 ActD.lie w ⟨some ⟨g2, 0, none⟩, 2, 2⟩ (SBA g1) := by
  refine ⟨rfl, fun i d hd => ⟨g2, 0, rfl, ?_⟩⟩
  match i, hd with
  | 0, hd =>
    obtain rfl : _ = d := Option.some.inj hd
    exact ⟨⟨h0, fun _ => ⟨rfl, rfl⟩⟩, ⟨h1, fun _ => ⟨rfl, rfl⟩⟩, has_nil _ _, rfl, by simp⟩
  | 1, hd =>
    obtain rfl : _ = d := Option.some.inj hd
    exact ⟨⟨h2, fun e => by cases e⟩, ⟨h3, fun _ => ⟨rfl, rfl⟩⟩, h8, rfl, by simp⟩
set_option maxHeartbeats 4000000 in
set_option maxRecDepth 20000 in
theorem store_begun (w : World) : Calls Tryz.prog 4 #[] w fun e w' => e = .returned (.bool true) ∧ Below w.heap.size w w' := by
  obtain ⟨W1, e1⟩ : ∃ W1, W1 = w.alloc (.cells #[.int .i64 8] 3) := ⟨_, rfl⟩
  obtain ⟨g1, eg1⟩ : ∃ g, g = w.heap.size := ⟨_, rfl⟩
  obtain ⟨W2, e2⟩ : ∃ W2, W2 = W1.alloc (.cells #[.slice none 0 0, .slice none 0 0, .slice (some ⟨g1, 0, none⟩) 1 1, .slice none 0 0] 62) := ⟨_, rfl⟩
  obtain ⟨g2, eg2⟩ : ∃ g, g = W1.heap.size := ⟨_, rfl⟩
  obtain ⟨W3, e3⟩ : ∃ W3, W3 = W2.alloc (.cells #[.int .i64 0, .int .i64 1] 3) := ⟨_, rfl⟩
  obtain ⟨g3, eg3⟩ : ∃ g, g = W2.heap.size := ⟨_, rfl⟩
  obtain ⟨W4, e4⟩ : ∃ W4, W4 = W3.alloc (.cells #[.int .i64 8] 3) := ⟨_, rfl⟩
  obtain ⟨g4, eg4⟩ : ∃ g, g = W3.heap.size := ⟨_, rfl⟩
  have b12 : Below W1.heap.size W1 W2 := by rw [e2]; exact bl_alloc (Below.refl _ _)
  have b23 : Below W2.heap.size W2 W3 := by rw [e3]; exact bl_alloc (Below.refl _ _)
  have b34 : Below W3.heap.size W3 W4 := by rw [e4]; exact bl_alloc (Below.refl _ _)
  have b01 : Below w.heap.size w W1 := by rw [e1]; exact bl_alloc (Below.refl _ _)
  have b24 := bl_step b23 b34
  have b14 := bl_step b12 b24
  have h8 : Has .i64 W4 (some ⟨g1, 0, none⟩) 1 [8] := (by rw [e1, eg1]; exact has_row1 w _ 8 (by decide) : Has .i64 W1 (some ⟨g1, 0, none⟩) 1 [8]).step b14
  have h01 : Has .i64 W4 (some ⟨g3, 0, none⟩) 2 [0, 1] := (by rw [e3, eg3]; exact has_row2 W2 _ 0 1 (by decide) (by decide) : Has .i64 W3 (some ⟨g3, 0, none⟩) 2 [0, 1]).step b34
  have hw8 : Has .i64 W4 (some ⟨g4, 0, none⟩) 1 [8] := by rw [e4, eg4]; exact has_row1 W3 _ 8 (by decide)
  have hcA : ∀ (o : Nat) (v : Value), (#[.slice none 0 0, .slice none 0 0, .slice (some ⟨g1, 0, none⟩) 1 1, .slice none 0 0] : Array Value)[o]? = some v → W4.cell? ⟨g2, o, none⟩ = some v := fun o v hv => cell_keep (by rw [e2, eg2]; exact (World.cell?_alloc_at _ _ _ _ rfl).trans hv) b24
  have hAL : QRow 2 ActD.lie W4 ⟨some ⟨g2, 0, none⟩, 2, 2⟩ (SBA g1) := sb_lies (hcA 0 _ rfl) (hcA 1 _ rfl) (hcA 2 _ rfl) (hcA 3 _ rfl) h8
  have HNW := hid (snew (SBT g3) ⟨some ⟨g4, 0, none⟩, 1, 1⟩ [8] ⟨some ⟨g2, 0, none⟩, 2, 2⟩ (SBA g1) W4 hw8 (fun e => by cases e) (show 1 ≤ 1000 by decide) (show (Lit.int .i64 2).wf = true by decide) h01 (show 2 ≤ 10000 by decide) (has_nil _ _) (fun _ => ⟨rfl, rfl⟩) (show 0 ≤ 1000 by decide) hAL (show 2 ≤ 100000 by decide) (by
    intro x hx
    simp only [List.mem_cons, List.not_mem_nil, or_false] at hx
    rcases hx with rfl | rfl
    · show 0 ≤ 100000; decide
    · show 1 ≤ 100000; decide))
  have HB4 := hid (bl_step (bl_step b01 b12) b24)
  have E4 : Hid (W4 = (((w.alloc (.cells #[.int .i64 8] 3)).alloc (.cells #[.slice none 0 0, .slice none 0 0, .slice (some ⟨w.heap.size, 0, none⟩) 1 1, .slice none 0 0] 62)).alloc (.cells #[.int .i64 0, .int .i64 1] 3)).alloc (.cells #[.int .i64 8] 3)) := by show W4 = _; rw [e4, e3, e2, e1, eg1]
  have G2 : Hid (g2 = w.heap.size + 1) := by show g2 = _; rw [eg2, e1]; simp
  have G3 : Hid (g3 = w.heap.size + 2) := by show g3 = _; rw [eg3, e2, e1]; simp
  have G4 : Hid (g4 = w.heap.size + 3) := by show g4 = _; rw [eg4, e3, e2, e1]; simp
  have SC := hid (sb_code g1 g3)
  have SS := hid (sb_says g1)
  clear e1 e2 e3 e4 eg1 eg2 eg3 eg4 b12 b23 b34 b01 b24 b14 h8 h01 hw8 hcA hAL
  go_enter Tryz.func4, Tryz.ntmps4
  go_wp2_with fail
  rw [← E4.out, ← G4.out, ← G3.out, ← G2.out]
  refine HNW.out.mono ?_
  rintro e w5 ⟨hb5, hN⟩
  rcases hN with ⟨hN, _⟩ | ⟨_, s, k, N, X, rfl, st, nf, hkB, hsB, -, -, -⟩
  · exact absurd SC.out hN
  rw [SS.out] at st
  have hk : k.kind = 2 := nf.kind
  have hwd : k.wd = 8 := (nf.wd rfl).1
  have hmo : k.most = 2 := (nf.wd rfl).2
  have SA := hid (sb_add hk hwd hmo)
  have SF := hid (sb_find hk hwd)
  have HB5 := hid (bl_step HB4.out hb5)
  have HST := hid st
  have HSB : Hid (w.heap.size ≤ k.B ∧ w.heap.size ≤ s) := ⟨Nat.le_trans HB4.out.size hkB, Nat.le_trans HB4.out.size hsB⟩
  clear HNW E4 G2 G3 G4 SC SS hb5 st nf hkB hsB hk hwd hmo HB4
  -- the entry
  obtain ⟨W6, e6⟩ : ∃ W6, W6 = ((w5.alloc (.cells #[.int .i64 0, .int .i64 0] 34)).alloc (.cells #[.int .u64 128] 63)).alloc (.cells #[.int .u64 7] 63) := ⟨_, rfl⟩
  obtain ⟨h1, eh1⟩ : ∃ g, g = w5.heap.size + 1 := ⟨_, rfl⟩
  obtain ⟨h2, eh2⟩ : ∃ g, g = w5.heap.size + 2 := ⟨_, rfl⟩
  have b56 : Below w5.heap.size w5 W6 := by rw [e6]; exact bl_alloc (bl_alloc (bl_alloc (Below.refl _ _)))
  have hk1 : Has .u64 W6 (some ⟨h1, 0, none⟩) 1 [128] := by
    have := (has_row1 (k := .u64) (w5.alloc (.cells #[.int .i64 0, .int .i64 0] 34)) 63 128 (by decide)).alloc (o := .cells #[.int .u64 7] 63)
    rw [← e6, show (w5.alloc (.cells #[.int .i64 0, .int .i64 0] 34)).heap.size = h1 by rw [eh1]; simp] at this
    exact this
  have hk2 : Has .u64 W6 (some ⟨h2, 0, none⟩) 1 [7] := by
    have := has_row1 (k := .u64) ((w5.alloc (.cells #[.int .i64 0, .int .i64 0] 34)).alloc (.cells #[.int .u64 128] 63)) 63 7 (by decide)
    rw [← e6, show ((w5.alloc (.cells #[.int .i64 0, .int .i64 0] 34)).alloc (.cells #[.int .u64 128] 63)).heap.size = h2 by rw [eh2]; simp] at this
    exact this
  have hgood : (⟨some ⟨h1, 0, none⟩, 1, 1, none, 0, 0, 1, 0, 1, some ⟨h2, 0, none⟩, 1, 1⟩ : MD).good W6 SBE := ⟨(fun e => by cases e), (show 1 ≤ 1000 by decide), hk1, (fun _ => ⟨rfl, rfl⟩), (show 0 ≤ 1000 by decide), has_nil _ _, rfl, rfl, (fun e => by cases e), (show 1 ≤ 1000 by decide), hk2⟩
  have HAD := hid (st_add (HST.out.step b56) hgood)
  rw [SA.out] at HAD
  have HB6 := hid (bl_step HB5.out b56)
  have E6 := hid e6
  have H1 := hid eh1
  have H2 := hid eh2
  clear e6 eh1 eh2 b56 hk1 hk2 hgood HB5 HST SA
  dsimp only
  go_upto_region 5 with fail
  go_wp2_with fail
  rw [← E6.out, ← H2.out, ← H1.out]
  refine HAD.out.mono ?_
  rintro e w7 ⟨rfl, st7, hbB, -⟩
  have HB7 : Hid (Below w.heap.size w w7) := HB6.out.trans (hbB.mono HSB.out.1)
  clear HAD E6 H1 H2 hbB HB6
  obtain ⟨W8, e8⟩ : ∃ W8, W8 = w7.alloc (.cells #[.int .u64 255] 63) := ⟨_, rfl⟩
  obtain ⟨h3, eh3⟩ : ∃ g, g = w7.heap.size := ⟨_, rfl⟩
  have b78 : Below w7.heap.size w7 W8 := by rw [e8]; exact bl_alloc (Below.refl _ _)
  have HF1 := hid (st_find (c := 1) (st7.step b78) (by rw [e8]; exact has_row1 w7 63 255 (by decide) : Has .u64 W8 (some ⟨w7.heap.size, 0, none⟩) 1 [255]) (by decide))
  rw [SF.out.1, ← eh3] at HF1
  have HS8 := hid (st7.step b78)
  have HB8 := hid (bl_step HB7.out b78)
  have E8 := hid e8
  have H3 := hid eh3
  clear e8 eh3 b78 st7 HB7
  dsimp only
  go_upto_region 6 with fail
  go_wp2_with fail
  rw [← E8.out, ← H3.out]
  refine HF1.out.mono ?_
  rintro e w9 ⟨v, rfl, ⟨a9, n9, c9, rfl, -, -, -⟩, hb9⟩
  clear HF1 E8 H3
  obtain ⟨W10, e10⟩ : ∃ W10, W10 = (w9.alloc (.cells #[.int .i64 1, .slice a9 n9 c9] 50)).alloc (.cells #[.int .u64 127] 63) := ⟨_, rfl⟩
  obtain ⟨h4, eh4⟩ : ∃ g, g = w9.heap.size + 1 := ⟨_, rfl⟩
  obtain ⟨h5, eh5⟩ : ∃ g, g = w9.heap.size := ⟨_, rfl⟩
  have b910 : Below w9.heap.size w9 W10 := by rw [e10]; exact bl_alloc (bl_alloc (Below.refl _ _))
  have hq : Has .u64 W10 (some ⟨h4, 0, none⟩) 1 [127] := by
    have := has_row1 (k := .u64) (w9.alloc (.cells #[.int .i64 1, .slice a9 n9 c9] 50)) 63 127 (by decide)
    rw [← e10, show (w9.alloc (.cells #[.int .i64 1, .slice a9 n9 c9] 50)).heap.size = h4 by rw [eh4]; simp] at this
    exact this
  have x0 : W10.cell? ⟨h5, 0, none⟩ = some (.int .i64 1) := by rw [e10, eh5]; exact (World.cell?_alloc_past _ _ _ (by simp)).trans ((World.cell?_alloc_at _ _ _ _ rfl).trans rfl)
  have HF2 := hid (st_find (c := 1) ((HS8.out.step hb9).step b910) hq (by decide))
  rw [SF.out.2] at HF2
  have HX0 := hid x0
  have HB10 := hid (bl_step (bl_step HB8.out hb9) b910)
  have E10 := hid e10
  have H4 := hid eh4
  have H5 := hid eh5
  clear e10 eh4 eh5 b910 hq hb9 HB8 HS8 SF x0
  dsimp only [Option.isSome]
  go_upto_region 7 with fail
  go_wp2_with fail
  rw [← E10.out, ← H4.out, ← H5.out]
  refine HF2.out.mono ?_
  rintro e w11 ⟨v, rfl, ⟨a11, n11, c11, rfl, -, -, -⟩, hb11⟩
  have x0 := cell_keep HX0.out hb11
  have HB11 := hid (bl_step HB10.out hb11)
  have hx5 : h5 < w11.heap.size := World.block_lt_of_cell? _ _ x0
  clear HF2 E10 H4 H5 hb11 HB10 HX0
  dsimp only [Option.isSome]
  go_wp2
  go_ret
  exact ⟨rfl, bl_alloc HB11.out⟩
end Go.Proofs.YtffbnggdckjogaaGreat
