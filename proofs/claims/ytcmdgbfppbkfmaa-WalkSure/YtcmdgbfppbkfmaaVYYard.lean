/- A plan becomes a yard, by the document: NewYard, as far as a packet's way asks. -/
import Derived.Test.YtcmdgbfppbkfmaaVYParse
import Derived.Test.YtcmdgbfppbkfmaaVYBeg
import Derived.Test.YtcmdgbfppbkfmaaJ5
import Derived.Test.YtcmdgbfppbkfmaaVYCut
namespace Go.Proofs.Ytcmdgbfppbkfmaa
open Go.RowKit

theorem Try.infoStoreP : (Try.prog.info? 76).map (fun i => (i.zero, i.size, i.bytes)) = some (some (.pointer none), 1, 8) := by kernel_rfl

/-- a yard under way: k tables have their stores -/
structure YardAt (d : PlanD) (w : World) (pb yb k : Nat) (ta : Option Addr) (tc : Nat) (L : List Value) (wr : World) : Prop where
  box : YBox d pb wr
  ybox : YBox d yb wr
  c7 : wr.cell? ⟨yb, 7, none⟩ = some (.slice ta k tc)
  f7 : wr.frozen? ⟨yb, 7, none⟩ = false
  own : wr.ownsRow (yb + 1) 76 1 (.slice ta k tc) k L
  wl : w.heap.size ≤ pb
  pl : pb < yb
  bel : Below w.heap.size w wr

theorem YardAt.yl {d : PlanD} {w : World} {pb yb k : Nat} {ta : Option Addr} {tc : Nat} {L : List Value} {wr : World} (h : YardAt d w pb yb k ta tc L wr) : yb < wr.heap.size := World.block_lt_of_cell? _ _ h.c7

theorem YBox.far {d : PlanD} {b : Nat} {w w' : World} (h : YBox d b w) (k : ∀ o v, w.cell? ⟨b, o, none⟩ = some v → o < 7 → w'.cell? ⟨b, o, none⟩ = some v) : YBox d b w' := by
  obtain ⟨h0, h1, h2, h3, h4, h5, h6⟩ := h
  exact ⟨k _ _ h0 (by omega), k _ _ h1 (by omega), k _ _ h2 (by omega), k _ _ h3 (by omega), k _ _ h4 (by omega), k _ _ h5 (by omega), k _ _ h6 (by omega)⟩

theorem YardAt.after {d : PlanD} {w : World} {pb yb k : Nat} {ta : Option Addr} {tc : Nat} {L : List Value} {wr w5 w6 : World} (h : YardAt d w pb yb k ta tc L wr) (hb : Below wr.heap.size wr w5) (hg : w5.grownBy w6 (Value.slice ta k tc).ownBlock) : w6.cell? ⟨yb, 7, none⟩ = some (.slice ta k tc) ∧ w6.frozen? ⟨yb, 7, none⟩ = false ∧ yb < w6.heap.size := by
  have hne : some yb ≠ (Value.slice ta k tc).ownBlock := fun e => by have := (h.own.lt yb e.symm).1; omega
  have hq : yb < w5.heap.size := Nat.lt_of_lt_of_le h.yl hb.size
  exact ⟨hg.cell (cell_keep h.c7 hb) hne, (hg.frozen_far ⟨yb, 7, none⟩ hq hne).trans ((hb.frozen (p := ⟨yb, 7, none⟩) h.yl).trans h.f7), Nat.lt_of_lt_of_le hq hg.size⟩

theorem YardAt.push {d : PlanD} {w : World} {pb yb k : Nat} {ta : Option Addr} {tc : Nat} {L : List Value} {wr w5 w6 : World} (h : YardAt d w pb yb k ta tc L wr) (hb : Below wr.heap.size wr w5) {g cap : Nat} {v : Value}
    (ho : w6.ownsRow (yb + 1) 76 1 (.slice (some ⟨g, 0, none⟩) (k + 1) cap) (k + 1) (L ++ [v])) (hg : w5.grownBy w6 (Value.slice ta k tc).ownBlock) :
    YardAt d w pb yb (k + 1) (some ⟨g, 0, none⟩) cap (L ++ [v]) (w6.setCell ⟨yb, 7, none⟩ (.slice (some ⟨g, 0, none⟩) (k + 1) cap)) := by
  obtain ⟨a1, a2, a3⟩ := h.after hb hg
  have hrow : ∀ r, (Value.slice ta k tc).ownBlock = some r → yb + 1 ≤ r ∧ r < wr.heap.size := h.own.lt
  have lowq : ∀ n, n ≤ yb → some n ≠ (Value.slice ta k tc).ownBlock := fun n hn e => by have := (hrow n e.symm).1; omega
  have hpl := h.pl
  have hwl := h.wl
  refine ⟨h.box.far fun o v hv _ => (World.cell?_setCell_other _ _ _ _ (by intro e; cases e; exact absurd hpl (Nat.lt_irrefl _))).trans (hg.cell (cell_keep hv hb) (lowq pb (by omega))), h.ybox.far fun o v hv ho => (World.cell?_setCell_other _ _ _ _ (by intro e; cases e; exact absurd ho (Nat.lt_irrefl _))).trans (hg.cell (cell_keep hv hb) (lowq yb (Nat.le_refl _))), World.cell?_setCell_same _ _ _ a1, by rw [World.frozen?_setCell]; exact a2, ownsRow_setCell_below ho (a := ⟨yb, 7, none⟩) (Nat.lt_succ_self _) _, h.wl, h.pl, ?_⟩
  refine Below.setCell ((bl_step h.bel hb).grown hg (Nat.le_trans h.bel.size hb.size) ?_) (by show w.heap.size ≤ yb; omega) _
  intro r hr
  have := (hrow r hr).1
  omega

theorem tab_keys {p : PPlan} (h : (chkP p).1 = 0) {i : Nat} (hi : i < p.ts.length) : 1 ≤ (p.ts.getD i PTab.z).ks.length ∧ (p.ts.getD i PTab.z).ks.length ≤ 3 := by
  have hc : tabC p (p.ts.getD i PTab.z) = 0 := (chk_zero h 4 (by decide)).2.2 i hi
  generalize p.ts.getD i PTab.z = t at *
  unfold tabC at hc
  by_cases h1 : 3 < t.ks.length
  · rw [if_pos h1] at hc; exact absurd hc (by decide)
  rw [if_neg h1] at hc
  refine ⟨?_, by omega⟩
  by_cases h2 : (0 : Int) ∈ t.ks.map (fun r => p.width r [])
  · rw [if_pos h2] at hc; exact absurd hc (by decide)
  rw [if_neg h2] at hc
  unfold storeC at hc
  by_cases e1 : isK t.kind = false
  · rw [if_pos e1] at hc; exact absurd hc (by decide)
  rw [if_neg e1] at hc
  by_cases e2 : InC 1 (mostK t.kind) [((t.ks.map (fun r => p.width r [])).length : Int)] = false ∨ InC 1 4 [(t.al.length : Int)] = false
  · rw [if_pos e2] at hc; exact absurd hc (by decide)
  have e3 : InC 1 (mostK t.kind) [((t.ks.map (fun r => p.width r [])).length : Int)] = true := by
    cases h : InC 1 (mostK t.kind) [((t.ks.map (fun r => p.width r [])).length : Int)]
    · exact absurd (.inl h) e2
    · rfl
  unfold InC at e3
  simp at e3
  omega

def YardDone (d : PlanD) (w : World) (e : Ending) (w' : World) : Prop := ∃ yb, e = .returned (.pointer (some ⟨yb, 0, none⟩)) ∧ YBox d yb w' ∧ Below w.heap.size w w'

set_option linter.unusedSimpArgs false in
set_option maxHeartbeats 8000000 in
set_option maxRecDepth 20000 in
theorem newYard_any (d : PlanD) (w : World) (hl : d.lie w) (hc : (chkP d.p).1 = 0) : Calls Try.prog 8 #[d.v] w (YardDone d w) := by
  have HL := hid hl
  have HTL : Hid (d.p.ts.length = d.tabs.n) := by show _ = _; simp [PlanD.p, hl.ts.1]
  have HC := hid hc
  have HT4 : Hid (d.tabs.n ≤ 100) := by
    have h1 : (d.p.ts.length : Int) ≤ mostOf 4 := (chk_zero hc 4 (by decide)).2.1
    have h2 : mostOf 4 ≤ 100 := by decide
    have h3 := HTL.out
    show d.tabs.n ≤ 100
    omega
  obtain ⟨W2, hW⟩ : ∃ W2, W2 = (w.alloc d.box).alloc (.cells #[.slice d.heads.a d.heads.n d.heads.c, .slice d.mta.a d.mta.n d.mta.c, .slice d.states.a d.states.n d.states.c, .slice d.acts.a d.acts.n d.acts.c, .slice d.tabs.a d.tabs.n d.tabs.c, .slice d.nodes.a d.nodes.n d.nodes.c, .slice d.out.a d.out.n d.out.c, .slice none 0 0] 75) := ⟨_, rfl⟩
  obtain ⟨pb, hpb⟩ : ∃ pb, pb = w.heap.size := ⟨_, rfl⟩
  obtain ⟨yb, hyb⟩ : ∃ yb, yb = w.heap.size + 1 := ⟨_, rfl⟩
  have HY0 : Hid (YardAt d w pb yb 0 none 0 [] W2) := by
    have k1 : ∀ (i : Nat) (v : Value), (#[.slice d.heads.a d.heads.n d.heads.c, .slice d.mta.a d.mta.n d.mta.c, .slice d.states.a d.states.n d.states.c, .slice d.acts.a d.acts.n d.acts.c, .slice d.tabs.a d.tabs.n d.tabs.c, .slice d.nodes.a d.nodes.n d.nodes.c, .slice d.out.a d.out.n d.out.c] : Array Value)[i]? = some v → W2.cell? ⟨pb, i, none⟩ = some v := fun i v hv => by
      rw [hW, hpb]
      exact (World.cell?_alloc_past _ _ _ (by simp)).trans ((World.cell?_alloc_at _ _ _ _ rfl).trans hv)
    have k2 : ∀ (i : Nat) (v : Value), (#[.slice d.heads.a d.heads.n d.heads.c, .slice d.mta.a d.mta.n d.mta.c, .slice d.states.a d.states.n d.states.c, .slice d.acts.a d.acts.n d.acts.c, .slice d.tabs.a d.tabs.n d.tabs.c, .slice d.nodes.a d.nodes.n d.nodes.c, .slice d.out.a d.out.n d.out.c, .slice none 0 0] : Array Value)[i]? = some v → W2.cell? ⟨yb, i, none⟩ = some v := fun i v hv => by
      rw [hW, hyb]
      exact (World.cell?_alloc_at _ _ _ _ (by simp)).trans hv
    exact ⟨⟨k1 0 _ rfl, k1 1 _ rfl, k1 2 _ rfl, k1 3 _ rfl, k1 4 _ rfl, k1 5 _ rfl, k1 6 _ rfl⟩, ⟨k2 0 _ rfl, k2 1 _ rfl, k2 2 _ rfl, k2 3 _ rfl, k2 4 _ rfl, k2 5 _ rfl, k2 6 _ rfl⟩, k2 7 _ rfl, by rw [hW, hyb]; exact World.frozen?_alloc_at _ _ _ _ (by simp), World.ownsRow_nil _ _ _ _, by omega, by omega, by rw [hW]; exact bl_alloc (bl_alloc (Below.refl _ _))⟩
  have EW := hid hW
  have EP := hid hpb
  have EY := hid hyb
  clear hl hc hW hpb hyb
  go_enter Try.func8, Try.ntmps8
  go_upto_region 2 with fail
  rw [← EW.out, ← EY.out, ← EP.out]
  clear EW EY EP
  go_wp2
  go_loopw [4] (fun i wr => ∃ (k : Nat) (ta : Option Addr) (tc : Nat) (L : List Value), k ≤ d.tabs.n ∧ i = .int .i64 k ∧ Hid (YardAt d w pb yb k ta tc L wr)) (fun i _ => d.tabs.n - (intOf i).toNat)
  case atStart => exact ⟨0, none, 0, [], Nat.zero_le _, rfl, HY0⟩
  case round =>
    obtain ⟨k, ta, tc, L, hk, rfl, HY⟩ := hrel
    clear HY0
    have HBX := hid HY.out.box
    obtain ⟨z0, z1, z2, z3, z4, z5, z6⟩ := HY.out.box
    obtain ⟨a0, ea0⟩ : ∃ a, d.tabs.a = a := ⟨_, rfl⟩
    have EA0 := hid ea0
    clear ea0
    by_cases hlt : k < d.tabs.n
    · have hki : (k : Int) < (d.tabs.n : Int) := by omega
      obtain ⟨g, off, x, ea, hx, hp⟩ := row_at (HL.out.ts.step TabD.keeps HY.out.bel) hlt
      obtain rfl : a0 = some ⟨g, off, none⟩ := by rw [← EA0.out]; exact ea
      have HIN := hid (kTab.out hp)
      have c0 : wr.cell? ⟨g, off + k * 6, none⟩ = some (.int .i64 x.kind) := kTab.cell hp 0 _ rfl
      have c1 : wr.cell? ⟨g, off + k * 6 + 1, none⟩ = some (.slice x.keys.a x.keys.n x.keys.c) := kTab.cell hp 1 _ rfl
      have c2 : wr.cell? ⟨g, off + k * 6 + 2, none⟩ = some (.slice x.acts.a x.acts.n x.acts.c) := kTab.cell hp 2 _ rfl
      have c3 : wr.cell? ⟨g, off + k * 6 + 3, none⟩ = some (.int .i64 x.cap) := kTab.cell hp 3 _ rfl
      have c4 : wr.cell? ⟨g, off + k * 6 + 4, none⟩ = some (.int .i64 x.dflt) := kTab.cell hp 4 _ rfl
      have c5 : wr.cell? ⟨g, off + k * 6 + 5, none⟩ = some (.slice x.args.a x.args.n x.args.c) := kTab.cell hp 5 _ rfl
      have HKS : Hid (1 ≤ x.ks.length ∧ x.ks.length ≤ 3) := by
        have h1 : k < d.p.ts.length := by rw [HTL.out]; exact hlt
        have h2 := tab_keys HC.out h1
        have h3 : d.p.ts.getD k PTab.z = x.p := by simp [PlanD.p, List.getD_eq_getElem?_getD, List.getElem?_map, hx]
        rw [h3] at h2
        have h4 : x.p.ks.length = x.ks.length := by simp [TabD.p]
        rw [h4] at h2
        exact h2
      have HGL : Hid (g < w.heap.size) := by
        obtain ⟨g', off', x', ea', _, hp'⟩ := row_at HL.out.ts hlt
        obtain ⟨rfl, rfl⟩ : g = g' ∧ off = off' := by rw [ea] at ea'; simpa using ea'
        exact World.block_lt_of_cell? w _ hp'.1.1
      have HLO : Hid (∀ n, n ≤ yb → some n ≠ (Value.slice ta k tc).ownBlock) := fun n hn e => by have := (HY.out.own.lt n e.symm).1; omega
      have HKN : Hid (x.ks.length = x.keys.n) := HIN.out.2.1.1
      have HWO : Hid (∀ w', Below wr.heap.size wr w' → Calls Try.prog 15 #[d.v, x.v] w' (WidthsDone w' (widthsL d x.ks))) := fun w' h => widthsOf_any d x w' ((HL.out.step HY.out.bel).step h) (HIN.out.2.1.step RefD.keeps h) (by have := HKS.out; have := HKN.out; omega)
      have y7 := HY.out.c7
      have yf := HY.out.f7
      have hyl := HY.out.yl
      have HK : Hid (k ≤ 100000) := by have := HT4.out; show k ≤ 100000; omega
      have HKC : Hid (∀ w', Below wr.heap.size wr w' → (w'.cell? ⟨pb, 0, none⟩ = some (.slice d.heads.a d.heads.n d.heads.c) ∧ w'.cell? ⟨pb, 1, none⟩ = some (.slice d.mta.a d.mta.n d.mta.c) ∧ w'.cell? ⟨pb, 2, none⟩ = some (.slice d.states.a d.states.n d.states.c) ∧ w'.cell? ⟨pb, 3, none⟩ = some (.slice d.acts.a d.acts.n d.acts.c) ∧ w'.cell? ⟨pb, 4, none⟩ = some (.slice (some ⟨g, off, none⟩) d.tabs.n d.tabs.c) ∧ w'.cell? ⟨pb, 5, none⟩ = some (.slice d.nodes.a d.nodes.n d.nodes.c) ∧ w'.cell? ⟨pb, 6, none⟩ = some (.slice d.out.a d.out.n d.out.c)) ∧ (w'.cell? ⟨g, off + k * 6, none⟩ = some (.int .i64 x.kind) ∧ w'.cell? ⟨g, off + k * 6 + 1, none⟩ = some (.slice x.keys.a x.keys.n x.keys.c) ∧ w'.cell? ⟨g, off + k * 6 + 2, none⟩ = some (.slice x.acts.a x.acts.n x.acts.c) ∧ w'.cell? ⟨g, off + k * 6 + 3, none⟩ = some (.int .i64 x.cap) ∧ w'.cell? ⟨g, off + k * 6 + 4, none⟩ = some (.int .i64 x.dflt) ∧ w'.cell? ⟨g, off + k * 6 + 5, none⟩ = some (.slice x.args.a x.args.n x.args.c)) ∧ w'.cell? ⟨yb, 7, none⟩ = some (.slice ta k tc)) := fun w' h => by
        rw [EA0.out] at z4
        exact ⟨⟨cell_keep z0 h, cell_keep z1 h, cell_keep z2 h, cell_keep z3 h, cell_keep z4 h, cell_keep z5 h, cell_keep z6 h⟩, ⟨cell_keep c0 h, cell_keep c1 h, cell_keep c2 h, cell_keep c3 h, cell_keep c4 h, cell_keep c5 h⟩, cell_keep y7 h⟩
      rw [EA0.out] at z4
      have HWO2 : Hid (∀ w', Below wr.heap.size wr w' → Calls Try.prog 15 #[.agg #[.slice d.heads.a d.heads.n d.heads.c, .slice d.mta.a d.mta.n d.mta.c, .slice d.states.a d.states.n d.states.c, .slice d.acts.a d.acts.n d.acts.c, .slice (some ⟨g, off, none⟩) d.tabs.n d.tabs.c, .slice d.nodes.a d.nodes.n d.nodes.c, .slice d.out.a d.out.n d.out.c], .agg #[.int .i64 x.kind, .slice x.keys.a x.keys.n x.keys.c, .slice x.acts.a x.acts.n x.acts.c, .int .i64 x.cap, .int .i64 x.dflt, .slice x.args.a x.args.n x.args.c]] w' (WidthsDone w' (widthsL d x.ks))) := fun w' h => by
        have := HWO.out w' h
        unfold PlanD.v TabD.v at this
        rw [EA0.out] at this
        exact this
      clear HWO
      have HNS : Hid (∀ (w' : World) (wa : Option Addr) (wc : Nat), Has .i64 w' wa (widthsL d x.ks).length (widthsL d x.ks) → Calls Try.prog 14 #[x.v, .slice wa (widthsL d x.ks).length wc, .slice d.acts.a d.acts.n d.acts.c] w' fun e w'' => ∃ g, e = .returned (.pointer (some ⟨g, 0, none⟩)) ∧ Below w'.heap.size w' w'') := fun w' wa wc h => newStore_any x.kind x.cap x.dflt x.keys x.acts x.args wa d.acts.a _ wc d.acts.n d.acts.c _ w' h (fun _ => by have := HKS.out; simp [widthsL]; omega) (by have := HKS.out; simp [widthsL]; omega)
      have HB0' : Hid (Below wr.heap.size wr wr.drew) := (Below.refl _ _).drew
      clear ea hx hp
      go_upto_region 5 with fail
      refine wp_region_cut 22 (by kernel_rfl) (by kernel_rfl) ?_
      refine wpAny_of_held (S := fun w' => (w'.cell? ⟨pb, 0, none⟩ = some (.slice d.heads.a d.heads.n d.heads.c) ∧ w'.cell? ⟨pb, 1, none⟩ = some (.slice d.mta.a d.mta.n d.mta.c) ∧ w'.cell? ⟨pb, 2, none⟩ = some (.slice d.states.a d.states.n d.states.c) ∧ w'.cell? ⟨pb, 3, none⟩ = some (.slice d.acts.a d.acts.n d.acts.c) ∧ w'.cell? ⟨pb, 4, none⟩ = some (.slice (some ⟨g, off, none⟩) d.tabs.n d.tabs.c) ∧ w'.cell? ⟨pb, 5, none⟩ = some (.slice d.nodes.a d.nodes.n d.nodes.c) ∧ w'.cell? ⟨pb, 6, none⟩ = some (.slice d.out.a d.out.n d.out.c)) ∧ (w'.cell? ⟨g, off + k * 6, none⟩ = some (.int .i64 x.kind) ∧ w'.cell? ⟨g, off + k * 6 + 1, none⟩ = some (.slice x.keys.a x.keys.n x.keys.c) ∧ w'.cell? ⟨g, off + k * 6 + 2, none⟩ = some (.slice x.acts.a x.acts.n x.acts.c) ∧ w'.cell? ⟨g, off + k * 6 + 3, none⟩ = some (.int .i64 x.cap) ∧ w'.cell? ⟨g, off + k * 6 + 4, none⟩ = some (.int .i64 x.dflt) ∧ w'.cell? ⟨g, off + k * 6 + 5, none⟩ = some (.slice x.args.a x.args.n x.args.c)) ∧ w'.cell? ⟨yb, 7, none⟩ = some (.slice ta k tc)) _ _ _ _ ?_
      have hHeld := HKC.out _ HB0'.out
      clear z0 z1 z2 z3 z4 z5 z6 c0 c1 c2 c3 c4 c5 y7
      refine wpAnyH_take (i := 0) (v := ?_) (drop_at rfl) (by kernel_rfl) (by kernel_rfl) (by kernel_rfl) (fun _ _ _ h => h) (Or.inl ⟨by rfl, ?_⟩) hHeld ?_
      rotate_left
      · intro w0 hSw
        try dsimp only at hSw
        go_simp
        try with_reducible rfl
      simp only [Act.put, List.setIfInBounds_toArray, List.set_cons_zero, List.set_cons_succ]
      refine wpAnyH_take (i := 1) (v := ?_) (drop_at rfl) (by kernel_rfl) (by kernel_rfl) (by kernel_rfl) (fun _ _ _ h => h) (Or.inl ⟨by rfl, ?_⟩) hHeld ?_
      rotate_left
      · intro w0 hSw
        try dsimp only at hSw
        go_simp
        try with_reducible rfl
      simp only [Act.put, List.setIfInBounds_toArray, List.set_cons_zero, List.set_cons_succ]
      refine wpAnyH_take (i := 2) (v := ?_) (drop_at rfl) (by kernel_rfl) (by kernel_rfl) (by kernel_rfl) (fun _ _ _ h => h) (Or.inl ⟨by rfl, ?_⟩) hHeld ?_
      rotate_left
      · intro w0 hSw
        try dsimp only at hSw
        go_simp
        try with_reducible rfl
      simp only [Act.put, List.setIfInBounds_toArray, List.set_cons_zero, List.set_cons_succ]
      refine wpAnyH_take (i := 3) (v := ?_) (drop_at rfl) (by kernel_rfl) (by kernel_rfl) (by kernel_rfl) (fun _ _ _ h => h) (Or.inl ⟨by rfl, ?_⟩) hHeld ?_
      rotate_left
      · intro w0 hSw
        try dsimp only at hSw
        go_simp
        try with_reducible rfl
      simp only [Act.put, List.setIfInBounds_toArray, List.set_cons_zero, List.set_cons_succ]
      refine wpAnyH_take (i := 4) (v := ?_) (drop_at rfl) (by kernel_rfl) (by kernel_rfl) (by kernel_rfl) (fun _ _ _ h => h) (Or.inl ⟨by rfl, ?_⟩) hHeld ?_
      rotate_left
      · intro w0 hSw
        try dsimp only at hSw
        go_simp
        try with_reducible rfl
      simp only [Act.put, List.setIfInBounds_toArray, List.set_cons_zero, List.set_cons_succ]
      refine wpAnyH_take (i := 5) (v := ?_) (drop_at rfl) (by kernel_rfl) (by kernel_rfl) (by kernel_rfl) (fun _ _ _ h => h) (Or.inl ⟨by rfl, ?_⟩) hHeld ?_
      rotate_left
      · intro w0 hSw
        try dsimp only at hSw
        go_simp
        try with_reducible rfl
      simp only [Act.put, List.setIfInBounds_toArray, List.set_cons_zero, List.set_cons_succ]
      refine wpAnyH_take (i := 6) (v := ?_) (drop_at rfl) (by kernel_rfl) (by kernel_rfl) (by kernel_rfl) (fun _ _ _ h => h) (Or.inl ⟨by rfl, ?_⟩) hHeld ?_
      rotate_left
      · intro w0 hSw
        try dsimp only at hSw
        go_simp
        try with_reducible rfl
      simp only [Act.put, List.setIfInBounds_toArray, List.set_cons_zero, List.set_cons_succ]
      refine wpAnyH_take (i := 7) (v := ?_) (drop_at rfl) (by kernel_rfl) (by kernel_rfl) (by kernel_rfl) (fun _ _ _ h => h) (Or.inl ⟨by rfl, ?_⟩) hHeld ?_
      rotate_left
      · intro w0 hSw
        try dsimp only at hSw
        go_simp
        try with_reducible rfl
      simp only [Act.put, List.setIfInBounds_toArray, List.set_cons_zero, List.set_cons_succ]
      refine wpAnyH_take (i := 8) (v := ?_) (drop_at rfl) (by kernel_rfl) (by kernel_rfl) (by kernel_rfl) (fun _ _ _ h => h) (Or.inl ⟨by rfl, ?_⟩) hHeld ?_
      rotate_left
      · intro w0 hSw
        try dsimp only at hSw
        go_simp
        try with_reducible rfl
      simp only [Act.put, List.setIfInBounds_toArray, List.set_cons_zero, List.set_cons_succ]
      refine wpAnyH_take (i := 9) (v := ?_) (drop_at rfl) (by kernel_rfl) (by kernel_rfl) (by kernel_rfl) (fun _ _ _ h => h) (Or.inl ⟨by rfl, ?_⟩) hHeld ?_
      rotate_left
      · intro w0 hSw
        try dsimp only at hSw
        go_simp
        try with_reducible rfl
      simp only [Act.put, List.setIfInBounds_toArray, List.set_cons_zero, List.set_cons_succ]
      refine wpAnyH_take (i := 10) (v := ?_) (drop_at rfl) (by kernel_rfl) (by kernel_rfl) (by kernel_rfl) (fun _ _ _ h => h) (Or.inl ⟨by rfl, ?_⟩) hHeld ?_
      rotate_left
      · intro w0 hSw
        try dsimp only at hSw
        go_simp
        try with_reducible rfl
      simp only [Act.put, List.setIfInBounds_toArray, List.set_cons_zero, List.set_cons_succ]
      refine wpAnyH_take (i := 11) (v := ?_) (drop_at rfl) (by kernel_rfl) (by kernel_rfl) (by kernel_rfl) (fun _ _ _ h => h) (Or.inl ⟨by rfl, ?_⟩) hHeld ?_
      rotate_left
      · intro w0 hSw
        try dsimp only at hSw
        go_simp
        try with_reducible rfl
      simp only [Act.put, List.setIfInBounds_toArray, List.set_cons_zero, List.set_cons_succ]
      refine wpAnyH_take (i := 12) (v := ?_) (drop_at rfl) (by kernel_rfl) (by kernel_rfl) (by kernel_rfl) (fun _ _ _ h => h) (Or.inl ⟨by rfl, ?_⟩) hHeld ?_
      rotate_left
      · intro w0 hSw
        try dsimp only at hSw
        go_simp
        try with_reducible rfl
      simp only [Act.put, List.setIfInBounds_toArray, List.set_cons_zero, List.set_cons_succ]
      refine wpAnyH_take (i := 13) (v := ?_) (drop_at rfl) (by kernel_rfl) (by kernel_rfl) (by kernel_rfl) (fun _ _ _ h => h) (Or.inl ⟨by rfl, ?_⟩) hHeld ?_
      rotate_left
      · intro w0 hSw
        try dsimp only at hSw
        go_simp
        try with_reducible rfl
      simp only [Act.put, List.setIfInBounds_toArray, List.set_cons_zero, List.set_cons_succ]
      refine wpAnyH_take (i := 14) (v := ?_) (drop_at rfl) (by kernel_rfl) (by kernel_rfl) (by kernel_rfl) (fun _ _ _ h => h) (Or.inl ⟨by rfl, ?_⟩) hHeld ?_
      rotate_left
      · intro w0 hSw
        try dsimp only at hSw
        go_simp
        try with_reducible rfl
      simp only [Act.put, List.setIfInBounds_toArray, List.set_cons_zero, List.set_cons_succ]
      refine wpAnyH_take (i := 15) (v := ?_) (drop_at rfl) (by kernel_rfl) (by kernel_rfl) (by kernel_rfl) (fun _ _ _ h => h) (Or.inl ⟨by rfl, ?_⟩) hHeld ?_
      rotate_left
      · intro w0 hSw
        try dsimp only at hSw
        go_simp
        try with_reducible rfl
      simp only [Act.put, List.setIfInBounds_toArray, List.set_cons_zero, List.set_cons_succ]
      refine wpAnyH_take (i := 17) (v := ?_) (drop_at rfl) (by kernel_rfl) (by kernel_rfl) (by kernel_rfl) (fun _ _ _ h => h) (Or.inl ⟨by rfl, ?_⟩) hHeld ?_
      rotate_left
      · intro w0 hSw
        try dsimp only at hSw
        go_simp
        try with_reducible rfl
      simp only [Act.put, List.setIfInBounds_toArray, List.set_cons_zero, List.set_cons_succ]
      refine wpAnyH_take (i := 18) (v := ?_) (drop_at rfl) (by kernel_rfl) (by kernel_rfl) (by kernel_rfl) (fun _ _ _ h => h) (Or.inl ⟨by rfl, ?_⟩) hHeld ?_
      rotate_left
      · intro w0 hSw
        try dsimp only at hSw
        go_simp
        try with_reducible rfl
      simp only [Act.put, List.setIfInBounds_toArray, List.set_cons_zero, List.set_cons_succ]
      refine wpAnyH_ready (rs := [16]) (by kernel_rfl) (by simp) ?_
      refine AllReadyH.cons (drop_at rfl) (fun K hK => ?_) AllReadyH.nil
      go_simp
      go_at_call 15
      refine (HWO2.out _ HB0'.out).mono ?_
      rintro e w5 ⟨wa, wc, rfl, hwn, hws, hb5⟩
      have HB5 := hid (bl_step HB0'.out hb5)
      have HWS := hid hws
      clear hwn hws hb5
      refine hK.out _ _ (HKC.out _ HB5.out) (fun hHeld => ?_)
      clear hK K
      simp only [Act.put, List.setIfInBounds_toArray, List.set_cons_zero, List.set_cons_succ]
      refine wpAnyH_ready (rs := [19]) (by kernel_rfl) (by simp) ?_
      refine AllReadyH.cons (drop_at rfl) (fun K hK => ?_) AllReadyH.nil
      go_simp
      go_at_call 14
      refine (HNS.out _ _ _ HWS.out).mono ?_
      rintro e w6 ⟨sg, rfl, hb6⟩
      have HB6 := hid (bl_step HB5.out hb6)
      clear hb6
      refine hK.out _ _ (HKC.out _ HB6.out) (fun hHeld => ?_)
      clear hK K
      simp only [Act.put, List.setIfInBounds_toArray, List.set_cons_zero, List.set_cons_succ]
      refine wpAnyH_ready (rs := [20]) (by kernel_rfl) (by simp) ?_
      refine AllReadyH.cons (drop_at rfl) (fun K hK => ?_) AllReadyH.nil
      go_simp
      refine hK.out _ _ (HKC.out _ (bl_alloc HB6.out)) (fun hHeld => ?_)
      clear hK K
      simp only [Act.put, List.setIfInBounds_toArray, List.set_cons_zero, List.set_cons_succ]
      refine wpAnyH_ready (rs := [21]) (by kernel_rfl) (by simp) ?_
      refine AllReadyH.cons (drop_at rfl) (fun K hK => ?_) AllReadyH.nil
      refine pushK Try.underlying73 Try.infoStoreP rfl (by decide) (by decide) rfl _ _ rfl (yb + 1) k tc 1 ta L [.pointer (some ⟨sg, 0, none⟩)] ⟨w6.heap.size, 0, none⟩ (by simp [Act.eval]) (by simp [Act.eval]) ((owns_belowK HY.out.own HB6.out).alloc _) rfl (src_one rfl) (by intro u hu; simp only [List.mem_cons, List.not_mem_nil, or_false] at hu; subst hu; rfl) HK.out (by have := HB6.out.size; simp; omega) ?_
      intro g7 cap7 w7 ho7 hg7 hn7
      obtain ⟨y7b, yf7, hp7⟩ := HY.out.after (bl_alloc HB6.out) hg7
      obtain ⟨⟨t0, t1, t2, t3, t4, t5, t6⟩, ⟨s0, s1, s2, s3, s4, s5⟩, s7⟩ := hHeld
      have lp : some pb ≠ (Value.slice ta k tc).ownBlock := HLO.out pb (by have := HY.out.pl; omega)
      have lg : some g ≠ (Value.slice ta k tc).ownBlock := HLO.out g (by have := HY.out.pl; have := HY.out.wl; have := HGL.out; omega)
      refine hK.out _ _ ⟨⟨hg7.cell t0 lp, hg7.cell t1 lp, hg7.cell t2 lp, hg7.cell t3 lp, hg7.cell t4 lp, hg7.cell t5 lp, hg7.cell t6 lp⟩, ⟨hg7.cell s0 lg, hg7.cell s1 lg, hg7.cell s2 lg, hg7.cell s3 lg, hg7.cell s4 lg, hg7.cell s5 lg⟩, y7b⟩ (fun hHeld => ?_)
      clear hK K t0 t1 t2 t3 t4 t5 t6 s0 s1 s2 s3 s4 s5 s7 lp lg hHeld
      simp only [Act.put, List.setIfInBounds_toArray, List.set_cons_zero, List.set_cons_succ]
      have RN : Hid (YardAt d w pb yb (k + 1) (some ⟨g7, 0, none⟩) cap7 (L ++ [.pointer (some ⟨sg, 0, none⟩)]) (w7.setCell ⟨yb, 7, none⟩ (.slice (some ⟨g7, 0, none⟩) (k + 1) cap7))) := HY.out.push (bl_alloc HB6.out) ho7 hg7
      clear ho7 hg7 hn7 yf HY HKC HWO2 HNS HB5 HB6 HWS HB0'
      have h100 : d.tabs.n ≤ 100 := HT4.out
      refine wpAnyH_done (by kernel_rfl) ?_ _
      show wpList _ _ _ _ _ _
      simp only [List.drop_succ_cons, List.drop_zero]
      go_wp2
      go_roundw
      case rel => exact ⟨k + 1, _, _, _, by omega, by go_num, RN⟩
      case measure => simp [intOf]; omega
    · have hki : ¬ (k : Int) < (d.tabs.n : Int) := by omega
      obtain rfl : k = d.tabs.n := by omega
      have HR : Hid (YardDone d w (.returned (.pointer (some ⟨yb, 0, none⟩))) wr) := ⟨yb, rfl, HY.out.ybox, HY.out.bel⟩
      clear HY
      go_wp2
      go_ret
      exact HR.out
end Go.Proofs.Ytcmdgbfppbkfmaa
