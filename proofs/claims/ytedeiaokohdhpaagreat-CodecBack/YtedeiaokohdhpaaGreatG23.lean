/- Texts of one chain, joined: QDup1, ZSumB, ZWr1. -/
import Derived.Test.YtedeiaokohdhpaaGreatG18
import Derived.Test.YtedeiaokohdhpaaGreatG19
import Derived.Deep.RegionHeld3
import Derived.Test.YtedeiaokohdhpaaGreatG22
import Derived.Deep.OwnRows
import Derived.Test.YtedeiaokohdhpaaGreatG14
namespace Go.Proofs.YtedeiaokohdhpaaGreat
open Go.RowKit
theorem src_of {w : World} {cs : List Value} {T : TypeId} : ∀ j u, cs[j]? = some u → (w.alloc (.cells cs.toArray T)).cell? ((⟨w.heap.size, 0, none⟩ : Addr).add j) = some u := by
  intro j u h
  rw [Addr.add_lit, Nat.zero_add, World.cell?_alloc_at _ _ _ _ rfl]
  simpa using h
structure Turn (wr w5 w7 : World) (po g : Nat) (row : Option Nat) (F : Nat → Prop) : Prop where
  hb : Below wr.heap.size wr w5
  os : w7.os = w5.os
  tape : w7.tape = w5.tape
  output : w7.output = w5.output
  size : w5.heap.size ≤ w7.heap.size
  blk : ∀ k, k < w5.heap.size → k ≠ po → some k ≠ row → w7.heap[k]? = w5.heap[k]?
  fpo : F po
  frow : ∀ b, row = some b → F b
  flt : ∀ k, F k → k < wr.heap.size
  new : row = some g ∨ w5.heap.size ≤ g
abbrev fmore (F : Nat → Prop) (g : Nat) : Nat → Prop := fun b => F b ∨ b = g
theorem Turn.mask {wr w5 w7 : World} {po g : Nat} {row : Option Nat} {F : Nat → Prop} (h : Turn wr w5 w7 po g row F) : Below (mask F (fun _ => Classical.propDecidable _) wr).heap.size (mask F (fun _ => Classical.propDecidable _) wr) (mask (fmore F g) (fun _ => Classical.propDecidable _) w7) := by
  refine mask_below (h.os.trans h.hb.os) (h.tape.trans h.hb.tape) (h.output.trans h.hb.output) (Nat.le_trans h.hb.size h.size) (fun _ h => .inl h) fun k hk hF => ?_
  have h5 := h.hb.size
  refine ⟨fun hk' => ?_, ?_⟩
  · rcases hk' with hk' | rfl
    · exact hF hk'
    · rcases h.new with hn | hn
      · exact hF (h.frow _ hn)
      · omega
  · rw [h.blk k (by omega) (fun e => hF (e ▸ h.fpo)) (fun e => hF (h.frow k e.symm)), h.hb.block k hk]
theorem Turn.fresh {wr w5 w7 W : World} {po g : Nat} {row : Option Nat} {F : Nat → Prop} (h : Turn wr w5 w7 po g row F) (hW : wr.heap.size ≤ W.heap.size) {α : Type} (K : Kd α) {x : α} (hi : K.inn x (Go.Proofs.YtedeiaokohdhpaaGreat.mask (old W) (fun _ => Classical.propDecidable _) w5)) : K.inn x (Go.Proofs.YtedeiaokohdhpaaGreat.mask (fmore F g) (fun _ => Classical.propDecidable _) w7) := by
  have h1 : Below (Go.Proofs.YtedeiaokohdhpaaGreat.mask (old W) (fun _ => Classical.propDecidable _) w5).heap.size (Go.Proofs.YtedeiaokohdhpaaGreat.mask (old W) (fun _ => Classical.propDecidable _) w5) (Go.Proofs.YtedeiaokohdhpaaGreat.mask (fmore (old W) g) (fun _ => Classical.propDecidable _) w7) := by
    refine mask_below h.os h.tape h.output h.size (fun _ h => .inl h) fun k hk hF => ?_
    have hk' : ¬ k < W.heap.size := hF
    have hpo := h.flt _ h.fpo
    refine ⟨fun hg => ?_, h.blk k hk (by omega) (fun e => by have := h.flt _ (h.frow k e.symm); omega)⟩
    rcases hg with hg | rfl
    · exact hF hg
    · rcases h.new with hn | hn
      · have := h.flt _ (h.frow _ hn); omega
      · omega
  refine K.cov (K.step hi h1) (cov_less _ fun b hb => ?_)
  rcases hb with hb | hb
  · exact .inl (by have := h.flt _ hb; show b < W.heap.size; omega)
  · exact .inr hb
theorem keep_row {wr w5 w6 : World} {B n n' k k' po j : Nat} {T T' : TypeId} {v v' u : Value} {xs xs' : List Value} (h : wr.ownsRow B T k v n xs) (h' : wr.ownsRow B T' k' v' n' xs') (ht : T ≠ T') (hb : Below wr.heap.size wr w5) (hg : w5.grownBy w6 v'.ownBlock) (hp : po < B) : (w6.setCell ⟨po, j, none⟩ u).ownsRow B T k v n xs := by
  have h5 := owns_belowK h hb
  have h5' := owns_belowK h' hb
  exact ownsRow_setCell_below (h5.kept hg (own_types h5 h5' ht)) (a := ⟨po, j, none⟩) hp u
structure OutAt (w W2 : World) (po : Nat) (F : Nat → Prop) (X : PlanD) (wr : World) : Prop where
  c0 : wr.cell? ⟨po, 0, none⟩ = some (.slice X.heads.a X.heads.n X.heads.c)
  c1 : wr.cell? ⟨po, 1, none⟩ = some (.slice X.mta.a X.mta.n X.mta.c)
  c2 : wr.cell? ⟨po, 2, none⟩ = some (.slice X.states.a X.states.n X.states.c)
  c3 : wr.cell? ⟨po, 3, none⟩ = some (.slice X.acts.a X.acts.n X.acts.c)
  c4 : wr.cell? ⟨po, 4, none⟩ = some (.slice X.tabs.a X.tabs.n X.tabs.c)
  c5 : wr.cell? ⟨po, 5, none⟩ = some (.slice X.nodes.a X.nodes.n X.nodes.c)
  c6 : wr.cell? ⟨po, 6, none⟩ = some (.slice X.out.a X.out.n X.out.c)
  fz : ∀ i, wr.frozen? ⟨po, i, none⟩ = false
  ph : w.heap.size + 2 ≤ po
  pl : po < wr.heap.size
  own0 : wr.ownsRow (po + 1) 53 kHead.k (.slice X.heads.a X.heads.n X.heads.c) X.heads.n (X.hs.flatMap kHead.cells)
  inn0 : ∀ x ∈ X.hs, kHead.inn x (mask F (fun _ => Classical.propDecidable _) wr)
  blk0 : ∀ b, (Value.slice X.heads.a X.heads.n X.heads.c).ownBlock = some b → F b
  own2 : wr.ownsRow (po + 1) 51 kState.k (.slice X.states.a X.states.n X.states.c) X.states.n (X.ss.flatMap kState.cells)
  inn2 : ∀ x ∈ X.ss, kState.inn x (mask F (fun _ => Classical.propDecidable _) wr)
  blk2 : ∀ b, (Value.slice X.states.a X.states.n X.states.c).ownBlock = some b → F b
  own3 : wr.ownsRow (po + 1) 56 kAct.k (.slice X.acts.a X.acts.n X.acts.c) X.acts.n (X.al.flatMap kAct.cells)
  inn3 : ∀ x ∈ X.al, kAct.inn x (mask F (fun _ => Classical.propDecidable _) wr)
  blk3 : ∀ b, (Value.slice X.acts.a X.acts.n X.acts.c).ownBlock = some b → F b
  own4 : wr.ownsRow (po + 1) 63 kTab.k (.slice X.tabs.a X.tabs.n X.tabs.c) X.tabs.n (X.ts.flatMap kTab.cells)
  inn4 : ∀ x ∈ X.ts, kTab.inn x (mask F (fun _ => Classical.propDecidable _) wr)
  blk4 : ∀ b, (Value.slice X.tabs.a X.tabs.n X.tabs.c).ownBlock = some b → F b
  own5 : wr.ownsRow (po + 1) 65 kNode.k (.slice X.nodes.a X.nodes.n X.nodes.c) X.nodes.n (X.ns.flatMap kNode.cells)
  inn5 : ∀ x ∈ X.ns, kNode.inn x (mask F (fun _ => Classical.propDecidable _) wr)
  blk5 : ∀ b, (Value.slice X.nodes.a X.nodes.n X.nodes.c).ownBlock = some b → F b
  ms : QRow kInt.k kInt.lie (mask F (fun _ => Classical.propDecidable _) wr) X.mta X.ms
  ms0 : X.mta.nil0
  os : QRow kInt.k kInt.lie (mask F (fun _ => Classical.propDecidable _) wr) X.out X.os
  os0 : X.out.nil0
  oc : X.out.n ≤ X.out.c
  fpo : F po
  fold : ∀ b, b < w.heap.size + 2 → F b
  flt : ∀ k, F k → k < wr.heap.size
  bel : Below (w.heap.size + 2) W2 wr
theorem turn_of {w W2 wr w5 w6 : World} {po g : Nat} {F : Nat → Prop} {X : PlanD} {v u : Value} {j : Nat} (h : OutAt w W2 po F X wr) (hb : Below wr.heap.size wr w5) (hg : w5.grownBy w6 v.ownBlock) (hrow : ∀ b, v.ownBlock = some b → F b) (hnew : v.ownBlock = some g ∨ w5.heap.size ≤ g) : Turn wr w5 (w6.setCell ⟨po, j, none⟩ u) po g v.ownBlock F :=
  ⟨hb, hg.os, hg.tape, hg.output, by rw [World.size_setCell]; exact hg.size, fun k hk h1 h2 => (Below.heap_setCell _ _ _ _ h1).trans (hg.block k hk h2), h.fpo, hrow, h.flt, hnew⟩
theorem OutAt.push4 {w W2 wr w5 w6 W : World} {po g cap' : Nat} {F : Nat → Prop} {X : PlanD} {x' : TabD} (h : OutAt w W2 po F X wr) (hb : Below wr.heap.size wr w5) (hW : wr.heap.size ≤ W.heap.size) (hin : kTab.inn x' (mask (old W) (fun _ => Classical.propDecidable _) w5))
    (ho : w6.ownsRow (po + 1) 63 kTab.k (.slice (some ⟨g, 0, none⟩) (X.tabs.n + 1) cap') (X.tabs.n + 1) (X.ts.flatMap kTab.cells ++ kTab.cells x')) (hg : w5.grownBy w6 (Value.slice X.tabs.a X.tabs.n X.tabs.c).ownBlock) (hnew : X.tabs.a = some ⟨g, 0, none⟩ ∨ w5.heap.size ≤ g) :
    OutAt w W2 po (fmore F g) { X with tabs := ⟨some ⟨g, 0, none⟩, X.tabs.n + 1, cap'⟩, ts := X.ts ++ [x'] } (w6.setCell ⟨po, 4, none⟩ (.slice (some ⟨g, 0, none⟩) (X.tabs.n + 1) cap')) := by
  have hT := turn_of (g := g) (u := .slice (some ⟨g, 0, none⟩) (X.tabs.n + 1) cap') (j := 4) (v := .slice X.tabs.a X.tabs.n X.tabs.c) h hb hg h.blk4 (hnew.elim (fun e => .inl (by rw [e]; rfl)) .inr)
  have hM := hT.mask
  have hpr : some po ≠ (Value.slice X.tabs.a X.tabs.n X.tabs.c).ownBlock := fun e => by have := (h.own4.lt po e.symm).1; omega
  have hpl := h.pl
  have cell : ∀ {o : Nat} {x : Value}, wr.cell? ⟨po, o, none⟩ = some x → w6.cell? ⟨po, o, none⟩ = some x := fun hx => hg.cell (cell_keep hx hb) hpr
  have other : ∀ {o : Nat} {x : Value}, o ≠ 4 → wr.cell? ⟨po, o, none⟩ = some x → (w6.setCell ⟨po, 4, none⟩ (.slice (some ⟨g, 0, none⟩) (X.tabs.n + 1) cap')).cell? ⟨po, o, none⟩ = some x := fun hne hx => (World.cell?_setCell_other _ _ _ _ (fun e => hne (congrArg Addr.off e).symm)).trans (cell hx)
  have hs5 := hb.size
  have hs6 := hg.size
  have hgl := (ho.lt g rfl)
  exact {
    c0 := other (by decide) h.c0
    c1 := other (by decide) h.c1
    c2 := other (by decide) h.c2
    c3 := other (by decide) h.c3
    c4 := World.cell?_setCell_same _ _ _ (cell h.c4)
    c5 := other (by decide) h.c5
    c6 := other (by decide) h.c6
    fz := fun o => by rw [World.frozen?_setCell, hg.frozen_far ⟨po, o, none⟩ (by show po < _; omega) hpr, hb.frozen (p := ⟨po, o, none⟩) (by show po < _; omega)]; exact h.fz o
    ph := h.ph
    pl := by rw [World.size_setCell]; omega
    own0 := keep_row h.own0 h.own4 (by decide) hb hg (Nat.lt_succ_self _)
    inn0 := fun x hx => kHead.step (h.inn0 x hx) hM
    blk0 := fun b hb => .inl (h.blk0 b hb)
    own2 := keep_row h.own2 h.own4 (by decide) hb hg (Nat.lt_succ_self _)
    inn2 := fun x hx => kState.step (h.inn2 x hx) hM
    blk2 := fun b hb => .inl (h.blk2 b hb)
    own3 := keep_row h.own3 h.own4 (by decide) hb hg (Nat.lt_succ_self _)
    inn3 := fun x hx => kAct.step (h.inn3 x hx) hM
    blk3 := fun b hb => .inl (h.blk3 b hb)
    own4 := by
      have := ownsRow_setCell_below ho (a := ⟨po, 4, none⟩) (Nat.lt_succ_self _) (.slice (some ⟨g, 0, none⟩) (X.tabs.n + 1) cap')
      rw [show (X.ts ++ [x']).flatMap kTab.cells = X.ts.flatMap kTab.cells ++ kTab.cells x' by simp]
      exact this
    inn4 := fun x hx => by
      rcases List.mem_append.1 hx with hx | hx
      · exact kTab.step (h.inn4 x hx) hM
      · simp only [List.mem_cons, List.not_mem_nil, or_false] at hx
        rw [hx]
        exact hT.fresh hW kTab hin
    blk4 := fun b hb => .inr (Option.some.inj hb).symm
    own5 := keep_row h.own5 h.own4 (by decide) hb hg (Nat.lt_succ_self _)
    inn5 := fun x hx => kNode.step (h.inn5 x hx) hM
    blk5 := fun b hb => .inl (h.blk5 b hb)
    ms := h.ms.step (Kd.keeps kInt) hM
    ms0 := h.ms0
    os := h.os.step (Kd.keeps kInt) hM
    os0 := h.os0
    oc := h.oc
    fpo := .inl h.fpo
    fold := fun b hb => .inl (h.fold b hb)
    flt := fun k hk => by
      rw [World.size_setCell]
      rcases hk with hk | rfl
      · have := h.flt k hk; omega
      · exact hgl.2
    bel := by
      have := h.ph
      refine Below.setCell ?_ (by show w.heap.size + 2 ≤ po; omega) _
      refine (h.bel.trans (hb.mono (by omega))).grown hg (by omega) fun k hk => ?_
      have := (h.own4.lt k hk).1
      omega }
end Go.Proofs.YtedeiaokohdhpaaGreat

namespace Go.Proofs.YtedeiaokohdhpaaGreat
open Go.RowKit
theorem four_take (s j : Nat) (hj : j < 4) : (Mth.four s).take (j + 1) = (Mth.four s).take j ++ [((s / 256 ^ j % 256 : Nat) : Int)] := by
  rcases (show j = 0 ∨ j = 1 ∨ j = 2 ∨ j = 3 by omega) with rfl | rfl | rfl | rfl <;> simp [Mth.four]
theorem four_byt (s : Nat) : Mth.Byt (Mth.four s) := by
  intro x hx
  simp only [Mth.four, List.mem_cons, List.not_mem_nil, or_false] at hx
  rcases hx with rfl | rfl | rfl | rfl <;> omega
theorem bytes_byt {zs : List Int} (h : Mth.Byt zs) : Mth.Bytes zs := fun i => by
  by_cases hi : i < zs.length
  · rw [List.getD_eq_getElem?_getD, List.getElem?_eq_getElem hi, Option.getD_some]
    exact h _ (List.getElem_mem hi)
  · simp [List.getD_eq_getElem?_getD, List.getElem?_eq_none (Nat.le_of_not_lt hi)]
theorem wrap8 (s : Nat) : IntKind.u8.wrap (s : Int) = ((s % 256 : Nat) : Int) := by
  simp [IntKind.wrap, IntKind.bits, IntKind.signed]
def SumDone (w : World) (zs : List Int) (e : Ending) (w' : World) : Prop := ∃ a c, e = .returned (.slice a 4 c) ∧ Has .u8 w' a 4 (Mth.four (Mth.crc zs)) ∧ Below w.heap.size w w'
set_option maxHeartbeats 4000000 in
set_option maxRecDepth 20000 in
theorem sumBytes_any (a : Option Addr) (n c : Nat) (zs : List Int) (w : World) (hn : n ≤ 10000000) (hz : Has .u8 w a n zs) :
    Calls Tryz.prog 21 #[.slice a n c] w (SumDone w zs) := by
  have HS := hid (sum_any a n c zs w hn hz)
  have hlt := Mth.crc_lt zs
  have HD : Hid (∀ a c w', Has .u8 w' a 4 (Mth.four (Mth.crc zs)) → Below w.heap.size w w' → SumDone w zs (.returned (.slice a 4 c)) w') := fun a c w' h1 h2 => ⟨a, c, rfl, h1, h2⟩
  generalize Mth.crc zs = s at *
  clear hz hn
  go_enter Tryz.func21, Tryz.ntmps21
  go_wp2_with fail
  refine HS.out.mono ?_
  rintro e w1 ⟨rfl, rfl⟩
  clear HS
  go_wp2
  go_loopw [7, 3, 4] (fun q t o wr => ∃ (j : Nat) (oa : Option Addr) (oc : Nat), j ≤ 4 ∧ q = .int .i64 j ∧ t = .int .u32 ((s / 256 ^ j : Nat) : Int) ∧ o = .slice oa j oc ∧ Hid (wr.ownsRow w1.heap.size 5 1 (.slice oa j oc) j (BB ((Mth.four s).take j))) ∧ Hid (Below w1.heap.size w1 wr)) (fun q _ _ _ => 4 - (intOf q).toNat)
  case atStart => exact ⟨0, none, 0, Nat.zero_le _, rfl, by simp, rfl, World.ownsRow_nil _ _ _ _, Below.refl _ _⟩
  case round =>
    obtain ⟨j, oa, oc, hj, rfl, rfl, rfl, HO, HB⟩ := hrel
    by_cases hlj : j < 4
    · have hji : (j : Int) < 4 := by omega
      have HTK := hid (four_take s j hlj)
      have hdiv : s / 256 ^ (j + 1) = s / 256 ^ j / 256 := by rw [Nat.pow_succ, Nat.div_div_eq_div_mul]
      have HDV := hid hdiv
      have hr : s / 256 ^ j < 4294967296 := Nat.lt_of_le_of_lt (Nat.div_le_self _ _) hlt
      generalize s / 256 ^ j = r at *
      have hw8 := wrap8 r
      have BB1 : Hid (Below wr.heap.size wr (wr.alloc (.cells #[.int .u8 ((r % 256 : Nat) : Int)] 5))) := bl_alloc (Below.refl _ _)
      obtain ⟨g6, cap6, w6, hrun6, ho6, hg6, hn6⟩ := run_appK (w := wr.alloc (.cells #[.int .u8 ((r % 256 : Nat) : Int)] 5)) (ad := ⟨wr.heap.size, 0, none⟩) (m := 1) (c := 1) (news := [.int .u8 ((r % 256 : Nat) : Int)]) 30 Tryz.underlying30 Tryz.info5 rfl (by decide) (owns_belowK HO.out BB1.out) rfl src_of (by intro u hu; simp only [List.mem_cons, List.not_mem_nil, or_false] at hu; subst hu; rfl) (by decide) (by unfold maxLen; omega) (by omega) (by have := HB.out.size; have := BB1.out.size; omega)
      have RN : Hid (w6.ownsRow w1.heap.size 5 1 (.slice (some ⟨g6, 0, none⟩) (j + 1) cap6) (j + 1) (BB ((Mth.four s).take (j + 1)))) := by
        rw [HTK.out]
        show w6.ownsRow w1.heap.size 5 1 (.slice (some ⟨g6, 0, none⟩) (j + 1) cap6) (j + 1) (BB ((Mth.four s).take j ++ [((r % 256 : Nat) : Int)]))
        rw [show BB ((Mth.four s).take j ++ [((r % 256 : Nat) : Int)]) = BB ((Mth.four s).take j) ++ [.int .u8 ((r % 256 : Nat) : Int)] by simp [BB]]
        exact ho6
      have RB : Hid (Below w1.heap.size w1 w6) := (bl_alloc HB.out).grown hg6 (Nat.le_trans HB.out.size BB1.out.size) fun k hk => (HO.out.lt k hk).1
      clear ho6 hg6 hn6 HO HB BB1 HTK hdiv
      go_wp2_with (at_builtin; refine append_run rfl _ _ rfl rfl rfl hrun6 ?_)
      go_roundw
      case rel => exact ⟨j + 1, _, _, by omega, by go_num, vint (by rw [HDV.out]; omega), rfl, RN, RB⟩
      case measure => simp [intOf]; omega
    · have ej : j = 4 := by omega
      subst ej
      have hh := has_of_owns8 HO.out (bytes_byt (fun x hx => four_byt s x (List.mem_of_mem_take hx)))
      obtain ⟨_, _, e4, hh⟩ := hh
      simp only [Value.slice.injEq, true_and] at e4
      obtain ⟨rfl, rfl⟩ := e4
      have HE := hid (HD.out oa oc wr hh HB.out)
      clear hh HO HB
      go_wp2
      go_ret
      exact HE.out
end Go.Proofs.YtedeiaokohdhpaaGreat

namespace Go.Proofs.YtedeiaokohdhpaaGreat
open Go.RowKit
def plainGo : Nat → Nat → List Int
  | 0, n => [(n : Int)]
  | k + 1, n => if n < 128 then [(n : Int)] else ((n % 128 + 128 : Nat) : Int) :: plainGo k (n / 128)
theorem plainGo_more : ∀ (k n : Nat), n ≤ k → plainGo (k + 1) n = plainGo k n
  | 0, n, h => by
    have e : n = 0 := by omega
    subst e
    rfl
  | k + 1, n, h => by
    show (if n < 128 then [(n : Int)] else ((n % 128 + 128 : Nat) : Int) :: plainGo (k + 1) (n / 128)) = (if n < 128 then [(n : Int)] else ((n % 128 + 128 : Nat) : Int) :: plainGo k (n / 128))
    by_cases hn : n < 128
    · rw [if_pos hn, if_pos hn]
    · rw [if_neg hn, if_neg hn, plainGo_more k (n / 128) (by omega)]
theorem plainGo_same : ∀ (j k n : Nat), n ≤ k → plainGo (k + j) n = plainGo k n
  | 0, _, _, _ => rfl
  | j + 1, k, n, h => by rw [← Nat.add_assoc, plainGo_more (k + j) n (by omega), plainGo_same j k n h]
def plainL (n : Nat) : List Int := plainGo n n
theorem plain_small {n : Nat} (h : n < 128) : plainL n = [(n : Int)] := by
  unfold plainL
  cases n with
  | zero => rfl
  | succ n => rw [plainGo, if_pos h]
theorem plain_great {n : Nat} (h : ¬ n < 128) : plainL n = ((n % 128 + 128 : Nat) : Int) :: plainL (n / 128) := by
  unfold plainL
  obtain ⟨m, rfl⟩ : ∃ m, n = m + 1 := ⟨n - 1, by omega⟩
  rw [plainGo, if_neg h]
  have := plainGo_same (m - (m + 1) / 128) ((m + 1) / 128) ((m + 1) / 128) (Nat.le_refl _)
  rw [show (m + 1) / 128 + (m - (m + 1) / 128) = m by omega] at this
  rw [this]
theorem plain_byt (n : Nat) : Mth.Byt (plainL n) := by
  induction n using Nat.strongRecOn with
  | ind n ih =>
    by_cases h : n < 128
    · rw [plain_small h]
      intro x hx
      simp only [List.mem_cons, List.not_mem_nil, or_false] at hx
      omega
    · rw [plain_great h]
      intro x hx
      rcases List.mem_cons.1 hx with rfl | hx
      · omega
      · exact ih (n / 128) (by omega) x hx
def RowB (B : Nat) (v : Value) (bs : List Int) (w : World) : Prop := w.ownsRow B 5 1 v bs.length (BB bs) ∨ ∃ g cur f, v = .slice (some ⟨g, 0, none⟩) bs.length bs.length ∧ B ≤ g ∧ w.heap[g]? = some (.cells cur 5 f) ∧ cur.toList = BB bs ∧ 0 < bs.length
theorem RowB.blk {B : Nat} {v : Value} {bs : List Int} {w : World} (h : RowB B v bs w) {k : Nat} (hk : v.ownBlock = some k) : B ≤ k ∧ ∃ cur f, w.heap[k]? = some (.cells cur 5 f) := by
  rcases h with h | ⟨g, cur, f, rfl, hB, hg, _⟩
  · rcases h.2 with ⟨e2, _⟩ | ⟨g2, c2, cur, e2, hb, hh, _⟩
    · rw [e2] at hk; simp [Value.ownBlock] at hk
    · rw [e2] at hk
      simp only [Value.ownBlock, Option.some.injEq] at hk
      subst hk
      exact ⟨hb, cur, _, hh⟩
  · simp only [Value.ownBlock, Option.some.injEq] at hk
    subst hk
    exact ⟨hB, cur, f, hg⟩
theorem RowB.step {B : Nat} {v : Value} {bs : List Int} {w w' : World} (h : RowB B v bs w) (hb : Below w.heap.size w w') : RowB B v bs w' := by
  rcases h with h | ⟨g, cur, f, e, hB, hg, r⟩
  · exact .inl (owns_belowK h hb)
  · exact .inr ⟨g, cur, f, e, hB, (hb.block g (Array.getElem?_eq_some_iff.1 hg).1).trans hg, r⟩
theorem RowB.has {B : Nat} {a : Option Addr} {c : Nat} {bs : List Int} {w : World} (h : RowB B (.slice a bs.length c) bs w) (hb : Mth.Byt bs) : Has .u8 w a bs.length bs := by
  rcases h with h | ⟨g, cur, f, e, _, hg, hc, _⟩
  · obtain ⟨a', c', e, hh⟩ := has_of_owns8 h (bytes_byt hb)
    simp only [Value.slice.injEq, true_and] at e
    obtain ⟨rfl, rfl⟩ := e
    exact hh
  · simp only [Value.slice.injEq, true_and] at e
    obtain ⟨rfl, rfl⟩ := e
    refine ⟨rfl, fun n hn => wf_u8 n (hb n hn), .inr ⟨g, 0, rfl, (Array.getElem?_eq_some_iff.1 hg).1, fun i hi => ?_⟩⟩
    have : cur[i]? = some (.int .u8 (bs.getD i 0)) := by
      rw [← Array.getElem?_toList, hc]
      simp only [BB, List.getElem?_map, List.getD_eq_getElem?_getD, List.getElem?_eq_getElem hi, Option.map_some, Option.getD_some]
    simp [World.cell?, hg, this]
theorem RowB.app {B : Nat} {a : Option Addr} {c : Nat} {bs : List Int} {w : World} (h : RowB B (.slice a bs.length c) bs w) {ad : Addr} {m c2 : Nat} {zs : List Int} (hl : zs.length = m) (hn : ∀ j u, (BB zs)[j]? = some u → w.cell? (ad.add j) = some u) (hm : 0 < m) (hs : bs.length + m ≤ 10000000) (hB : B ≤ w.heap.size) :
    ∃ g cap w6, (Builtin.append_ #[30, 30] 30 #[.slice a bs.length c, .slice (some ad) m c2]).run Tryz.prog w = .ok (.slice (some ⟨g, 0, none⟩) (bs.length + m) cap) w6 ∧ w6.ownsRow B 5 1 (.slice (some ⟨g, 0, none⟩) (bs.length + m) cap) (bs.length + m) (BB (bs ++ zs)) ∧ w.grownBy w6 (Value.slice a bs.length c).ownBlock := by
  have eB : BB (bs ++ zs) = BB bs ++ BB zs := by simp [BB]
  rw [eB]
  rcases h with h | ⟨g, cur, f, e, hg, hh, hc, h0⟩
  · obtain ⟨g, cap, w6, hrun, ho, hg, _⟩ := run_appK (w := w) (ad := ad) (m := m) (c := c2) (news := BB zs) 30 Tryz.underlying30 Tryz.info5 rfl (by decide) h (by simp [BB]; omega) hn (bb_one zs) hm (by unfold maxLen; omega) (by omega) hB
    exact ⟨g, cap, w6, hrun, ho, hg⟩
  · simp only [Value.slice.injEq, true_and] at e
    obtain ⟨rfl, rfl⟩ := e
    obtain ⟨i0, hi, hz0, hz1, hz2⟩ := info_parts Tryz.info5
    have hgrow := run_append_grow (P := Tryz.prog) w 30 30 5 i0 (.int .u8 0) Tryz.underlying30 hi hz0 ⟨g, 0, none⟩ bs.length bs.length (BB bs) (by rw [hz1]; simp [BB]) (fun j v hj => by
      rw [← hc, Array.getElem?_toList] at hj
      rw [Addr.add_lit, Nat.zero_add]
      simp [World.cell?, hh, hj]) ad m c2 (BB zs) (by rw [hz1]; simp [BB]; omega) hn (by omega) (by omega) (by rw [hz2]; exact growslice_fits (by omega) (by omega))
    have hge := grownCap_ge w (bs.length + m) bs.length 5
    have hcm := grownCap_le_maxLen w (bs.length + m) bs.length 5 (by unfold maxLen; omega)
    refine ⟨_, _, _, hgrow, ⟨by simp [BB]; omega, .inr ⟨w.heap.size, _, _, rfl, hB, heap_alloc_new w.drew _, hge, hcm, ?_, ?_⟩⟩, ⟨rfl, rfl, rfl, by simp, fun k hk _ => (bl_alloc (Below.refl w.drew.heap.size w.drew)).block k hk⟩⟩
    · have hzc : (Value.int IntKind.u8 0).cells.size = 1 := rfl
      simp only [Array.size_append, List.size_toArray, size_zeroCells, hzc, BB, List.length_map]
      omega
    · have : (bs.length + m) * 1 = (BB bs ++ BB zs).length := by simp [BB]; omega
      rw [this, Array.toList_append, Array.toList_append, List.take_append_of_le_length (by simp)]
      simp only [List.length_append]
      rw [← List.length_append, List.take_length]
structure Wr (B p : Nat) (bs : List Int) (w : World) : Prop where
  ex : ∃ a c, w.heap[p]? = some (.cells #[.slice a bs.length c] 70 (0, 0)) ∧ RowB B (.slice a bs.length c) bs w
  low : B ≤ p
  byt : Mth.Byt bs
def Fram (p : Nat) (w w' : World) : Prop := w.heap.size ≤ w'.heap.size ∧ ∀ k cs T f, k ≠ p → T ≠ 5 → w.heap[k]? = some (.cells cs T f) → w'.heap[k]? = some (.cells cs T f)
theorem Fram.trans {p : Nat} {a b c : World} (h : Fram p a b) (k : Fram p b c) : Fram p a c := ⟨Nat.le_trans h.1 k.1, fun j cs T f h1 h2 h3 => k.2 j cs T f h1 h2 (h.2 j cs T f h1 h2 h3)⟩
theorem Fram.refl (p : Nat) (w : World) : Fram p w w := ⟨Nat.le_refl _, fun _ _ _ _ _ _ h => h⟩
theorem Fram.below {p : Nat} {w w' : World} (b : Below w.heap.size w w') : Fram p w w' := ⟨b.size, fun k _ _ _ _ _ h => (b.block k (Array.getElem?_eq_some_iff.1 h).1).trans h⟩
def WDone (B p : Nat) (bs : List Int) (w : World) (e : Ending) (w' : World) : Prop := e = .returned (.tuple #[]) ∧ Wr B p bs w' ∧ Below B w w' ∧ Fram p w w'
theorem Wr.at {B p : Nat} {bs : List Int} {w : World} (h : Wr B p bs w) : ∃ a c, w.cell? ⟨p, 0, none⟩ = some (.slice a bs.length c) ∧ w.frozen? ⟨p, 0, none⟩ = false ∧ p < w.heap.size ∧ RowB B (.slice a bs.length c) bs w := by
  obtain ⟨a, c, h1, h2⟩ := h.ex
  exact ⟨a, c, by simp [World.cell?, h1], by simp [World.frozen?, h1], (Array.getElem?_eq_some_iff.1 h1).1, h2⟩
theorem Wr.step {B p : Nat} {bs : List Int} {w w' : World} (h : Wr B p bs w) (hb : Below w.heap.size w w') : Wr B p bs w' := by
  obtain ⟨a, c, h1, h2⟩ := h.ex
  exact ⟨⟨a, c, (hb.block p (Array.getElem?_eq_some_iff.1 h1).1).trans h1, h2.step hb⟩, h.low, h.byt⟩
theorem Wr.push {B p : Nat} {bs : List Int} {w : World} (h : Wr B p bs w) {a : Option Addr} {c : Nat} (hc : w.cell? ⟨p, 0, none⟩ = some (.slice a bs.length c)) (x : Int) (hx : 0 ≤ x ∧ x < 256) (hn : bs.length ≤ 9000000) : ∃ g cap w6, (Builtin.append_ #[30, 30] 30 #[.slice a bs.length c, .slice (some ⟨w.heap.size, 0, none⟩) 1 1]).run Tryz.prog (w.alloc (.cells #[.int .u8 x] 5)) = .ok (.slice (some ⟨g, 0, none⟩) (bs.length + 1) cap) w6 ∧ w6.cell? ⟨p, 0, none⟩ = some (.slice a bs.length c) ∧ w6.frozen? ⟨p, 0, none⟩ = false ∧ p < w6.heap.size ∧ Wr B p (bs ++ [x]) (w6.setCell ⟨p, 0, none⟩ (.slice (some ⟨g, 0, none⟩) (bs.length + 1) cap)) ∧ Below B w (w6.setCell ⟨p, 0, none⟩ (.slice (some ⟨g, 0, none⟩) (bs.length + 1) cap)) ∧ Fram p w (w6.setCell ⟨p, 0, none⟩ (.slice (some ⟨g, 0, none⟩) (bs.length + 1) cap)) := by
  obtain ⟨a', c', h1, h2⟩ := h.ex
  have e : (.slice a bs.length c : Value) = .slice a' bs.length c' := by
    have : w.cell? ⟨p, 0, none⟩ = some (.slice a' bs.length c') := by simp [World.cell?, h1]
    rw [hc] at this
    exact Option.some.inj this
  simp only [Value.slice.injEq, true_and] at e
  obtain ⟨rfl, rfl⟩ := e
  have hp := (Array.getElem?_eq_some_iff.1 h1).1
  have hB := h.low
  have hb1 : Below w.heap.size w (w.alloc (.cells #[.int .u8 x] 5)) := bl_alloc (Below.refl _ _)
  have hs1 := hb1.size
  obtain ⟨g, cap, w6, hrun, ho, hg⟩ := (h2.step hb1).app (ad := ⟨w.heap.size, 0, none⟩) (m := 1) (c2 := 1) (zs := [x]) rfl src_of (by decide) (by omega) (by omega)
  have hne : some p ≠ (Value.slice a bs.length c).ownBlock := fun e => by
    obtain ⟨_, cur, f, hh⟩ := h2.blk e.symm
    rw [h1] at hh
    simp only [Option.some.injEq, Obj.cells.injEq] at hh
    exact absurd hh.2.1 (by decide)
  have h6 : w6.heap[p]? = some (.cells #[.slice a bs.length c] 70 (0, 0)) := (hg.block p (by omega) hne).trans ((hb1.block p hp).trans h1)
  have hgp : g ≠ p := fun e => by
    subst e
    rcases ho.2 with ⟨e2, _⟩ | ⟨g2, c2, cur, e2, _, hh, _⟩
    · cases e2
    · simp only [Value.slice.injEq, Option.some.injEq, Addr.mk.injEq, and_true] at e2
      rw [← e2.1, h6] at hh
      simp only [Option.some.injEq, Obj.cells.injEq] at hh
      exact absurd hh.2.1 (by decide)
  have h7 : (w6.setCell ⟨p, 0, none⟩ (.slice (some ⟨g, 0, none⟩) (bs.length + 1) cap)).heap[p]? = some (.cells #[.slice (some ⟨g, 0, none⟩) (bs.length + 1) cap] 70 (0, 0)) := by
    simp [World.setCell, Array.getElem?_modify, h6]
  refine ⟨g, cap, w6, hrun, by simp [World.cell?, h6], by simp [World.frozen?, h6], (Array.getElem?_eq_some_iff.1 h6).1, ⟨⟨some ⟨g, 0, none⟩, cap, ?_, ?_⟩, h.low, ?_⟩, ?_, ?_⟩
  · rw [show (bs ++ [x]).length = bs.length + 1 by simp]
    exact h7
  · unfold RowB
    rw [show (bs ++ [x]).length = bs.length + 1 by simp]
    exact .inl (ownsRow_setCell_other ho (by simp [Value.ownBlock]; exact hgp) _)
  · intro y hy
    rcases List.mem_append.1 hy with hy | hy
    · exact h.byt y hy
    · simp only [List.mem_cons, List.not_mem_nil, or_false] at hy
      rw [hy]; exact hx
  · exact (((hb1.mono (by omega)).grown hg (by omega) fun k hk => (h2.blk hk).1).setCell h.low _)
  · refine ⟨by rw [World.size_setCell]; have := hg.size; omega, fun k cs T f hkp hT hk => ?_⟩
    have hkl := (Array.getElem?_eq_some_iff.1 hk).1
    have hkn : some k ≠ (Value.slice a bs.length c).ownBlock := fun e => by
      obtain ⟨_, cur, f', hh⟩ := h2.blk e.symm
      rw [hk] at hh
      simp only [Option.some.injEq, Obj.cells.injEq] at hh
      exact hT hh.2.1
    rw [Below.heap_setCell _ _ _ _ hkp, hg.block k (by omega) hkn, hb1.block k hkl]
    exact hk
theorem low7 (m : Nat) (hm : m < 18446744073709551616) : bits .and .u64 (m : Int) 127 = ((m % 128 : Nat) : Int) := by
  have := u64_and (m : Int) 127 (by omega) (by omega) (by decide) (by decide)
  rw [this, Int.toNat_natCast]
  show ((m &&& 127 : Nat) : Int) = _
  rw [show (127 : Nat) = 2 ^ 7 - 1 from rfl, Nat.and_two_pow_sub_one_eq_mod]
theorem or128 (m : Nat) (hm : m < 128) : bits .or .u8 (m : Int) 128 = ((m + 128 : Nat) : Int) := by
  have := u8_or (m : Int) 128 (by omega) (by omega) (by decide) (by decide)
  rw [this, Int.toNat_natCast]
  show ((m ||| 128 : Nat) : Int) = _
  rw [Nat.or_comm, show (128 : Nat) = 2 ^ 7 * 1 from rfl, ← Nat.two_pow_add_eq_or_of_lt (by omega)]
  omega
set_option maxHeartbeats 4000000 in
set_option maxRecDepth 20000 in
theorem plain_any (B p : Nat) (bs : List Int) (n : Nat) (w : World) (hn : n < 18446744073709551616) (h : Wr B p bs w) (hl : (bs ++ plainL n).length ≤ 9000000) :
    Calls Tryz.prog 102 #[.pointer (some ⟨p, 0, none⟩), .int .u64 n] w (WDone B p (bs ++ plainL n) w) := by
  have HW := hid h
  have HL := hid hl
  clear h hl
  go_enter Tryz.func102, Tryz.ntmps102
  go_wp2
  go_loopw [1] (fun q wr => ∃ (m : Nat) (cs : List Int), q = .int .u64 m ∧ Hid (m < 18446744073709551616) ∧ Hid (cs ++ plainL m = bs ++ plainL n) ∧ Hid (Wr B p cs wr) ∧ Hid (Below B w wr) ∧ Hid (Fram p w wr)) (fun q _ => (intOf q).toNat)
  case atStart => exact ⟨n, bs, rfl, hn, rfl, HW, Below.refl _ _, Fram.refl _ _⟩
  case round =>
    obtain ⟨m, cs, rfl, hm, he, WR, HB, HF⟩ := hrel
    have hm := hm.out
    have hcl : cs.length ≤ 9000000 := by have h1 := congrArg List.length he.out; have h2 := HL.out; rw [List.length_append] at h1; omega
    obtain ⟨a, c, k1, k2, k3, _⟩ := WR.out.at
    by_cases hlt : m < 128
    · have hd : ¬ (127 : Int) < (m : Int) := by omega
      obtain ⟨g, cap, w6, hrun, q1, q2, q3, WN, BN, FN⟩ := WR.out.push k1 (m : Int) (by omega) hcl
      have hw8 : IntKind.u8.wrap (m : Int) = (m : Int) := by rw [wrap8, Nat.mod_eq_of_lt (by omega)]
      have HE : Hid (WDone B p (bs ++ plainL n) w (.returned (.tuple #[])) (w6.setCell ⟨p, 0, none⟩ (.slice (some ⟨g, 0, none⟩) (cs.length + 1) cap))) := ⟨rfl, by rw [← he.out, plain_small hlt]; exact WN, HB.out.trans BN, HF.out.trans FN⟩
      clear WN BN FN he WR HB HF
      go_wp2_with (at_builtin; refine append_run rfl _ _ rfl rfl rfl hrun ?_)
      go_end0
      exact HE.out
    · have hd : (127 : Int) < (m : Int) := by omega
      obtain ⟨g, cap, w6, hrun, q1, q2, q3, WN, BN, FN⟩ := WR.out.push k1 ((m % 128 + 128 : Nat) : Int) (by omega) hcl
      have h7 := low7 m hm
      have hw8 : IntKind.u8.wrap ((m % 128 : Nat) : Int) = ((m % 128 : Nat) : Int) := by rw [wrap8, Nat.mod_eq_of_lt (by omega)]
      have ho := or128 (m % 128) (by omega)
      have RN : Hid ((cs ++ [((m % 128 + 128 : Nat) : Int)]) ++ plainL (m / 128) = bs ++ plainL n) := by
        show _ = _
        rw [← he.out, plain_great hlt]; simp
      have RW := hid WN
      have RB := hid (HB.out.trans BN)
      have RF := hid (HF.out.trans FN)
      have hm2 : m / 128 < 18446744073709551616 := by omega
      generalize hr : m % 128 = r at *
      clear hr WN BN FN he WR HB HF
      go_wp2_with (at_builtin; refine append_run rfl _ _ rfl rfl rfl hrun ?_)
      go_roundw
      case rel => exact ⟨m / 128, _, vint (by omega), hm2, RN, RW, RB, RF⟩
      case measure => simp [intOf]; omega
def foldN (n : Int) : Nat := if n < 0 then (-2 * n - 1).toNat else (2 * n).toNat
def numL (n : Int) : List Int := plainL (foldN n)
theorem fold_lt {n : Int} (h : wfI n) : foldN n < 18446744073709551616 := by
  have := bounds_i64 h
  unfold foldN
  split <;> omega
theorem ones_xor64 (s : Nat) (hs : s < 18446744073709551616) : 18446744073709551615 ^^^ s = 18446744073709551615 - s := by
  have e : 18446744073709551615 - s = 2 ^ 64 - (s + 1) := by omega
  rw [e, show (18446744073709551615 : Nat) = 2 ^ 64 - 1 from rfl]
  apply Nat.eq_of_testBit_eq
  intro i
  rw [Nat.testBit_xor, Nat.testBit_two_pow_sub_one, Nat.testBit_two_pow_sub_succ (by omega)]
  by_cases h : i < 64
  · simp [h]
  · have : s.testBit i = false := Nat.testBit_lt_two_pow (Nat.lt_of_lt_of_le hs (show 2 ^ 64 ≤ 2 ^ i from Nat.pow_le_pow_right (by decide) (by omega)))
    simp [h, this]
theorem neg_fold {n : Int} (h1 : -9223372036854775808 ≤ n) (h2 : n < 0) : bits .xor .u64 IntKind.u64.max (IntKind.u64.wrap (IntKind.u64.wrap n * 2)) = ((foldN n : Nat) : Int) := by
  have e1 : IntKind.u64.wrap (IntKind.u64.wrap n * 2) = (((2 * n + 18446744073709551616).toNat : Nat) : Int) := by
    simp [IntKind.wrap, IntKind.bits, IntKind.signed]
    omega
  have hs : (2 * n + 18446744073709551616).toNat < 18446744073709551616 := by omega
  rw [e1]
  have := u64_xor IntKind.u64.max (((2 * n + 18446744073709551616).toNat : Nat) : Int) (by decide) (by decide) (by omega) (by omega)
  rw [this, show IntKind.u64.max.toNat = 18446744073709551615 from rfl, Int.toNat_natCast, ones_xor64 _ hs]
  unfold foldN
  rw [if_pos h2]
  omega
set_option maxHeartbeats 2000000 in
set_option maxRecDepth 20000 in
theorem number_any (B p : Nat) (bs : List Int) (n : Int) (w : World) (hn : wfI n) (h : Wr B p bs w) (hl : (bs ++ numL n).length ≤ 9000000) :
    Calls Tryz.prog 57 #[.pointer (some ⟨p, 0, none⟩), .int .i64 n] w (WDone B p (bs ++ numL n) w) := by
  have HP := hid (plain_any B p bs (foldN n) w (fold_lt hn) h hl)
  have hb := bounds_i64 hn
  have HD : Hid (∀ w', Wr B p (bs ++ plainL (foldN n)) w' → Below B w w' → Fram p w w' → WDone B p (bs ++ numL n) w (.returned (.tuple #[])) w') := fun _ h1 h2 h3 => ⟨rfl, h1, h2, h3⟩
  clear h hl
  by_cases hs : n < 0
  · have e := neg_fold (by omega) hs
    rw [← e] at HP
    clear e
    go_enter Tryz.func57, Tryz.ntmps57
    go_wp2_with fail
    refine HP.out.mono ?_
    rintro e w1 ⟨rfl, h1, h2, h3⟩
    have HE := hid (HD.out w1 h1 h2 h3)
    clear h1 h2 h3 HP HD
    go_wp2
    go_end0
    exact HE.out
  · have e : ((foldN n : Nat) : Int) = n * 2 := by unfold foldN; rw [if_neg hs]; omega
    rw [e] at HP
    clear e
    go_enter Tryz.func57, Tryz.ntmps57
    go_wp2_with fail
    refine HP.out.mono ?_
    rintro e w1 ⟨rfl, h1, h2, h3⟩
    have HE := hid (HD.out w1 h1 h2 h3)
    clear h1 h2 h3 HP HD
    go_wp2
    go_end0
    exact HE.out
end Go.Proofs.YtedeiaokohdhpaaGreat
