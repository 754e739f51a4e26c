/- Texts of one chain, joined: ExEnts, ExAll. -/
import Derived.Test.YtffbnggdckjogaaGreatG9
import Derived.Deep.RegionLaw
namespace Go.Proofs.YtffbnggdckjogaaGreat.Ex
open Go.RowKit Go.Maps
structure ED where
  ka : Option Addr
  kn : Nat
  kc : Nat
  act : Int
  a : Option Addr
  n : Nat
  c : Nat
def ED.cells (d : ED) : List Value := [.slice d.ka d.kn d.kc, .slice none 0 0, .int .i64 0, .int .i64 0, .int .i64 d.act, .slice d.a d.n d.c]
abbrev Ent : Type := List Int × Int × List Int
def ED.good (d : ED) (w : World) (e : Ent) : Prop :=
  (d.ka = none → d.kn = 0 ∧ d.kc = 0) ∧ d.kn ≤ 1000 ∧ Has .u64 w d.ka d.kn e.1 ∧ d.act = e.2.1 ∧ (d.a = none → d.n = 0 ∧ d.c = 0) ∧ d.n ≤ 1000 ∧ Has .u64 w d.a d.n e.2.2
theorem ED.good.grew {d : ED} {w w' : World} {e : Ent} {row : Option Nat} (h : d.good w e) (g : Grew w w' row) : d.good w' e :=
  ⟨h.1, h.2.1, g.has h.2.2.1, h.2.2.2.1, h.2.2.2.2.1, h.2.2.2.2.2.1, g.has h.2.2.2.2.2.2⟩
def ED.new (d : ED) (B : Nat) : Prop := From B d.ka d.kn ∧ From B d.a d.n
theorem ED.good.off {d : ED} {w w' : World} {e : Ent} {g B : Nat} (h : d.good w e) (f : d.new B) (hg : g < B) (hr : w.grownBy w' (some g)) : d.good w' e :=
  ⟨h.1, h.2.1, h.2.2.1.off f.1 hg hr, h.2.2.2.1, h.2.2.2.2.1, h.2.2.2.2.2.1, h.2.2.2.2.2.2.off f.2 hg hr⟩
abbrev NoEntry : Value := .agg #[.slice none 0 0, .slice none 0 0, .int .i64 0, .int .i64 0, .int .i64 0, .slice none 0 0]
theorem Tryz.infoEntry : (Tryz.prog.info? 38).map (fun i => (i.zero, i.size, i.bytes)) = some (some NoEntry, 6, 96) := by kernel_rfl
theorem flat_at (ds : List ED) (i j : Nat) (hi : i < ds.length) (hj : j < 6) : (ds.flatMap ED.cells)[6 * i + j]? = (ds[i]).cells[j]? := by
  induction ds generalizing i with
  | nil => simp at hi
  | cons d ds ih =>
    cases i with
    | zero =>
      simp only [List.flatMap_cons, Nat.mul_zero, Nat.zero_add, List.getElem_cons_zero]
      rw [List.getElem?_append_left (by simp [ED.cells]; omega)]
    | succ i =>
      simp only [List.flatMap_cons, List.getElem_cons_succ]
      rw [List.getElem?_append_right (by simp [ED.cells]; omega)]
      have : 6 * (i + 1) + j - (ED.cells d).length = 6 * i + j := by simp [ED.cells]; omega
      rw [this]
      exact ih i (by simpa using hi)
def Ents (w : World) (v : Value) (E : List Ent) : Prop :=
  ∃ g cap, ∃ ds : List ED, v = .slice (some ⟨g, 0, none⟩) E.length cap ∧ g < w.heap.size ∧ ds.length = E.length ∧
    (∀ (i : Nat) (d : ED), ds[i]? = some d → w.cell? ⟨g, 6 * i, none⟩ = some (.slice d.ka d.kn d.kc) ∧ w.cell? ⟨g, 6 * i + 1, none⟩ = some (.slice none 0 0) ∧ w.cell? ⟨g, 6 * i + 2, none⟩ = some (.int .i64 0) ∧ w.cell? ⟨g, 6 * i + 3, none⟩ = some (.int .i64 0) ∧ w.cell? ⟨g, 6 * i + 4, none⟩ = some (.int .i64 d.act) ∧ w.cell? ⟨g, 6 * i + 5, none⟩ = some (.slice d.a d.n d.c)) ∧
    ∀ (i : Nat) (d : ED) (e : Ent), ds[i]? = some d → E[i]? = some e → d.good w e
theorem Ents.grew {w w' : World} {v : Value} {E : List Ent} {row : Option Nat} (h : Ents w v E) (g : Grew w w' row) : Ents w' v E := by
  obtain ⟨b, cap, ds, hv, hb, hl, hc, hg⟩ := h
  refine ⟨b, cap, ds, hv, Nat.lt_of_lt_of_le hb g.1.size, hl, fun i d hd => ?_, fun i d e hd he => (hg i d e hd he).grew g⟩
  obtain ⟨c0, c1, c2, c3, c4, c5⟩ := hc i d hd
  exact ⟨g.cell c0, g.cell c1, g.cell c2, g.cell c3, g.cell c4, g.cell c5⟩
theorem ents_of_owns {w : World} {base g cap : Nat} {ds : List ED} {E : List Ent} (h : w.ownsRow base 38 6 (.slice (some ⟨g, 0, none⟩) E.length cap) E.length (ds.flatMap ED.cells)) (hl : ds.length = E.length) (hg : ∀ (i : Nat) (d : ED) (e : Ent), ds[i]? = some d → E[i]? = some e → d.good w e) :
    Ents w (.slice (some ⟨g, 0, none⟩) E.length cap) E := by
  refine ⟨g, cap, ds, rfl, (h.lt g rfl).2, hl, fun i d hd => ?_, hg⟩
  have hi : i < ds.length := (List.getElem?_eq_some_iff.1 hd).1
  have hd' : ds[i] = d := (List.getElem?_eq_some_iff.1 hd).2
  have key : ∀ j, j < 6 → w.cell? ⟨g, 6 * i + j, none⟩ = d.cells[j]? := by
    intro j hj
    rw [h.cellAt (6 * i + j) (by omega), ← hd']
    exact flat_at ds i j hi hj
  exact ⟨key 0 (by omega), key 1 (by omega), key 2 (by omega), key 3 (by omega), key 4 (by omega), key 5 (by omega)⟩
theorem stepE {ops : Array Oper} {o : Oper} {a : Act} {w : World} {K : Act → World → Prop} {Q : Exit → Act → World → Prop} {F : Prop} (hgd : o.guard = none) (s x : Operand)
    (ho : o.op = .call { callee := .builtin .append, args := #[s, x], argTypes := #[42, 42] }) (base g n cap : Nat) (xs news : List Value) (ad : Addr) (c : Nat)
    (hs : a.eval s = .slice (some ⟨g, 0, none⟩) n cap) (hx : a.eval x = .slice (some ad) 1 c) (hown : w.ownsRow base 38 6 (.slice (some ⟨g, 0, none⟩) n cap) n xs) (hl : news.length = 1 * 6) (hn : ∀ j u, news[j]? = some u → w.cell? (ad.add j) = some u) (h1 : ∀ u ∈ news, u.oneCell' = true)
    (hroom : n + 1 ≤ cap) (h : ∀ w', w'.ownsRow base 38 6 (.slice (some ⟨g, 0, none⟩) (n + 1) cap) (n + 1) (xs ++ news) → w.grownBy w' (some g) → K (a.put o.dst (.slice (some ⟨g, 0, none⟩) (n + 1) cap)) w') :
    if Region.wanted o (yielded ops a.tmps) = true then Oper.wp Tryz.prog o a w K Q else F := by
  have hw : Region.wanted o (yielded ops a.tmps) = true := by simp [Region.wanted, hgd]
  rw [if_pos hw]
  obtain ⟨i0, hi, hz0, hz1, hz2⟩ := info_parts Tryz.infoEntry
  obtain ⟨w', hrun, r1, r2⟩ := run_append_fits (P := Tryz.prog) w base 42 o.type 38 i0 6 Tryz.underlying42 hi hz1 g n cap xs hown ad 1 c news hl hn h1 hroom
  unfold Oper.wp execOp
  simp only [ho, resolve, invoke, builtin, Sem.run_bind, Sem.run_pure, Result.andThen_ok, List.map_toArray, List.map_cons, List.map_nil, hs, hx, hrun]
  exact h w' r1 r2
theorem six_cells (w : World) (d : ED) (t : TypeId) : ∀ (j : Nat) (u : Value), d.cells[j]? = some u → (w.alloc (.cells #[.slice d.ka d.kn d.kc, .slice none 0 0, .int .i64 0, .int .i64 0, .int .i64 d.act, .slice d.a d.n d.c] t)).cell? ((⟨w.heap.size, 0, none⟩ : Addr).add j) = some u := by
  intro j u hj
  have hj6 : j < 6 := (List.getElem?_eq_some_iff.1 hj).1
  match j, hj6, hj with
  | 0, _, hj => simp [ED.cells] at hj; subst hj; simp [Addr.add]
  | 1, _, hj => simp [ED.cells] at hj; subst hj; simp [Addr.add]
  | 2, _, hj => simp [ED.cells] at hj; subst hj; simp [Addr.add]
  | 3, _, hj => simp [ED.cells] at hj; subst hj; simp [Addr.add]
  | 4, _, hj => simp [ED.cells] at hj; subst hj; simp [Addr.add]
  | 5, _, hj => simp [ED.cells] at hj; subst hj; simp [Addr.add]
theorem six_one (d : ED) : ∀ u ∈ d.cells, u.oneCell' = true := by
  intro u hu
  simp only [ED.cells, List.mem_cons, List.not_mem_nil, or_false] at hu
  rcases hu with rfl | rfl | rfl | rfl | rfl | rfl <;> rfl
end Go.Proofs.YtffbnggdckjogaaGreat.Ex

namespace Go.Proofs.YtffbnggdckjogaaGreat.Ex
open Go.RowKit Go.Maps Go.Sort
def entOf (C : List UInt8 → Option (Int × List Int)) (x : List UInt8) : Ent := (Mth.un x, ((C x).getD (0, [])).1, ((C x).getD (0, [])).2)
def rising (ss : List (List UInt8)) : List (List UInt8) := ss.mergeSort fun x y => decide (x ≤ y)
theorem rising_length (ss : List (List UInt8)) : (rising ss).length = ss.length := List.length_mergeSort _
theorem rising_mem {ss : List (List UInt8)} {x : List UInt8} : x ∈ rising ss ↔ x ∈ ss := List.mem_mergeSort
theorem calls_keys (mb : Option Nat) (W : World) : Calls Tryz.prog 63 #[.map mb] W fun e w' => e = .returned (.func (.func 71) #[] #[.pointer (some ⟨W.heap.size, 0, none⟩)]) ∧ w' = W.alloc (.cells #[.map mb] 94) :=
  callsIn_wide.1 (Itr.maps_keys mb W)
theorem calls_sorted {w : World} {p b K M : Nat} {C : List UInt8 → Option (Int × List Int)} {ss : List (List UInt8)} (t : Tab w p b K M C ss) (hM : M ≤ 100000) :
    Calls Tryz.prog 62 #[.func (.func 71) #[] #[.pointer (some ⟨w.heap.size, 0, none⟩)]] (w.alloc (.cells #[.map (some b)] 94)) fun e w' => ∃ a c, e = .returned (.slice a ss.length c) ∧ Below w.heap.size w w' ∧
      (0 < ss.length → ∃ g, a = some ⟨g, 0, none⟩ ∧ w.heap.size < g ∧ g < w'.heap.size ∧ ∀ i, i < ss.length → w'.cell? ⟨g, i, none⟩ = some (.string ⟨((rising ss).getD i []).toArray⟩)) := by
  obtain ⟨D, hD⟩ := t.map
  have hsz := hD.size t.nd t.mem
  have hm := t.most
  refine (callsIn_wide.1 (Itr.sorted_keys b _ D rv w hD.1 (by rw [hsz.2]; unfold maxLen; omega) (by rw [hsz.2]; omega))).mono ?_
  rintro e w' ⟨v, ss', rfl, hperm, hrow, hnil, hb⟩
  have hp : ss'.Perm ss := hperm.trans hsz.1.symm
  have hr : ss'.mergeSort (fun x y => decide (x ≤ y)) = rising ss := mergeSort_of_perm hp
  have hlen := hp.length_eq
  rw [hr, hlen] at hrow
  have hB : Below w.heap.size w w' := bl_step (bl_alloc (Below.refl _ _)) hb
  rcases hrow.2 with ⟨rfl, h0⟩ | ⟨g, cap, cur, rfl, hg, hh, _⟩
  · exact ⟨none, 0, by rw [h0], hB, fun h => by omega⟩
  · refine ⟨some ⟨g, 0, none⟩, cap, rfl, hB, fun _ => ⟨g, rfl, by simp at hg; omega, (Array.getElem?_eq_some_iff.1 hh).1, fun i hi => ?_⟩⟩
    rw [hrow.cellAt i (by omega)]
    simp only [List.getElem?_map, List.getD_eq_getElem?_getD]
    rw [List.getElem?_eq_getElem (by rw [rising_length]; exact hi)]
    rfl
structure AllAt (w : World) (p b K M : Nat) (C : List UInt8 → Option (Int × List Int)) (ss : List (List UInt8)) (sa : Option Addr) (j : Nat) (x : Value) (wr : World) : Prop where
  tab : Tab wr p b K M C ss
  bel : Below w.heap.size w wr
  big : w.heap.size < wr.heap.size
  out : ∃ ds : List ED, ds.length = j ∧ x = .slice (some ⟨w.heap.size, 0, none⟩) j ss.length ∧ wr.ownsRow w.heap.size 38 6 x j (ds.flatMap ED.cells) ∧ (∀ (i : Nat) (d : ED), ds[i]? = some d → d.good wr (entOf C ((rising ss).getD i [])) ∧ d.new (w.heap.size + 1))
  nam : 0 < ss.length → ∃ g, sa = some ⟨g, 0, none⟩ ∧ w.heap.size < g ∧ g < wr.heap.size ∧ ∀ i, i < ss.length → wr.cell? ⟨g, i, none⟩ = some (.string ⟨((rising ss).getD i []).toArray⟩)
theorem all_step {w wr w5 w6 : World} {p b K M j : Nat} {C : List UInt8 → Option (Int × List Int)} {ss : List (List UInt8)} {sa : Option Addr} {x : Value} {ds : List ED} {d : ED} {o : Obj} (t : Tab w p b K M C ss) (A : AllAt w p b K M C ss sa j x wr)
    (hl : ds.length = j) (hg : ∀ (i : Nat) (d : ED), ds[i]? = some d → d.good wr (entOf C ((rising ss).getD i [])) ∧ d.new (w.heap.size + 1)) (hB : Below wr.heap.size wr w5)
    (ho : w6.ownsRow w.heap.size 38 6 (.slice (some ⟨w.heap.size, 0, none⟩) (j + 1) ss.length) (j + 1) (ds.flatMap ED.cells ++ d.cells)) (hgr : (w5.alloc o).grownBy w6 (some w.heap.size)) (hd : d.good w5 (entOf C ((rising ss).getD j []))) (hn : d.new (w.heap.size + 1)) :
    AllAt w p b K M C ss sa (j + 1) (.slice (some ⟨w.heap.size, 0, none⟩) (j + 1) ss.length) w6 := by
  have b5 : Below w.heap.size w (w5.alloc o) := bl_alloc (bl_step A.bel hB)
  have b6 : Below w.heap.size w w6 := b5.grown hgr b5.size (fun k hk => by cases hk; exact Nat.le_refl _)
  have G : Grew wr (w5.alloc o) none := grew_below (bl_alloc hB)
  have G5 : Grew w5 (w5.alloc o) none := grew_below (bl_alloc (Below.refl _ _))
  refine ⟨t.step b6, b6, ?_, ⟨ds ++ [d], by simp [hl], rfl, by simpa using ho, fun i d' hd' => ?_⟩, fun h => ?_⟩
  · have h1 := A.big
    have h2 := G.1.size
    have h3 := hgr.size
    omega
  · by_cases hi : i < ds.length
    · rw [List.getElem?_append_left hi] at hd'
      obtain ⟨g1, g2⟩ := hg i d' hd'
      exact ⟨(g1.grew G).off g2 (Nat.lt_succ_self _) hgr, g2⟩
    · rw [List.getElem?_append_right (Nat.le_of_not_lt hi)] at hd'
      have hi2 : i - ds.length = 0 := by
        have := (List.getElem?_eq_some_iff.1 hd').1
        simp at this
        omega
      rw [hi2] at hd'
      have e : d = d' := by simpa using hd'
      have e2 : i = j := by omega
      subst e; subst e2
      exact ⟨(hd.grew G5).off hn (Nat.lt_succ_self _) hgr, hn⟩
  · obtain ⟨g, e, h1, h2, h3⟩ := A.nam h
    have hs := Nat.lt_of_lt_of_le h2 G.1.size
    exact ⟨g, e, h1, Nat.lt_of_lt_of_le hs hgr.size, fun i hi => hgr.cell (G.cell (h3 i hi)) (by simp; omega)⟩
theorem hit_cells {w3 w5 : World} {x : Int} {a : Option Addr} {n c : Nat} (hb : Below (w3.alloc (HC x a n c)).drew.heap.size (w3.alloc (HC x a n c)).drew w5) :
    w5.cell? ⟨w3.heap.size, 0, none⟩ = some (.int .i64 x) ∧ w5.cell? ⟨w3.heap.size, 1, none⟩ = some (.slice a n c) :=
  ⟨(hb.cell (p := ⟨w3.heap.size, 0, none⟩) (by simp)).trans (by simp), (hb.cell (p := ⟨w3.heap.size, 1, none⟩) (by simp)).trans (by simp)⟩
theorem keys_list (x : List UInt8) (K : Nat) (w : World) (hK : K ≤ 1000) (hx : x.length = 8 * K) :
    Calls Tryz.prog 64 #[.string ⟨x.toArray⟩] w fun e w' => ∃ a c, e = .returned (.slice a K c) ∧ (a = none → K = 0 ∧ c = 0) ∧ From w.heap.size a K ∧ Has .u64 w' a K (Mth.un x) ∧ Below w.heap.size w w' :=
  keys_new ⟨x.toArray⟩ K w hK (by show x.toArray.size = 8 * K; simp [hx])
theorem ent_good {w3 w5 : World} {x : Int} {a ka : Option Addr} {n c kn kc : Nat} {h : Int × List Int} {ks : List Int} (s : Says w3 (.agg #[.int .i64 x, .slice a n c]) h) (hb : Below w3.heap.size w3 w5) (hk : Has .u64 w5 ka kn ks) (hkn : ka = none → kn = 0 ∧ kc = 0) (hks : kn ≤ 1000) :
    (ED.mk ka kn kc x a n c).good w5 (ks, h.1, h.2) := by
  obtain ⟨a', n', c', e, hn, hs, hh⟩ := s
  simp only [Value.agg.injEq, Array.mk.injEq, List.cons.injEq, Value.int.injEq, Value.slice.injEq, true_and, and_true] at e
  obtain ⟨rfl, rfl, rfl, rfl⟩ := e
  exact ⟨hkn, hks, hk, rfl, hn, hs, hh.step hb⟩
set_option maxHeartbeats 2000000 in
set_option maxRecDepth 20000 in
theorem all_any {w : World} {p b K M : Nat} {C : List UInt8 → Option (Int × List Int)} {ss : List (List UInt8)} (t : Tab w p b K M C ss) (hK : K ≤ 1000) (hM : M ≤ 100000) :
    Calls Tryz.prog 55 #[.pointer (some ⟨p, 0, none⟩)] w fun e w' => ∃ v, e = .returned v ∧ Ents w' v ((rising ss).map (entOf C)) ∧ Below w.heap.size w w' := by
  obtain ⟨D, hD⟩ := t.map
  have hsz := (hD.size t.nd t.mem).2
  have hmost := t.most
  have c2 := t.c2
  have hown := hD.1
  have HT := hid t
  obtain ⟨i0, hi, hz0, hz1, hz2⟩ := info_parts Tryz.infoEntry
  clear t hD
  go_enter Tryz.func55, Tryz.ntmps55
  go_wp2_with (first | (at_len; refine wpList_len_own _ rfl _ 94 rfl 9 50 Tryz.underlying94 rv b _ D rfl hown ?_) | (at_make; refine wpList_make_own _ rfl _ _ 42 rfl w.heap.size 38 i0 NoEntry 6 Tryz.underlying42 hi hz0 hz1 _ _ _ ss.length rfl rfl ?m1 ?m2 ?m3 ?m4 ?_))
  case m1 => simp [hsz]
  case m2 => rw [hz2]; omega
  case m3 => unfold maxLen; omega
  case m4 => exact Nat.le_refl _
  intro w1 hown1 hg1
  have hb1 : Below w.heap.size w w1 := (Below.refl _ _).grown hg1 (Nat.le_refl _) (by intro k hk; cases hk)
  have hw1 := (hown1.lt w.heap.size rfl).2
  have t1 := HT.out.step hb1
  have c2' := t1.c2
  have T1 := hid t1
  have B1 := hid hb1
  have O1 := hid hown1
  clear hown hg1 c2 hb1 t1 hown1 hsz
  go_wp2_with (first
    | (go_at_call 63; refine (calls_keys _ _).mono ?_; rintro e w' ⟨rfl, rfl⟩)
    | (go_at_call 62; refine (calls_sorted T1.out hM).mono ?_; rintro e w2 ⟨sa, sc, rfl, hb2, hnam⟩))
  have A0 : AllAt w p b K M C ss sa 0 (.slice (some ⟨w.heap.size, 0, none⟩) 0 ss.length) w2 := ⟨T1.out.step hb2, bl_step B1.out hb2, Nat.lt_of_lt_of_le hw1 hb2.size, ⟨[], rfl, rfl, owns_below O1.out hb2, by simp⟩, fun h => by
    obtain ⟨g, e, h1, h2, h3⟩ := hnam h
    exact ⟨g, e, by omega, h2, h3⟩⟩
  clear hnam hb2 O1 B1 T1 c2'
  go_loopw [3, 20] (fun x q wr => ∃ j : Nat, j ≤ ss.length ∧ q = .int .i64 j ∧ AllAt w p b K M C ss sa j x wr) (fun _ q _ => ss.length - (intOf q).toNat)
  case atStart => exact ⟨0, Nat.zero_le _, rfl, A0⟩
  case round =>
    obtain ⟨j, hj, rfl, A⟩ := hrel
    by_cases hlt : j < ss.length
    · obtain ⟨ds, hl, rfl, ho, hg⟩ := A.out
      obtain ⟨gs, rfl, hgs, hgl, hcell⟩ := A.nam (by omega)
      have q1 := hcell j hlt
      have hxm : (rising ss).getD j [] ∈ ss := by
        rw [List.getD_eq_getElem?_getD, List.getElem?_eq_getElem (by rw [rising_length]; exact hlt)]
        exact rising_mem.1 (List.getElem_mem _)
      have hxl := A.tab.len _ hxm
      have big := A.big
      have c2 := A.tab.c2
      obtain ⟨D2, hD2⟩ := A.tab.map
      have HA := hid A
      have HO := hid ho
      have HG := hid hg
      clear A ho hg hcell A0
      generalize hx : (rising ss).getD j [] = x at *
      have HX := hid hx
      clear hx
      obtain ⟨y1, a1, k1, d1, hrun, hs⟩ := look_at hD2 x (by omega)
      generalize hh : (C x).getD (0, []) = h at *
      have HH := hid hh
      clear hh
      have HS := hid hs
      clear hD2 hs
      have hji : (j : Int) < (ss.length : Int) := by omega
      go_wp2_with (go_at_call 61; refine (copied_new HS.out).mono ?_; rintro e w3 ⟨a3, n3, c3, rfl, hf3, hs3, hb3⟩)
      have HF3 := hid hf3
      have HS3 := hid hs3
      have HB3 := hid hb3
      clear hf3 hs3 hb3 q1 hrun c2
      go_region_law (first
        | (refine stepE rfl _ _ rfl w.heap.size w.heap.size j ss.length (ds.flatMap ED.cells) (ED.cells ⟨ka, K, kc, h.1, a3, n3, c3⟩) ⟨w5.heap.size, 0, none⟩ 1 (by simp [Act.eval]) (by simp [Act.eval]) (HO5.out.alloc _) rfl (six_cells w5 ⟨ka, K, kc, h.1, a3, n3, c3⟩ 38) (six_one _) (by omega) ?_; intro w6 ho6 hgr6)
        | (go_simp; go_at_call 64; refine (keys_list x K _ hK hxl).mono ?_; rintro e w5 ⟨ka, kc, rfl, hkn, hkf, hkh, hb5⟩; have HB5 := hid (bl_step ((bl_alloc HB3.out).drew) hb5); have HO5 := hid (owns_below HO.out HB5.out); obtain ⟨e0, e1⟩ := hit_cells hb5; have HKN := hid hkn; have HKF := hid hkf; have HKH := hid hkh; have HB5' := hid hb5; clear hkn hkf hkh hb5))
      all_goals
        have hnx : AllAt w p b K M C ss (some ⟨gs, 0, none⟩) (j + 1) (.slice (some ⟨w.heap.size, 0, none⟩) (j + 1) ss.length) w6 := all_step (d := ⟨ka, K, kc, h.1, a3, n3, c3⟩) HT.out HA.out hl HG.out HB5.out ho6 hgr6 (by
          rw [HX.out]
          unfold entOf
          rw [HH.out]
          exact ent_good HS3.out (bl_step (bl_alloc (Below.refl _ _)).drew HB5'.out) HKH.out HKN.out hK) ⟨HKF.out.mono (by have := HB3.out.size; simp; omega), HF3.out.mono big⟩
        have HNX := hid hnx
        clear hnx ho6 hgr6 HA HO HG HO5
        go_wp2
        go_roundw
        case rel => exact ⟨j + 1, by omega, by go_num, HNX.out⟩
        case measure => simp [intOf]; omega
    · have e : j = ss.length := by omega
      subst e
      obtain ⟨ds, hl, rfl, ho, hg⟩ := A.out
      have hEl : ((rising ss).map (entOf C)).length = ss.length := by rw [List.length_map, rising_length]
      have hE : Ents wr (.slice (some ⟨w.heap.size, 0, none⟩) ss.length ss.length) ((rising ss).map (entOf C)) := by
        have := ents_of_owns (E := (rising ss).map (entOf C)) (ds := ds) (w := wr) (base := w.heap.size) (g := w.heap.size) (cap := ss.length) (by rw [hEl]; exact ho) (by rw [hEl]; exact hl) (fun i d e hd he => by
          have := (hg i d hd).1
          simp only [List.getElem?_map, Option.map_eq_some_iff] at he
          obtain ⟨x, hx, rfl⟩ := he
          rw [List.getD_eq_getElem?_getD, hx] at this
          exact this)
        rw [hEl] at this
        exact this
      have HB := hid A.bel
      have HE := hid hE
      clear A ho hg hE A0
      go_wp2
      go_ret
      exact ⟨_, rfl, HE.out, HB.out⟩
end Go.Proofs.YtffbnggdckjogaaGreat.Ex
