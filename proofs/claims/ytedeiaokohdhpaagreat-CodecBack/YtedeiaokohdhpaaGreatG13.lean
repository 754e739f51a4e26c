/- Texts of one chain, joined: ZRdM. -/
import Derived.Test.YtedeiaokohdhpaaGreatG12
namespace Go.Proofs.YtedeiaokohdhpaaGreat
open Go.RowKit
theorem put_below {w : World} {p : Addr} {v : Value} (h : w.cell? p = some v) : Below w.heap.size w (w.setCell p v) := by
  refine ⟨rfl, rfl, rfl, by simp [World.setCell], fun k _ => ?_⟩
  by_cases e : k = p.block
  · subst e
    unfold World.cell? at h
    cases hb : w.heap[p.block]? with
    | none => simp [World.setCell, Array.getElem?_modify, hb]
    | some o =>
      rw [hb] at h
      cases o with
      | cells c t z =>
        simp only at h
        split at h
        · cases h
        · rename_i hs
          have hl : p.off < c.size := by
            rcases Nat.lt_or_ge p.off c.size with g | g
            · exact g
            · rw [Array.getElem?_eq_none g] at h; cases h
          have hv : c[p.off] = v := by rw [Array.getElem?_eq_getElem hl] at h; exact Option.some.inj h
          have hset : c.setIfInBounds p.off v = c := by
            apply Array.ext
            · simp
            · intro i h1 h2
              rw [Array.getElem_setIfInBounds]
              split
              · rename_i e; subst e; exact hv.symm
              · rfl
          simp [World.setCell, Array.getElem?_modify, hb, hs, hset]
      | _ => simp at h
  · exact Below.heap_setCell _ _ _ _ e
theorem put_same {w : World} {p : Addr} {v : Value} (h : w.cell? p = some v) : w.setCell p v = w := by
  have hb := put_below h
  have hs : (w.setCell p v).heap.size = w.heap.size := by simp [World.setCell]
  have e : (w.setCell p v).heap = w.heap := by
    apply Array.ext_getElem?
    intro k
    rcases Nat.lt_or_ge k w.heap.size with hk | hk
    · exact hb.block k hk
    · rw [Array.getElem?_eq_none hk, Array.getElem?_eq_none (by omega)]
  cases w
  simp only [World.setCell] at e ⊢
  rw [e]
def Sl7 (v : Value) : Prop := ∃ (a1 a2 a3 a4 a5 a6 a7 : Option Addr) (n1 n2 n3 n4 n5 n6 n7 : Nat), v = .agg #[.slice a1 n1 n1, .slice a2 n2 n2, .slice a3 n3 n3, .slice a4 n4 n4, .slice a5 n5 n5, .slice a6 n6 n6, .slice a7 n7 n7]
theorem PlanV.sl {w w' : World} {x : PlanX} {v : Value} (h : PlanV w x w' v) : Sl7 v := by
  obtain ⟨v1, v2, v3, v4, v5, v6, v7, e, ⟨g1, _, e1, _⟩, ⟨g2, e2, _⟩, ⟨g3, _, e3, _⟩, ⟨g4, _, e4, _⟩, ⟨g5, _, e5, _⟩, ⟨g6, _, e6, _⟩, ⟨g7, e7, _⟩⟩ := h
  subst e1 e2 e3 e4 e5 e6 e7
  exact ⟨_, _, _, _, _, _, _, _, _, _, _, _, _, _, e⟩
def ReadDone (zs : List Int) (w : World) (e : Ending) (w' : World) : Prop := Below w.heap.size w w' ∧ match planR zs 3 with
  | .error (c, t) => ∃ v, Sl7 v ∧ e = .returned (.tuple #[v, .agg #[.int .i64 c, .int .i64 t]])
  | .ok (x, u) => (u < zs.length ∧ ∃ v, Sl7 v ∧ e = .returned (.tuple #[v, .agg #[.int .i64 4, .int .i64 (u : Int)]])) ∨ (u = zs.length ∧ ∃ v, PlanV w x w' v ∧ e = .returned (.tuple #[v, .agg #[.int .i64 0, .int .i64 0]]))
structure RpAt (w W : World) (b0 b1 p : Nat) (vs : List Value) : Prop where
  c0 : ∀ (k : Nat) (v : Value), vs[k]? = some v → W.cell? ⟨b0, k, none⟩ = some v
  f0 : W.cell? ⟨b1, 0, none⟩ = some (.int .i64 0)
  f1 : W.cell? ⟨b1, 1, none⟩ = some (.int .i64 0)
  z0 : ∀ o, W.frozen? ⟨b0, o, none⟩ = false
  z1 : ∀ o, W.frozen? ⟨b1, o, none⟩ = false
  bel : Below w.heap.size w W
  lo : w.heap.size ≤ b0
  o1 : b0 < b1
  o2 : b1 < p
  o3 : p < W.heap.size
@[reducible] def nil7 : List Value := [.slice none 0 0, .slice none 0 0, .slice none 0 0, .slice none 0 0, .slice none 0 0, .slice none 0 0, .slice none 0 0]
theorem rp_new (w : World) (a : Option Addr) (n c : Nat) : RpAt w (((w.alloc (.cells #[.slice none 0 0, .slice none 0 0, .slice none 0 0, .slice none 0 0, .slice none 0 0, .slice none 0 0, .slice none 0 0] 29)).alloc (.cells #[.int .i64 0, .int .i64 0] 35)).alloc (.cells #[.slice a n c, .int .i64 3] 132)) w.heap.size (w.heap.size + 1) (w.heap.size + 2) nil7 := by
  refine ⟨fun k v hv => ?_, ?_, ?_, fun o => ?_, fun o => ?_, bl_alloc (bl_alloc (bl_alloc (Below.refl _ _))), Nat.le_refl _, by omega, by omega, by simp⟩
  · refine (World.cell?_alloc_past _ _ _ (by simp; omega)).trans ((World.cell?_alloc_past _ _ _ (by simp)).trans ((World.cell?_alloc_at _ _ _ _ rfl).trans ?_))
    have : (nil7.toArray)[k]? = some v := by rw [List.getElem?_toArray]; exact hv
    exact this
  · exact (World.cell?_alloc_past _ _ _ (by simp)).trans ((World.cell?_alloc_at _ _ _ _ (by simp)).trans rfl)
  · exact (World.cell?_alloc_past _ _ _ (by simp)).trans ((World.cell?_alloc_at _ _ _ _ (by simp)).trans rfl)
  · exact (World.frozen?_alloc_past _ _ _ (by simp; omega)).trans ((World.frozen?_alloc_past _ _ _ (by simp)).trans (World.frozen?_alloc_at _ _ _ _ rfl))
  · exact (World.frozen?_alloc_past _ _ _ (by simp)).trans (World.frozen?_alloc_at _ _ _ _ (by simp))
theorem RpAt.rn {w W w1 : World} {b0 b1 p : Nat} {vs : List Value} (h : RpAt w W b0 b1 p vs) (r : Rn p W w1) : RpAt w w1 b0 b1 p vs :=
  ⟨fun k v hk => r.cell (h.c0 k v hk) (by have := h.o1; have := h.o2; omega), r.cell h.f0 (by have := h.o2; omega), r.cell h.f1 (by have := h.o2; omega), fun o => (r.frz o (by have := h.o1; have := h.o2; have := h.o3; omega) (by have := h.o1; have := h.o2; omega)).trans (h.z0 o), fun o => (r.frz o (by have := h.o2; have := h.o3; omega) (by have := h.o2; omega)).trans (h.z1 o), (h.bel.trans (r.low (by have := h.lo; have := h.o1; have := h.o2; omega) h.bel.size)), h.lo, h.o1, h.o2, Nat.lt_of_lt_of_le h.o3 r.size⟩
theorem RpAt.put {w W : World} {b0 b1 p : Nat} {vs : List Value} (h : RpAt w W b0 b1 p vs) (k : Nat) (v : Value) (hk : k < vs.length) : RpAt w (W.setCell ⟨b0, k, none⟩ v) b0 b1 p (vs.set k v) := by
  have ho : ∀ o, (⟨b0, k, none⟩ : Addr) ≠ ⟨b1, o, none⟩ := fun o e => by simp only [Addr.mk.injEq] at e; have := h.o1; omega
  refine ⟨fun j u hu => ?_, (World.cell?_setCell_other _ _ _ _ (ho 0)).trans h.f0, (World.cell?_setCell_other _ _ _ _ (ho 1)).trans h.f1, fun o => (World.frozen?_setCell _ _ _ _).trans (h.z0 o), fun o => (World.frozen?_setCell _ _ _ _).trans (h.z1 o), h.bel.setCell (p := ⟨b0, k, none⟩) h.lo _, h.lo, h.o1, h.o2, by have := h.o3; simpa [World.setCell] using this⟩
  by_cases e : j = k
  · subst e
    rw [List.getElem?_set_self hk] at hu
    cases hu
    exact World.cell?_setCell_same _ _ _ (h.c0 j _ (List.getElem?_eq_getElem hk))
  · rw [List.getElem?_set_ne (fun e' => e e'.symm)] at hu
    exact (World.cell?_setCell_other _ _ _ _ (by simp only [ne_eq, Addr.mk.injEq]; omega)).trans (h.c0 j u hu)
@[reducible] def put7 (W : World) (b : Nat) (v1 v2 v3 v4 v5 v6 v7 : Value) : World := ((((((W.setCell ⟨b, 0, none⟩ v1).setCell ⟨b, 1, none⟩ v2).setCell ⟨b, 2, none⟩ v3).setCell ⟨b, 3, none⟩ v4).setCell ⟨b, 4, none⟩ v5).setCell ⟨b, 5, none⟩ v6).setCell ⟨b, 6, none⟩ v7
theorem RpAt.put7 {w W : World} {b0 b1 p : Nat} (h : RpAt w W b0 b1 p nil7) (v1 v2 v3 v4 v5 v6 v7 : Value) : RpAt w (put7 W b0 v1 v2 v3 v4 v5 v6 v7) b0 b1 p [v1, v2, v3, v4, v5, v6, v7] :=
  ((((((h.put 0 v1 (by decide)).put 1 v2 (by simp)).put 2 v3 (by simp)).put 3 v4 (by simp)).put 4 v5 (by simp)).put 5 v6 (by simp)).put 6 v7 (by simp)
theorem put7_cell {W : World} {b g o : Nat} {v : Value} (h : W.cell? ⟨g, o, none⟩ = some v) (hb : b < g) (v1 v2 v3 v4 v5 v6 v7 : Value) : (put7 W b v1 v2 v3 v4 v5 v6 v7).cell? ⟨g, o, none⟩ = some v := by
  have st : ∀ (X : World) (k : Nat) (u : Value), X.cell? ⟨g, o, none⟩ = some v → (X.setCell ⟨b, k, none⟩ u).cell? ⟨g, o, none⟩ = some v := fun X k u hX => (World.cell?_setCell_other _ _ _ _ (by simp only [ne_eq, Addr.mk.injEq]; omega)).trans hX
  exact st _ _ _ (st _ _ _ (st _ _ _ (st _ _ _ (st _ _ _ (st _ _ _ (st _ _ _ h))))))
theorem put7_heap (W : World) {b g : Nat} (hb : b < g) (v1 v2 v3 v4 v5 v6 v7 : Value) : (put7 W b v1 v2 v3 v4 v5 v6 v7).heap[g]? = W.heap[g]? := by
  have st : ∀ (X : World) (k : Nat) (u : Value), (X.setCell ⟨b, k, none⟩ u).heap[g]? = X.heap[g]? := fun X k u => Below.heap_setCell _ _ _ _ (by show g ≠ b; omega)
  rw [st, st, st, st, st, st, st]
theorem RpAt.gave {w W : World} {b0 b1 p : Nat} {vs : List Value} (h : RpAt w W b0 b1 p vs) (code at_ : Int) (o : Obj) : ∃ w2, w2 = ((W.setCell ⟨b1, 0, none⟩ (.int .i64 code)).setCell ⟨b1, 1, none⟩ (.int .i64 at_)).alloc o ∧ (∀ (k : Nat) (v : Value), vs[k]? = some v → w2.cell? ⟨b0, k, none⟩ = some v) ∧ w2.cell? ⟨b1, 0, none⟩ = some (.int .i64 code) ∧ w2.cell? ⟨b1, 1, none⟩ = some (.int .i64 at_) ∧ Below w.heap.size w w2 := by
  have hlo := h.lo
  have h1 := h.o1
  have h2 := h.o2
  have h3 := h.o3
  have ha : ∀ (g k : Nat) (v : Value), ((W.setCell ⟨b1, 0, none⟩ (.int .i64 code)).setCell ⟨b1, 1, none⟩ (.int .i64 at_)).cell? ⟨g, k, none⟩ = some v → (((W.setCell ⟨b1, 0, none⟩ (.int .i64 code)).setCell ⟨b1, 1, none⟩ (.int .i64 at_)).alloc o).cell? ⟨g, k, none⟩ = some v := fun g k v hc => (World.cell?_alloc_past _ _ _ (World.block_lt_of_cell? _ _ hc)).trans hc
  refine ⟨_, rfl, fun k v hv => ha _ _ _ ?_, ha _ _ _ ?_, ha _ _ _ ?_, bl_alloc ((h.bel.setCell (p := ⟨b1, 0, none⟩) (by show w.heap.size ≤ b1; omega) _).setCell (p := ⟨b1, 1, none⟩) (by show w.heap.size ≤ b1; omega) _)⟩
  · exact (World.cell?_setCell_other _ _ _ _ (by simp only [ne_eq, Addr.mk.injEq]; omega)).trans ((World.cell?_setCell_other _ _ _ _ (by simp only [ne_eq, Addr.mk.injEq]; omega)).trans (h.c0 k v hv))
  · exact (World.cell?_setCell_other _ _ _ _ (by simp)).trans (World.cell?_setCell_same _ _ _ h.f0)
  · exact World.cell?_setCell_same _ _ _ ((World.cell?_setCell_other _ _ _ _ (by simp)).trans h.f1)
theorem rd_new (w : World) (a : Option Addr) (c : Nat) (zs : List Int) (hz : Has .u8 w a zs.length zs) (h3 : 3 ≤ zs.length) (hm : zs.length ≤ 100000) (ha : ∀ ad, a = some ad → ad.block < w.heap.size) : Rd (w.heap.size + 2) a c zs 3 (((w.alloc (.cells #[.slice none 0 0, .slice none 0 0, .slice none 0 0, .slice none 0 0, .slice none 0 0, .slice none 0 0, .slice none 0 0] 29)).alloc (.cells #[.int .i64 0, .int .i64 0] 35)).alloc (.cells #[.slice a zs.length c, .int .i64 3] 132)) :=
  ⟨(World.cell?_alloc_at _ _ _ _ (by simp)).trans rfl, (World.cell?_alloc_at _ _ _ _ (by simp)).trans rfl, World.frozen?_alloc_at _ _ _ _ (by simp), hz.alloc.alloc.alloc, h3, hm, fun ad h => by have := ha ad h; omega⟩
set_option maxHeartbeats 4000000 in
set_option maxRecDepth 20000 in
theorem rreadPlan (a : Option Addr) (c : Nat) (zs : List Int) (w : World) (hz : Has .u8 w a zs.length zs) (h3 : 3 ≤ zs.length) (hm : zs.length ≤ 100000) (ha : ∀ ad, a = some ad → ad.block < w.heap.size) :
    Calls Tryz.prog 32 #[.slice a zs.length c] w (ReadDone zs w) := by
  have hmf : ∀ (fn : Fn) (first cap : Array Value) (w : World), (Instr.makeFunc fn first cap).run Tryz.prog w = .ok (.func fn first cap) w := fun _ _ _ _ => rfl
  obtain ⟨W, eW⟩ : ∃ W, W = (((w.alloc (.cells #[.slice none 0 0, .slice none 0 0, .slice none 0 0, .slice none 0 0, .slice none 0 0, .slice none 0 0, .slice none 0 0] 29)).alloc (.cells #[.int .i64 0, .int .i64 0] 35)).alloc (.cells #[.slice a zs.length c, .int .i64 3] 132)) := ⟨_, rfl⟩
  obtain ⟨b0, e0⟩ : ∃ b, b = w.heap.size := ⟨_, rfl⟩
  obtain ⟨b1, e1⟩ : ∃ b, b = w.heap.size + 1 := ⟨_, rfl⟩
  obtain ⟨p, ep⟩ : ∃ b, b = w.heap.size + 2 := ⟨_, rfl⟩
  have HA : Hid (RpAt w W b0 b1 p nil7) := by rw [eW, e0, e1, ep]; exact rp_new w a zs.length c
  have HR : Hid (Rd p a c zs 3 W) := by rw [eW, ep]; exact rd_new w a c zs hz h3 hm ha
  have HC := hid (rplan HR.out)
  have EW := hid eW
  have E0 := hid e0
  have E1 := hid e1
  have EP := hid ep
  clear eW e0 e1 ep hz h3 hm ha
  go_enter_defers Tryz.func32, Tryz.ntmps32
  go_wp2_with fail
  rw [← EW.out, ← EP.out, ← E1.out, ← E0.out]
  refine HC.out.mono ?_
  rintro e w1 ⟨hn, hr⟩
  have HA1 := hid (HA.out.rn hn)
  have HWB : Hid (b0 < W.heap.size) := by have := HA.out.o1; have := HA.out.o2; have := HA.out.o3; show b0 < W.heap.size; omega
  have HWS : Hid (w.heap.size ≤ W.heap.size) := HA.out.bel.size
  clear HC EW E0 E1 EP HA HR hn
  cases hq : planR zs 3 with
  | error er =>
    obtain ⟨code, at_⟩ := er
    rw [hq] at hr
    obtain rfl := hr
    obtain ⟨w2, ew, q0, q1, q2, hb⟩ := HA1.out.gave code at_ (.cells #[.int .i64 code, .int .i64 at_] 129)
    have x0 := q0 0 _ rfl
    have x1 := q0 1 _ rfl
    have x2 := q0 2 _ rfl
    have x3 := q0 3 _ rfl
    have x4 := q0 4 _ rfl
    have x5 := q0 5 _ rfl
    have x6 := q0 6 _ rfl
    dsimp only
    refine leaves_cons (f := 73) (args := #[.pointer (some ⟨b1, 0, none⟩)]) (by simp) (by simp [go_sem]) ?_
    refine (catch_gave b1 code at_ w1 0 0 HA1.out.f0 HA1.out.f1 (HA1.out.z1 0) (HA1.out.z1 1)).mono ?_
    rintro e u' w'' ⟨rfl, rfl, rfl⟩
    rw [← ew]
    clear q0 ew
    simp [Leaves, settle, results, Tryz.results32, go_sem, *]
    unfold ReadDone
    rw [hq]
    exact ⟨hb, _, ⟨none, none, none, none, none, none, none, 0, 0, 0, 0, 0, 0, 0, rfl⟩, rfl⟩
  | ok y =>
    obtain ⟨x, u⟩ := y
    rw [hq] at hr
    obtain ⟨v, rfl, hv, hd⟩ := hr
    have HV := hid hv
    obtain ⟨a1, a2, a3, a4, a5, a6, a7, n1, n2, n3, n4, n5, n6, n7, rfl⟩ := hv.sl
    clear hv
    have HA2 := hid (HA1.out.put7 (.slice a1 n1 n1) (.slice a2 n2 n2) (.slice a3 n3 n3) (.slice a4 n4 n4) (.slice a5 n5 n5) (.slice a6 n6 n6) (.slice a7 n7 n7))
    have x0 := HA1.out.c0 0 _ rfl
    have x1 := HA1.out.c0 1 _ rfl
    have x2 := HA1.out.c0 2 _ rfl
    have x3 := HA1.out.c0 3 _ rfl
    have x4 := HA1.out.c0 4 _ rfl
    have x5 := HA1.out.c0 5 _ rfl
    have x6 := HA1.out.c0 6 _ rfl
    have zz := HA1.out.z0
    have HU : Hid (u ≤ zs.length ∧ zs.length ≤ 100000) := ⟨hd.le, hd.few⟩
    have r1 := put7_cell hd.c1 (by have := HA1.out.o1; have := HA1.out.o2; omega : b0 < p) (.slice a1 n1 n1) (.slice a2 n2 n2) (.slice a3 n3 n3) (.slice a4 n4 n4) (.slice a5 n5 n5) (.slice a6 n6 n6) (.slice a7 n7 n7)
    have HV2 : Hid (PlanV w x (put7 w1 b0 (.slice a1 n1 n1) (.slice a2 n2 n2) (.slice a3 n3 n3) (.slice a4 n4 n4) (.slice a5 n5 n5) (.slice a6 n6 n6) (.slice a7 n7 n7)) (.agg #[.slice a1 n1 n1, .slice a2 n2 n2, .slice a3 n3 n3, .slice a4 n4 n4, .slice a5 n5 n5, .slice a6 n6 n6, .slice a7 n7 n7])) := (HV.out.keep fun g hg => .inl (put7_heap w1 (by have := HWB.out; omega) (.slice a1 n1 n1) (.slice a2 n2 n2) (.slice a3 n3 n3) (.slice a4 n4 n4) (.slice a5 n5 n5) (.slice a6 n6 n6) (.slice a7 n7 n7))).low HWS.out
    clear hd HV HA1 HWB HWS
    obtain ⟨w2, e2⟩ : ∃ w2, w2 = put7 w1 b0 (.slice a1 n1 n1) (.slice a2 n2 n2) (.slice a3 n3 n3) (.slice a4 n4 n4) (.slice a5 n5 n5) (.slice a6 n6 n6) (.slice a7 n7 n7) := ⟨_, rfl⟩
    rw [← e2] at HA2 r1 HV2
    have EW2 : Hid (w2 = (((((((w1.setCell ⟨b0, 0, none⟩ (.slice a1 n1 n1)).setCell ⟨b0, 1, none⟩ (.slice a2 n2 n2)).setCell ⟨b0, 2, none⟩ (.slice a3 n3 n3)).setCell ⟨b0, 3, none⟩ (.slice a4 n4 n4)).setCell ⟨b0, 4, none⟩ (.slice a5 n5 n5)).setCell ⟨b0, 5, none⟩ (.slice a6 n6 n6)).setCell ⟨b0, 6, none⟩ (.slice a7 n7 n7))) := e2
    have y0 := HA2.out.c0 0 _ rfl
    have y1 := HA2.out.c0 1 _ rfl
    have y2 := HA2.out.c0 2 _ rfl
    have y3 := HA2.out.c0 3 _ rfl
    have y4 := HA2.out.c0 4 _ rfl
    have y5 := HA2.out.c0 5 _ rfl
    have y6 := HA2.out.c0 6 _ rfl
    have f0 := HA2.out.f0
    have f1 := HA2.out.f1
    have zb := HA2.out.z0
    have zf := HA2.out.z1
    clear e2
    dsimp only
    go_upto_region 4 with fail
    rw [← EW2.out]
    clear EW2 x0 x1 x2 x3 x4 x5 x6 zz
    by_cases hul : (u : Int) < (zs.length : Int)
    · have HG := hid (fun w => give_up 4 (u : Int) w)
      obtain ⟨w3, ew, q0, q1, q2, hb⟩ := HA2.out.gave 4 (u : Int) (.cells #[.int .i64 4, .int .i64 (u : Int)] 129)
      have x0 := q0 0 _ rfl
      have x1 := q0 1 _ rfl
      have x2 := q0 2 _ rfl
      have x3 := q0 3 _ rfl
      have x4 := q0 4 _ rfl
      have x5 := q0 5 _ rfl
      have x6 := q0 6 _ rfl
      have EW3 := hid ew
      have HQ : Hid (w3.cell? ⟨b1, 0, none⟩ = some (.int .i64 4) ∧ w3.cell? ⟨b1, 1, none⟩ = some (.int .i64 (u : Int))) := ⟨q1, q2⟩
      have HB3 := hid hb
      clear ew q0 q1 q2 hb
      go_wp2_with fail
      refine (HG.out _).mono ?_
      rintro e w4 ⟨rfl, rfl⟩
      dsimp only
      refine leaves_cons (f := 73) (args := #[.pointer (some ⟨b1, 0, none⟩)]) (by simp) (by simp [go_sem]) ?_
      refine (catch_gave b1 4 (u : Int) _ 0 0 f0 f1 (zf 0) (zf 1)).mono ?_
      rintro e u' w'' ⟨rfl, rfl, rfl⟩
      rw [← EW3.out]
      clear EW3
      have q1 := HQ.out.1
      have q2 := HQ.out.2
      simp [Leaves, settle, results, Tryz.results32, go_sem, x0, x1, x2, x3, x4, x5, x6, q1, q2]
      unfold ReadDone
      rw [hq]
      exact ⟨HB3.out, .inl ⟨by omega, _, ⟨_, _, _, _, _, _, _, _, _, _, _, _, _, _, rfl⟩, rfl⟩⟩
    · have HUL : Hid (u = zs.length) := by have := HU.out; show u = zs.length; omega
      have p0 := put_same y0
      have p1 := put_same y1
      have p2 := put_same y2
      have p3 := put_same y3
      have p4 := put_same y4
      have p5 := put_same y5
      have p6 := put_same y6
      have g0 := put_same f0
      have g1 := put_same f1
      go_wp2_with fail
      refine leaves_cons (f := 73) (args := #[.pointer (some ⟨b1, 0, none⟩)]) (by simp) (by simp [go_sem]) ?_
      refine (catch_idle ⟨b1, 0, none⟩ _).mono ?_
      rintro e u' w'' ⟨rfl, rfl, rfl⟩
      simp [Leaves, settle, results, Tryz.results32, go_sem, y0, y1, y2, y3, y4, y5, y6, f0, f1]
      unfold ReadDone
      rw [hq]
      exact ⟨HA2.out.bel, .inr ⟨HUL.out, _, HV2.out, rfl⟩⟩
end Go.Proofs.YtedeiaokohdhpaaGreat
