/- Texts of one chain, joined: MLay, MSearch. -/
import Derived.Test.YtffbnggdckjogaaGreatG12
import Derived.Test.YtffbnggdckjogaaGreatG13
import Derived.Shelf.SlSortCmp.QuietGrown
namespace Go.Proofs.YtffbnggdckjogaaGreat
open Go.RowKit Mth
structure MD where
  ka : Option Addr
  kn : Nat
  kc : Nat
  ma : Option Addr
  mn : Nat
  mc : Nat
  ln : Int
  pr : Int
  ac : Int
  a : Option Addr
  n : Nat
  c : Nat
abbrev MD.ev (d : MD) : Value := EV d.ka d.kn d.kc d.ma d.mn d.mc d.ln d.pr d.ac d.a d.n d.c
abbrev MD.ec (d : MD) : Obj := EC d.ka d.kn d.kc d.ma d.mn d.mc d.ln d.pr d.ac d.a d.n d.c
def MD.cells (d : MD) : List Value := [.slice d.ka d.kn d.kc, .slice d.ma d.mn d.mc, .int .i64 d.ln, .int .i64 d.pr, .int .i64 d.ac, .slice d.a d.n d.c]
structure MD.good (d : MD) (w : World) (e : TE) : Prop where
  kn0 : d.ka = none → d.kn = 0 ∧ d.kc = 0
  ks3 : d.kn ≤ 1000
  ks : Has .u64 w d.ka d.kn e.ks
  mn0 : d.ma = none → d.mn = 0 ∧ d.mc = 0
  ms3 : d.mn ≤ 1000
  ms : Has .u64 w d.ma d.mn e.ms
  pr : d.pr = e.pr
  ac : d.ac = e.ac
  n0 : d.a = none → d.n = 0 ∧ d.c = 0
  xs3 : d.n ≤ 1000
  xs : Has .u64 w d.a d.n e.xs
def MD.new (d : MD) (B : Nat) : Prop := From B d.ka d.kn ∧ From B d.ma d.mn ∧ From B d.a d.n
theorem MD.good.keep {d : MD} {w w' : World} {e : TE} (h : d.good w e) (f : d.new 0) (hh : ∀ (a : Option Addr) (m : Nat) (zs : List Int), From 0 a m → Has .u64 w a m zs → Has .u64 w' a m zs) : d.good w' e :=
  ⟨h.kn0, h.ks3, hh _ _ _ f.1 h.ks, h.mn0, h.ms3, hh _ _ _ f.2.1 h.ms, h.pr, h.ac, h.n0, h.xs3, hh _ _ _ f.2.2 h.xs⟩
theorem MD.good.step {d : MD} {w w' : World} {e : TE} (h : d.good w e) (hb : Below w.heap.size w w') : d.good w' e :=
  ⟨h.kn0, h.ks3, h.ks.step hb, h.mn0, h.ms3, h.ms.step hb, h.pr, h.ac, h.n0, h.xs3, h.xs.step hb⟩
def Grew (w w' : World) : Prop := ∃ q os, w' = Sort.grow (w.drewN q) os
theorem below_grow (w : World) (q : Nat) (os : Array Obj) : Below w.heap.size w (Sort.grow (w.drewN q) os) :=
  ⟨rfl, rfl, rfl, by simp only [Sort.size_grow]; exact Nat.le_add_right _ _, fun k hk => Sort.heap_grow_old (w.drewN q) os hk⟩
theorem Grew.below {w w' : World} (h : Grew w w') : Below w.heap.size w w' := by obtain ⟨q, os, rfl⟩ := h; exact below_grow w q os
theorem grew_refl (w : World) : Grew w w := ⟨0, #[], by rw [Sort.grow_empty]; rfl⟩
theorem grew_alloc (w : World) (o : Obj) (s : Nat) : Grew w ((w.alloc o).drewN s) := ⟨s, #[o], by rw [Sort.alloc_eq_grow]; rfl⟩
theorem grew_alloc2 (w : World) (o o' : Obj) (s : Nat) : Grew w (((w.alloc o).alloc o').drewN s) := ⟨s, #[o, o'], by rw [Sort.alloc_eq_grow, Sort.alloc_eq_grow, Sort.grow_grow]; rfl⟩
theorem Grew.trans {a b c : World} (h : Grew a b) (k : Grew b c) : Grew a c := by
  obtain ⟨q, os, rfl⟩ := h
  obtain ⟨q', os', rfl⟩ := k
  exact ⟨q + q', os ++ os', by show Sort.grow (Sort.grow ((a.drewN q).drewN q') os) os' = _; rw [Sort.grow_grow, World.drewN_drewN]⟩
def CmpDone (w w' : World) (v : Int) (e : Ending) : Prop := e = .returned (.int .i64 v) ∧ Grew w w'
theorem keep33 {w w' : World} {s t : Nat} {x0 x1 x3 y0 y1 y3 : Value} (h : w.cell? ⟨s, 0, none⟩ = some x0 ∧ w.cell? ⟨s, 1, none⟩ = some x1 ∧ w.cell? ⟨s, 3, none⟩ = some x3 ∧ w.cell? ⟨t, 0, none⟩ = some y0 ∧ w.cell? ⟨t, 1, none⟩ = some y1 ∧ w.cell? ⟨t, 3, none⟩ = some y3) (hb : Below w.heap.size w w') :
    w'.cell? ⟨s, 0, none⟩ = some x0 ∧ w'.cell? ⟨s, 1, none⟩ = some x1 ∧ w'.cell? ⟨s, 3, none⟩ = some x3 ∧ w'.cell? ⟨t, 0, none⟩ = some y0 ∧ w'.cell? ⟨t, 1, none⟩ = some y1 ∧ w'.cell? ⟨t, 3, none⟩ = some y3 := by
  have hs := World.block_lt_of_cell? w _ h.1
  have ht := World.block_lt_of_cell? w _ h.2.2.2.1
  have cs : ∀ i, w'.cell? ⟨s, i, none⟩ = w.cell? ⟨s, i, none⟩ := fun i => hb.cell (p := ⟨s, i, none⟩) hs
  have ct : ∀ i, w'.cell? ⟨t, i, none⟩ = w.cell? ⟨t, i, none⟩ := fun i => hb.cell (p := ⟨t, i, none⟩) ht
  rw [cs, cs, cs, ct, ct, ct]
  exact h
theorem grew_three (w : World) (o o' o'' : Obj) : Grew w (((w.alloc o).alloc o').alloc o'').drew := ⟨1, #[o, o', o''], by rw [Sort.alloc_eq_grow, Sort.alloc_eq_grow, Sort.alloc_eq_grow, Sort.grow_grow, Sort.grow_grow]; rfl⟩
theorem three_new (w : World) (x y z : Value) (t : TypeId) : (w.alloc (.cells #[x, y, z] t)).cell? ⟨w.heap.size, 0, none⟩ = some x ∧ (w.alloc (.cells #[x, y, z] t)).cell? ⟨w.heap.size, 1, none⟩ = some y ∧ (w.alloc (.cells #[x, y, z] t)).cell? ⟨w.heap.size, 2, none⟩ = some z := ⟨by simp, by simp, by simp⟩
set_option maxHeartbeats 4000000 in
set_option maxRecDepth 20000 in
theorem place1_any {w : World} {d f : MD} {x e : TE} (hd : d.good w x) (hf : f.good w e) (hk : f.kn = d.kn) (hm : f.mn = d.mn) :
    Calls Tryz.prog 134 #[d.ev, f.ev] w fun r w' => CmpDone w w' (cmpE x e) r := by
  obtain ⟨dka, dkn, dkc, dma, dmn, dmc, dln, dpr, dac, da, dn, dc⟩ := d
  obtain ⟨fka, fkn, fkc, fma, fmn, fmc, fln, fpr, fac, fa, fn, fc⟩ := f
  obtain ⟨-, h3, hks, -, h4, hms, hpr, -, -, -, -⟩ := hd
  obtain ⟨-, -, gks, -, -, gms, gpr, -, -, -, -⟩ := hf
  simp only at *
  subst hk; subst hm; subst hpr; subst gpr
  have hb0 := bl_alloc (o := EC fka fkn fkc fma fmn fmc fln e.pr fac fa fn fc) (bl_alloc (o := EC dka fkn dkc dma fmn dmc dln x.pr dac da dn dc) (Below.refl w.heap.size w))
  have HK := hid (lex_any dkc fkc h3 ((hks.step hb0).drew) ((gks.step hb0).drew))
  have HM := hid (lex_any dmc fmc h4 ((hms.step hb0).drew) ((gms.step hb0).drew))
  have T1 := (six_new w (.slice dka fkn dkc) (.slice dma fmn dmc) (.int .i64 dln) (.int .i64 x.pr) (.int .i64 dac) (.slice da dn dc) 38).step (bl_alloc (o := EC fka fkn fkc fma fmn fmc fln e.pr fac fa fn fc) (Below.refl _ _))
  have T2 := six_new (w.alloc (EC dka fkn dkc dma fmn dmc dln x.pr dac da dn dc)) (.slice fka fkn fkc) (.slice fma fmn fmc) (.int .i64 fln) (.int .i64 e.pr) (.int .i64 fac) (.slice fa fn fc) 38
  rw [show (w.alloc (EC dka fkn dkc dma fmn dmc dln x.pr dac da dn dc)).heap.size = w.heap.size + 1 from by simp] at T2
  have HGR := hid (fun o => grew_three w (EC dka fkn dkc dma fmn dmc dln x.pr dac da dn dc) (EC fka fkn fkc fma fmn fmc fln e.pr fac fa fn fc) o)
  unfold cmpE
  generalize hu : lexO x.ks e.ks = u at *
  generalize hv : lexO x.ms e.ms = v at *
  generalize ho : (if ord x.pr e.pr ≠ 0 then ord x.pr e.pr else if u ≠ 0 then u else v) = o
  have HO := hid ho
  clear hks hms gks gms hb0 hu hv ho
  go_enter Tryz.func134, Tryz.ntmps134
  go_wp2
  generalize (w.alloc (EC dka fkn dkc dma fmn dmc dln x.pr dac da dn dc)).alloc (EC fka fkn fkc fma fmn fmc fln e.pr fac fa fn fc) = w0 at *
  obtain ⟨k0, k1, -, k3, -, -, -, -, -, -, -, -⟩ := T1
  obtain ⟨l0, l1, -, l3, -, -, -, -, -, -, -, -⟩ := T2
  go_region_held3 (fun w' => w'.cell? ⟨w.heap.size, 0, none⟩ = some (.slice dka fkn dkc) ∧ w'.cell? ⟨w.heap.size, 1, none⟩ = some (.slice dma fmn dmc) ∧ w'.cell? ⟨w.heap.size, 3, none⟩ = some (.int .i64 x.pr) ∧ w'.cell? ⟨w.heap.size + 1, 0, none⟩ = some (.slice fka fkn fkc) ∧ w'.cell? ⟨w.heap.size + 1, 1, none⟩ = some (.slice fma fmn fmc) ∧ w'.cell? ⟨w.heap.size + 1, 3, none⟩ = some (.int .i64 e.pr))
    (first
      | go_keep
      | (go_split_ands
         first
         | exact ⟨by assumption, by assumption, by assumption, by assumption, by assumption, by assumption⟩
         | exact keep33 ⟨by assumption, by assumption, by assumption, by assumption, by assumption, by assumption⟩ (bl_alloc (Below.refl _ _))))
    (first
      | (go_at_call 135; refine (cmpI_any _ _ _).mono ?_; rintro e w1 ⟨rfl, rfl⟩)
      | (go_at_call 136; with_reducible refine HK.out.mono ?_; rintro e w1 ⟨rfl, rfl⟩)
      | (go_at_call 136; with_reducible refine HM.out.mono ?_; rintro e w1 ⟨rfl, rfl⟩)
      | (go_at_call 31; refine (or_any o HO.out (w := (w0.alloc (.cells #[.int .i64 (ord x.pr e.pr), .int .i64 u, .int .i64 v] 3)).drew) (three_new w0 _ _ _ _).1 (three_new w0 _ _ _ _).2.1 (three_new w0 _ _ _ _).2.2).mono ?_; rintro e w1 ⟨rfl, rfl⟩))
  all_goals
    go_wp2
    go_ret
    exact ⟨rfl, HGR.out _⟩
end Go.Proofs.YtffbnggdckjogaaGreat

namespace Go.Proofs.YtffbnggdckjogaaGreat
open Go.RowKit Mth
theorem mflat_at (ds : List MD) (i j : Nat) (hi : i < ds.length) (hj : j < 6) : (ds.flatMap MD.cells)[6 * i + j]? = (ds[i]).cells[j]? := by
  induction ds generalizing i with
  | nil => simp at hi
  | cons d ds ih =>
    cases i with
    | zero =>
      simp only [List.flatMap_cons, Nat.mul_zero, Nat.zero_add, List.getElem_cons_zero]
      rw [List.getElem?_append_left (by simp [MD.cells]; omega)]
    | succ i =>
      simp only [List.flatMap_cons, List.getElem_cons_succ]
      rw [List.getElem?_append_right (by simp [MD.cells]; omega)]
      have : 6 * (i + 1) + j - (MD.cells d).length = 6 * i + j := by simp [MD.cells]; omega
      rw [this]
      exact ih i (by simpa using hi)
structure MD.at (d : MD) (w : World) (g o : Nat) : Prop where
  c0 : w.cell? ⟨g, o, none⟩ = some (.slice d.ka d.kn d.kc)
  c1 : w.cell? ⟨g, o + 1, none⟩ = some (.slice d.ma d.mn d.mc)
  c2 : w.cell? ⟨g, o + 2, none⟩ = some (.int .i64 d.ln)
  c3 : w.cell? ⟨g, o + 3, none⟩ = some (.int .i64 d.pr)
  c4 : w.cell? ⟨g, o + 4, none⟩ = some (.int .i64 d.ac)
  c5 : w.cell? ⟨g, o + 5, none⟩ = some (.slice d.a d.n d.c)
theorem MD.at.step {d : MD} {w w' : World} {g o : Nat} (h : d.at w g o) (hb : Below w.heap.size w w') : d.at w' g o := by
  have hg := World.block_lt_of_cell? w _ h.c0
  have cs : ∀ i, w'.cell? ⟨g, i, none⟩ = w.cell? ⟨g, i, none⟩ := fun i => hb.cell (p := ⟨g, i, none⟩) hg
  exact ⟨(cs _).trans h.c0, (cs _).trans h.c1, (cs _).trans h.c2, (cs _).trans h.c3, (cs _).trans h.c4, (cs _).trans h.c5⟩
def MRow (w : World) (B : Nat) (la : Option Addr) (n cap : Nat) (T : List TE) : Prop :=
  (∃ ds : List MD, ds.length = n ∧ T.length = n ∧ w.ownsRow B 38 6 (.slice la n cap) n (ds.flatMap MD.cells) ∧ ∀ (i : Nat) (d : MD) (e : TE), ds[i]? = some d → T[i]? = some e → d.good w e ∧ d.new 0 ∧ d.ln = 0) ∧
  ∀ g, la = some ⟨g, 0, none⟩ → ∃ a m c, w.cell? ⟨g, 0, none⟩ = some (.slice a m c)
theorem mrow_nil (w : World) (B : Nat) : MRow w B none 0 0 [] := ⟨⟨[], rfl, rfl, World.ownsRow_nil _ _ _ _, by simp⟩, by simp⟩
theorem MRow.len {w : World} {B : Nat} {la : Option Addr} {n cap : Nat} {T : List TE} (h : MRow w B la n cap T) : T.length = n := by obtain ⟨⟨_, _, h, _⟩, _⟩ := h; exact h
theorem MRow.some {w : World} {B : Nat} {la : Option Addr} {n cap : Nat} {T : List TE} (h : MRow w B la n cap T) (h0 : 0 < n) : ∃ g, la = some ⟨g, 0, none⟩ ∧ B ≤ g ∧ g < w.heap.size := by
  obtain ⟨⟨ds, _, _, ho, _⟩, _⟩ := h
  rcases ho.2 with ⟨_, e⟩ | ⟨g, cap', cur, e, hb, hh, _⟩
  · omega
  · simp only [Value.slice.injEq] at e
    exact ⟨g, e.1, hb, (Array.getElem?_eq_some_iff.1 hh).1⟩
theorem MRow.at {w : World} {B : Nat} {la : Option Addr} {n cap : Nat} {T : List TE} (h : MRow w B la n cap T) (i : Nat) (hi : i < n) : ∃ g, ∃ d : MD, ∃ e : TE, la = .some ⟨g, 0, none⟩ ∧ T[i]? = .some e ∧ d.at w g (i * 6) ∧ d.good w e ∧ d.new 0 ∧ d.ln = 0 := by
  obtain ⟨g, e0, _, _⟩ := h.some (by omega)
  obtain ⟨⟨ds, hl, hE, ho, hg⟩, _⟩ := h
  subst e0
  have hd : ds[i]? = .some (ds[i]'(by omega)) := List.getElem?_eq_getElem _
  have he : T[i]? = .some (T[i]'(by omega)) := List.getElem?_eq_getElem _
  refine ⟨g, ds[i]'(by omega), T[i]'(by omega), rfl, he, ?_, hg i _ _ hd he⟩
  have key : ∀ j, j < 6 → w.cell? ⟨g, i * 6 + j, none⟩ = (ds[i]'(by omega)).cells[j]? := by
    intro j hj
    rw [ho.cellAt (i * 6 + j) (by omega), Nat.mul_comm i 6]
    exact mflat_at ds i j (by omega) hj
  exact ⟨key 0 (by omega), key 1 (by omega), key 2 (by omega), key 3 (by omega), key 4 (by omega), key 5 (by omega)⟩
theorem MRow.lt {w : World} {B : Nat} {la : Option Addr} {n cap : Nat} {T : List TE} (h : MRow w B la n cap T) (g : Nat) (e : la = .some ⟨g, 0, none⟩) : B ≤ g ∧ g < w.heap.size := by
  obtain ⟨⟨ds, _, _, ho, _⟩, _⟩ := h
  exact ho.lt g (by rw [e]; rfl)
theorem MRow.keep {w w' : World} {B : Nat} {la : Option Addr} {n cap : Nat} {T : List TE} (h : MRow w B la n cap T) (hb : ∀ g, la = .some ⟨g, 0, none⟩ → w'.heap[g]? = w.heap[g]?) (hh : ∀ (a : Option Addr) (m : Nat) (zs : List Int), From 0 a m → Has .u64 w a m zs → Has .u64 w' a m zs) : MRow w' B la n cap T := by
  obtain ⟨⟨ds, hl, hE, ho, hg⟩, h0⟩ := h
  refine ⟨⟨ds, hl, hE, ⟨ho.1, ?_⟩, fun i d e hd he => ?_⟩, fun g e => ?_⟩
  · rcases ho.2 with h2 | ⟨g, cap', cur, hv, hbg, hh', r⟩
    · exact .inl h2
    · refine .inr ⟨g, cap', cur, hv, hbg, ?_, r⟩
      simp only [Value.slice.injEq] at hv
      rw [hb g hv.1]; exact hh'
  · obtain ⟨g1, g2, g3⟩ := hg i d e hd he
    exact ⟨g1.keep g2 hh, g2, g3⟩
  · obtain ⟨a, m, c, hc⟩ := h0 g e
    exact ⟨a, m, c, (World.cell?_of_block (w := w) (w' := w') (a := ⟨g, 0, none⟩) (hb g e)).trans hc⟩
theorem MRow.step {w w' : World} {B : Nat} {la : Option Addr} {n cap : Nat} {T : List TE} (h : MRow w B la n cap T) (hb : Below w.heap.size w w') : MRow w' B la n cap T :=
  h.keep (fun g e => hb.block g (h.lt g e).2) (fun _ _ _ _ hz => hz.step hb)
structure Srch (T : List TE) (e : TE) (i j : Nat) : Prop where
  le : i ≤ j
  jn : j ≤ T.length
  lo : ∀ t x, t < i → T[t]? = some x → cmpE x e < 0
  hi : ∀ t x, j ≤ t → T[t]? = some x → ¬ cmpE x e < 0
theorem srch_zero (T : List TE) (e : TE) : Srch T e 0 T.length := ⟨Nat.zero_le _, Nat.le_refl _, fun t x h => absurd h (Nat.not_lt_zero _), fun t x h hx => by
  rw [List.getElem?_eq_none h] at hx; cases hx⟩
theorem srch_up {T : List TE} {e : TE} {i j m : Nat} {y : TE} (s : SortedM T) (h : Srch T e i j) (h2 : m < j) (hy : T[m]? = some y) (hc : cmpE y e < 0) : Srch T e (m + 1) j :=
  ⟨h2, h.jn, fun t x ht hx => sorted_mono s (show t ≤ m by omega) hx hy hc, h.hi⟩
theorem srch_down {T : List TE} {e : TE} {i j m : Nat} {y : TE} (s : SortedM T) (h : Srch T e i j) (h1 : i ≤ m) (h2 : m < j) (hy : T[m]? = some y) (hc : ¬ cmpE y e < 0) : Srch T e i m :=
  ⟨h1, by have := h.jn; omega, h.lo, fun t x ht hx hcx => hc (sorted_mono s ht hy hx hcx)⟩
theorem srch_cut {T : List TE} {e : TE} {i : Nat} (h : Srch T e i i) : Cut T e i := ⟨h.jn, h.lo, h.hi⟩
def SearchDone (w w' : World) (T : List TE) (e : TE) (r : Ending) : Prop :=
  ∃ (i : Nat) (f : Bool), r = .returned (.tuple #[.int .i64 i, .bool f]) ∧ Cut T e i ∧ (f = true ↔ ∃ x, T[i]? = some x ∧ cmpE x e = 0) ∧ Grew w w'
set_option maxHeartbeats 4000000 in
set_option maxRecDepth 20000 in
theorem bs_any {w : World} {B : Nat} {la : Option Addr} {n cap : Nat} {T : List TE} {f : MD} {e : TE} (hr : MRow w B la n cap T) (hf : f.good w e) (hs : SortedM T) (hg : ∀ x ∈ T, x.ks.length = f.kn ∧ x.ms.length = f.mn) (hn : n ≤ 100000) :
    Calls Tryz.prog 133 #[.slice la n cap, f.ev, .func (.func 134) #[] #[]] w fun r w' => SearchDone w w' T e r := by
  have hal := bl_alloc (o := f.ec) (Below.refl w.heap.size w)
  have HR := hid (hr.step hal)
  have HF := hid (hf.step hal)
  have HS := hid hs
  have HG := hid hg
  have hlen := hr.len
  have SX := hid (six_new w (.slice f.ka f.kn f.kc) (.slice f.ma f.mn f.mc) (.int .i64 f.ln) (.int .i64 f.pr) (.int .i64 f.ac) (.slice f.a f.n f.c) 38)
  have HG0 := hid (show Grew w (w.alloc f.ec) from ⟨0, #[f.ec], by rw [Sort.alloc_eq_grow]; rfl⟩)
  clear hr hf hs hg hal
  go_enter Tryz.func133, Tryz.ntmps133
  go_wp2_with fail
  generalize w.alloc f.ec = w0 at *
  go_loopw [9, 10] (fun p q wr => ∃ i j : Nat, p = .int .i64 i ∧ q = .int .i64 j ∧ Hid (Srch T e i j) ∧ Hid (Grew w0 wr)) (fun p q _ => (intOf q).toNat - (intOf p).toNat)
  case atStart => exact ⟨0, n, rfl, rfl, by rw [← hlen]; exact srch_zero T e, grew_refl _⟩
  case round =>
    obtain ⟨i, j, rfl, rfl, hsr, hgr⟩ := hrel
    have hij := hsr.out.le
    have hjn := hsr.out.jn
    by_cases hlt : i < j
    · have hlti : (i : Int) < (j : Int) := by omega
      obtain ⟨m, hm⟩ : ∃ m, m = (i + j) / 2 := ⟨_, rfl⟩
      have hm1 : i ≤ m := by omega
      have hm2 : m < j := by omega
      have hmi : ((i : Int) + (j : Int)) / 2 = (m : Int) := by omega
      obtain ⟨g, d, y, rfl, hy, hat, hgd, -, -⟩ := (HR.out.step hgr.out.below).at m (by omega)
      have hgl : g < wr.heap.size := World.block_lt_of_cell? wr _ hat.c0
      have hxl := HG.out y (List.mem_of_getElem? hy)
      have S1 := SX.out.step hgr.out.below
      have hwl : w.heap.size < wr.heap.size := World.block_lt_of_cell? wr _ S1.k0
      have E0 := cell_grown (a := ⟨g, m * 6, none⟩) hgl hat.c0
      have E1 := cell_grown (a := ⟨g, m * 6 + 1, none⟩) hgl hat.c1
      have E2 := cell_grown (a := ⟨g, m * 6 + 2, none⟩) hgl hat.c2
      have E3 := cell_grown (a := ⟨g, m * 6 + 3, none⟩) hgl hat.c3
      have E4 := cell_grown (a := ⟨g, m * 6 + 4, none⟩) hgl hat.c4
      have E5 := cell_grown (a := ⟨g, m * 6 + 5, none⟩) hgl hat.c5
      have O0 := cell_grown (a := ⟨w.heap.size, 0, none⟩) hwl S1.k0
      have O1 := cell_grown (a := ⟨w.heap.size, 1, none⟩) hwl S1.k1
      have O2 := cell_grown (a := ⟨w.heap.size, 2, none⟩) hwl S1.k2
      have O3 := cell_grown (a := ⟨w.heap.size, 3, none⟩) hwl S1.k3
      have O4 := cell_grown (a := ⟨w.heap.size, 4, none⟩) hwl S1.k4
      have O5 := cell_grown (a := ⟨w.heap.size, 5, none⟩) hwl S1.k5
      have HC := hid (fun q os => place1_any (w := Sort.grow (wr.drewN q) os) (d := d) (f := f) (hgd.step (below_grow wr q os)) ((HF.out.step hgr.out.below).step (below_grow wr q os)) (by rw [← hxl.1, hgd.ks.1]) (by rw [← hxl.2, hgd.ms.1]))
      have HY := hid hy
      have hmn : (m : Int) < (n : Int) := by omega
      have hm0 : (0 : Int) ≤ (m : Int) := by omega
      clear hat hgd S1 hy hm
      go_wp2_with fail
      by_cases hc : cmpE y e < 0
      · have HN := hid (srch_up HS.out hsr.out hm2 HY.out hc)
        generalize cmpE y e = cv at *
        have hcd : decide (cv < 0) = true := decide_eq_true hc
        refine wp_region_quiet_grown (by kernel_rfl) (by kernel_rfl) ?_
        repeat (go_big_quiet_step ((go_at_call 134; exact Calls.grown_of (HC.out _ _))))
        refine wpQuiet_nil ?_
        intro _ hw'
        obtain ⟨⟨nq, osq⟩, hw''⟩ := hw'
        subst hw''
        have HGR := hid (hgr.out.trans ⟨nq, osq, rfl⟩)
        clear HC E0 E1 E2 E3 E4 E5 O0 O1 O2 O3 O4 O5
        go_wp2
        go_roundw
        case rel => exact ⟨m + 1, j, by go_num, rfl, HN.out, HGR.out⟩
        case measure => simp [intOf]; omega
      · have HN := hid (srch_down HS.out hsr.out hm1 hm2 HY.out hc)
        generalize cmpE y e = cv at *
        have hcd : decide (cv < 0) = false := decide_eq_false hc
        refine wp_region_quiet_grown (by kernel_rfl) (by kernel_rfl) ?_
        repeat (go_big_quiet_step ((go_at_call 134; exact Calls.grown_of (HC.out _ _))))
        refine wpQuiet_nil ?_
        intro _ hw'
        obtain ⟨⟨nq, osq⟩, hw''⟩ := hw'
        subst hw''
        have HGR := hid (hgr.out.trans ⟨nq, osq, rfl⟩)
        clear HC E0 E1 E2 E3 E4 E5 O0 O1 O2 O3 O4 O5
        go_wp2
        go_roundw
        case rel => exact ⟨i, m, rfl, rfl, HN.out, HGR.out⟩
        case measure => simp [intOf]; omega
    · have ej : j = i := by omega
      subst ej
      have HCUT := hid (srch_cut hsr.out)
      by_cases hin : j < n
      · obtain ⟨g, d, y, rfl, hy, hat, hgd, -, -⟩ := (HR.out.step hgr.out.below).at j hin
        have hgl : g < wr.heap.size := World.block_lt_of_cell? wr _ hat.c0
        have hxl := HG.out y (List.mem_of_getElem? hy)
        have S1 := SX.out.step hgr.out.below
        have hwl : w.heap.size < wr.heap.size := World.block_lt_of_cell? wr _ S1.k0
        have E0 := cell_grown (a := ⟨g, j * 6, none⟩) hgl hat.c0
        have E1 := cell_grown (a := ⟨g, j * 6 + 1, none⟩) hgl hat.c1
        have E2 := cell_grown (a := ⟨g, j * 6 + 2, none⟩) hgl hat.c2
        have E3 := cell_grown (a := ⟨g, j * 6 + 3, none⟩) hgl hat.c3
        have E4 := cell_grown (a := ⟨g, j * 6 + 4, none⟩) hgl hat.c4
        have E5 := cell_grown (a := ⟨g, j * 6 + 5, none⟩) hgl hat.c5
        have O0 := cell_grown (a := ⟨w.heap.size, 0, none⟩) hwl S1.k0
        have O1 := cell_grown (a := ⟨w.heap.size, 1, none⟩) hwl S1.k1
        have O2 := cell_grown (a := ⟨w.heap.size, 2, none⟩) hwl S1.k2
        have O3 := cell_grown (a := ⟨w.heap.size, 3, none⟩) hwl S1.k3
        have O4 := cell_grown (a := ⟨w.heap.size, 4, none⟩) hwl S1.k4
        have O5 := cell_grown (a := ⟨w.heap.size, 5, none⟩) hwl S1.k5
        have HC := hid (fun q os => place1_any (w := Sort.grow (wr.drewN q) os) (d := d) (f := f) (hgd.step (below_grow wr q os)) ((HF.out.step hgr.out.below).step (below_grow wr q os)) (by rw [← hxl.1, hgd.ks.1]) (by rw [← hxl.2, hgd.ms.1]))
        have hfo : (decide (cmpE y e = 0) = true) ↔ ∃ x, T[j]? = some x ∧ cmpE x e = 0 := by
          rw [decide_eq_true_iff, hy]; simp
        generalize hb : decide (cmpE y e = 0) = bv at *
        have hbq : (cmpE y e == 0) = bv := by rw [← hb]; rfl
        have HFO := hid hfo
        have hji : (j : Int) < (n : Int) := by omega
        have hjd : decide ((j : Int) < (n : Int)) = true := decide_eq_true hji
        clear hat hgd S1 hy hfo hb
        generalize cmpE y e = cv at *
        go_wp2_with fail
        refine wp_region_quiet_grown (by kernel_rfl) (by kernel_rfl) ?_
        repeat (go_big_quiet_step ((go_at_call 134; exact Calls.grown_of (HC.out _ _))))
        refine wpQuiet_nil ?_
        intro _ hw'
        obtain ⟨⟨nq, osq⟩, hw''⟩ := hw'
        subst hw''
        have HGR := hid (HG0.out.trans (hgr.out.trans ⟨nq, osq, rfl⟩))
        clear HC E0 E1 E2 E3 E4 E5 O0 O1 O2 O3 O4 O5
        go_wp2
        exact bodyPost_ret (v := .tuple #[.int .i64 j, .bool bv]) (by simp [results, Tryz.results133, go_sem]) rfl ⟨j, bv, rfl, HCUT.out, HFO.out, HGR.out⟩
      · have hjd : decide ((j : Int) < (n : Int)) = false := decide_eq_false (by omega)
        have HFO : Hid ((false = true) ↔ ∃ x, T[j]? = some x ∧ cmpE x e = 0) := ⟨fun h => (by cases h), fun ⟨x, hx, _⟩ => by rw [List.getElem?_eq_none (by omega)] at hx; cases hx⟩
        go_wp2_with fail
        go_quiet (fail)
        have HGR := hid (HG0.out.trans (hgr.out.trans ⟨nq, #[], by rw [Sort.grow_empty]⟩))
        go_wp2
        exact bodyPost_ret (v := .tuple #[.int .i64 j, .bool false]) (by simp [results, Tryz.results133, go_sem]) rfl ⟨j, false, rfl, HCUT.out, HFO.out, HGR.out⟩
end Go.Proofs.YtffbnggdckjogaaGreat
