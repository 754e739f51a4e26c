/- Texts of one chain, joined: HGf0, HGf2. -/
import Derived.Test.YtmohffibkpecpaaVHBdNum
import Derived.Test.YtmohffibkpecpaaVHBdMove
import Derived.Test.YtmohffibkpecpaaVHBdBin
import Derived.Test.YtmohffibkpecpaaJD
import Derived.Test.YtmohffibkpecpaaVHBdLoad
import Derived.Test.YtmohffibkpecpaaVHBdGet
import Derived.Test.YtmohffibkpecpaaJE
import Derived.Test.YtmohffibkpecpaaVHBdCall
import Derived.Test.YtmohffibkpecpaaVHMeet2
import Derived.Test.YtmohffibkpecpaaJC
import Derived.Test.YtmohffibkpecpaaJF
import Derived.Test.YtmohffibkpecpaaJB
namespace Go.Proofs.Ytmohffibkpecpaa
open Go.RowKit

theorem kbehind (d : ProgD) (x : InsD) (S : Nat) (hS : S ≤ 96) (q : KV) (s : SD) (N : Nat → Nat) (w : World) {m i : Nat} (hd : d.lie w) (hx : GOk d.slots d.ts m i x) (hsl : d.slots = S) (h : KLie S q s N w) (hok : s.ok) : Calls Try.prog 14 #[d.v, x.v, KV.v true q] w (BhIs S d.ts x s w) := by
  have ho := hx.op
  rcases (show x.op = 1 ∨ x.op = 2 ∨ x.op = 3 ∨ (x.op = 4 ∨ x.op = 5 ∨ x.op = 18) ∨ x.op = 6 ∨ x.op = 7 ∨ x.op = 8 ∨ (x.op = 9 ∨ x.op = 10 ∨ x.op = 11 ∨ x.op = 12 ∨ x.op = 14 ∨ x.op = 16 ∨ x.op = 17) ∨ x.op = 13 ∨ x.op = 15 by omega) with e | e | e | e | e | e | e | e | e | e
  · exact kbeh_num d x S hS q s N w hd hx hsl h hok e
  · exact kbeh_move d x S hS q s N w hd hx hsl h hok e
  · exact kbeh_bin d x S hS q s N w hd hx hsl h hok e
  · exact kbeh_any d x S hS q s N w hd hx hsl h hok e
  · exact kbeh_load d x S hS q s N w hd hx hsl h hok e
  · exact kbeh_get d x S hS q s N w hd hx hsl h hok e
  · exact kbeh_set d x S hS q s N w hd hx hsl h hok e
  · exact kbeh_none d x S hS q s N w hd hx hsl h hok e
  · exact kbeh_call d x S hS q s N w hd hx hsl h hok e
  · exact kbeh_tail d x S hS q s N w hd hx hsl h hok e
end Go.Proofs.Ytmohffibkpecpaa

namespace Go.Proofs.Ytmohffibkpecpaa
open Go.RowKit

structure GfAt (w : World) (d : ProgD) (S n ab pb fb lo : Nat) (A : Nat → Option SD) (X : Nat → Prop) (W : World) : Prop where
  g : AtG S n ab lo A X W
  bel : Below w.heap.size w W
  p : BoxC W pb #[.int .i64 d.slots, .slice d.tabs.a d.tabs.n d.tabs.c, .slice d.code.a d.code.n d.code.c] 25
  f : BoxC W fb #[.int .i64 0, .int .i64 0] 30
  lf : w.heap.size ≤ fb
  lab : w.heap.size ≤ ab

theorem box_ne {W : World} {b b' : Nat} {cs cs' : Array Value} {T T' : TypeId} (h : BoxC W b cs T) (h' : BoxC W b' cs' T') (hT : T ≠ T') : ¬ b = b' := fun e => by
  subst e
  have h1 : W.heap[b]? = some (.cells cs T (0, 0)) := h
  have h2 : W.heap[b]? = some (.cells cs' T' (0, 0)) := h'
  rw [h1] at h2
  simp only [Option.some.injEq, Obj.cells.injEq] at h2
  exact hT h2.2.1

variable {w : World} {d : ProgD} {S n ab pb fb lo : Nat} {A : Nat → Option SD} {X : Nat → Prop} {W : World}
theorem GfAt.step {W' : World} (h : GfAt w d S n ab pb fb lo A X W) (b : Below W.heap.size W W') : GfAt w d S n ab pb fb lo A X W' := ⟨h.g.step b, bl_step h.bel b, h.p.step b, h.f.step b, h.lf, h.lab⟩
theorem GfAt.up {lo' : Nat} (h : GfAt w d S n ab pb fb lo A X W) (hl : lo ≤ lo') : GfAt w d S n ab pb fb lo' A X W := ⟨h.g.up hl, h.bel, h.p, h.f, h.lf, h.lab⟩
theorem GfAt.fresh (h : GfAt w d S n ab pb fb lo A X W) : GfAt w d S n ab pb fb lo A (fun g => W.heap.size ≤ g) W := ⟨h.g.fresh, h.bel, h.p, h.f, h.lf, h.lab⟩
theorem GfAt.less {Y : Nat → Prop} (h : GfAt w d S n ab pb fb lo A X W) (hy : ∀ g, Y g → X g) : GfAt w d S n ab pb fb lo A Y W := ⟨h.g.less hy, h.bel, h.p, h.f, h.lf, h.lab⟩
theorem GfAt.put (h : GfAt w d S n ab pb fb lo A X W) {j : Nat} (h1 : lo ≤ j) (h2 : j ≤ n) {q : KV} {s : SD} {N : Nat → Nat} (hk : KOwn 0 S q s N W) (ok : s.ok) (hx : ∀ g, KBlk q g → ¬ X g) :
    GfAt w d S n ab pb fb lo (putA A j s) X (set6 W ab (j * 6) (.bool true) (.slice q.st.a q.st.n q.st.c) (.slice q.ju.a q.ju.n q.ju.c) (.slice q.nu.a q.nu.n q.nu.c) (.slice q.ro.a q.ro.n q.ro.c) (.slice q.sl.a q.sl.n q.sl.c)) := by
  obtain ⟨cs, hc⟩ := h.g.row
  exact ⟨h.g.put h1 h2 hk ok hx, set6_bel h.bel h.lab, set6_far h.p (box_ne hc h.p (by decide)), set6_far h.f (box_ne hc h.f (by decide)), h.lf, h.lab⟩
theorem GfAt.wipe (h : GfAt w d S n ab pb fb lo A X W) {v0 v1 v2 v3 v4 v5 : Value} : GfAt w d S n ab pb fb (lo + 1) A X (set6 W ab (lo * 6) v0 v1 v2 v3 v4 v5) := by
  obtain ⟨cs, hc⟩ := h.g.row
  exact ⟨h.g.wipe, set6_bel h.bel h.lab, set6_far h.p (box_ne hc h.p (by decide)), set6_far h.f (box_ne hc h.f (by decide)), h.lf, h.lab⟩
theorem GfAt.far (h : GfAt w d S n ab pb fb lo A X W) {g : Nat} (hg : X g) {cs : Array Value} {T : TypeId} (hb : BoxC W g cs T) (h1 : T ≠ 54) (h2 : T ≠ 25) (h3 : T ≠ 30) (hw : w.heap.size ≤ g) (o : Nat) (v : Value) : GfAt w d S n ab pb fb lo A X (W.setCell ⟨g, o, none⟩ v) := by
  obtain ⟨cs', hc⟩ := h.g.row
  exact ⟨h.g.far hg (box_ne hb hc h1) o v, hput1 h.bel hw o v, h.p.far (box_ne hb h.p h2) o v, h.f.far (box_ne hb h.f h3) o v, h.lf, h.lab⟩

/-- what behind has told: k, in a box -/
structure KBx (W9 : World) (S kb : Nat) (q : KV) (s : SD) (N : Nat → Nat) (c : Prop) (wx : World) : Prop where
  bel : Below W9.heap.size W9 wx
  box : BoxC wx kb (kvA true q) 54
  lo : W9.heap.size ≤ kb
  own : c → KOwn W9.heap.size S q s N wx

theorem kz_at {w w' : World} (h : Below (w.alloc (.cells zeroK 54)).heap.size (w.alloc (.cells zeroK 54)) w') : BoxC w' w.heap.size zeroK 54 := BoxC.step (boxc_new _ _ _ rfl) h
theorem kz_atD {w w' : World} (h : Below (w.alloc (.cells zeroK 54)).drew.heap.size (w.alloc (.cells zeroK 54)).drew w') : BoxC w' w.heap.size zeroK 54 := BoxC.step (BoxC.step (boxc_new (w := w) zeroK 54 _ rfl) (Below.refl _ _).drew) h
/-- the cells of a box of six -/
structure Box6 (W : World) (b : Nat) (v0 v1 v2 v3 v4 v5 : Value) : Prop where
  c0 : W.cell? ⟨b, 0, none⟩ = some v0
  c1 : W.cell? ⟨b, 1, none⟩ = some v1
  c2 : W.cell? ⟨b, 2, none⟩ = some v2
  c3 : W.cell? ⟨b, 3, none⟩ = some v3
  c4 : W.cell? ⟨b, 4, none⟩ = some v4
  c5 : W.cell? ⟨b, 5, none⟩ = some v5
  z0 : W.frozen? ⟨b, 0, none⟩ = false
  z1 : W.frozen? ⟨b, 1, none⟩ = false
  z2 : W.frozen? ⟨b, 2, none⟩ = false
  z3 : W.frozen? ⟨b, 3, none⟩ = false
  z4 : W.frozen? ⟨b, 4, none⟩ = false
  z5 : W.frozen? ⟨b, 5, none⟩ = false
  l : b < W.heap.size
theorem BoxC.six {W : World} {b : Nat} {v0 v1 v2 v3 v4 v5 : Value} {T : TypeId} (h : BoxC W b #[v0, v1, v2, v3, v4, v5] T) : Box6 W b v0 v1 v2 v3 v4 v5 := ⟨h.cell 0, h.cell 1, h.cell 2, h.cell 3, h.cell 4, h.cell 5, h.fz 0, h.fz 1, h.fz 2, h.fz 3, h.fz 4, h.fz 5, h.lt⟩

theorem kbx_new {W9 wy : World} {q : KV} {s : SD} {N : Nat → Nat} {c : Prop} (hb : Below W9.heap.size W9 wy) (hk : c → KOwn W9.heap.size S q s N wy) : KBx W9 S wy.heap.size q s N c (wy.alloc (.cells (kvA true q) 54)) := ⟨bl_alloc hb, boxc_new _ _ _ rfl, hb.size, fun h => (hk h).step (bl_alloc (Below.refl _ _))⟩
theorem kbx_put {W9 wy : World} {kb : Nat} {q : KV} {s : SD} {N : Nat → Nat} {c : Prop} (hb : Below W9.heap.size W9 wy) (hz : BoxC wy kb zeroK 54) (hl : W9.heap.size ≤ kb) (hk : c → KOwn W9.heap.size S q s N wy) :
    KBx W9 S kb q s N c ((((((wy.setCell ⟨kb, 0, none⟩ (.bool true)).setCell ⟨kb, 1, none⟩ (.slice q.st.a q.st.n q.st.c)).setCell ⟨kb, 2, none⟩ (.slice q.ju.a q.ju.n q.ju.c)).setCell ⟨kb, 3, none⟩ (.slice q.nu.a q.nu.n q.nu.c)).setCell ⟨kb, 4, none⟩ (.slice q.ro.a q.ro.n q.ro.c)).setCell ⟨kb, 5, none⟩ (.slice q.sl.a q.sl.n q.sl.c)) := by
  have c1 := hz.put 0 (.bool true)
  have c2 := c1.put 1 (.slice q.st.a q.st.n q.st.c)
  have c3 := c2.put 2 (.slice q.ju.a q.ju.n q.ju.c)
  have c4 := c3.put 3 (.slice q.nu.a q.nu.n q.nu.c)
  have c5 := c4.put 4 (.slice q.ro.a q.ro.n q.ro.c)
  exact ⟨hput1 (hput1 (hput1 (hput1 (hput1 (hput1 hb hl _ _) hl _ _) hl _ _) hl _ _) hl _ _) hl _ _, c5.put 5 _, hl, fun h => ⟨((((((hk h).1.off hz _ _).off c1 _ _).off c2 _ _).off c3 _ _).off c4 _ _).off c5 _ _, (hk h).2⟩⟩

set_option maxHeartbeats 4000000 in
set_option maxRecDepth 20000 in
theorem rguard_bad (d : ProgD) (w : World) (hrf : ∀ w', Below w.heap.size w w' → Calls Try.prog 12 #[d.v] w' (TellF (chkW d.slots d.ts d.cs) w')) (hc : (chkW d.slots d.ts d.cs).1 ≠ 0) : Calls Try.prog 8 #[d.v] w (TellF (chkW d.slots d.ts d.cs) w) := by
  obtain ⟨W2, hW⟩ : ∃ W2, W2 = ((w.alloc (.cells #[.int .i64 d.slots, .slice d.tabs.a d.tabs.n d.tabs.c, .slice d.code.a d.code.n d.code.c] 25)).alloc (.cells #[.int .i64 0, .int .i64 0] 30)) := ⟨_, rfl⟩
  obtain ⟨pb, es⟩ : ∃ s, s = w.heap.size := ⟨_, rfl⟩
  obtain ⟨f, ef⟩ : ∃ f, f = w.heap.size + 1 := ⟨_, rfl⟩
  have HA : Hid (GEncAt d w W2 pb f) := by rw [hW, es, ef]; exact genc_at d w
  have HB : Hid (Below w.heap.size w W2) := by rw [hW]; exact bl_alloc (bl_alloc (Below.refl _ _))
  have HCK := hid (hrf W2 HB.out)
  have EW := hid hW
  have ES := hid es
  have EF := hid ef
  dsimp only [ProgD.v, TellF] at HCK ⊢
  generalize chkW d.slots d.ts d.cs = F at *
  obtain ⟨c, a⟩ := F
  dsimp only at hc HCK ⊢
  have hcb : (c != 0) = true := by simpa using hc
  have HC := hid hc
  clear hc hW es ef hrf
  go_enter Try.func8, Try.ntmps8
  go_upto_region 1 with fail
  rw [← EW.out, ← EF.out, ← ES.out]
  clear EW EF ES
  obtain ⟨p0, p1, p2⟩ := HA.out.p
  have hpl : pb < W2.heap.size := World.block_lt_of_cell? _ _ p0
  go_wp2_with fail
  refine HCK.out.mono ?_
  rintro e w3 ⟨rfl, hb3⟩
  have A3 := HA.out.step hb3
  have f0 : w3.cell? ⟨f, 0, none⟩ = some (.int .i64 0) := gbox_cell A3.ff 0
  have f1 : w3.cell? ⟨f, 1, none⟩ = some (.int .i64 0) := gbox_cell A3.ff 1
  have z0 : w3.frozen? ⟨f, 0, none⟩ = false := by simp [World.frozen?, A3.ff]
  have z1 : w3.frozen? ⟨f, 1, none⟩ = false := by simp [World.frozen?, A3.ff]
  have hfl := (Array.getElem?_eq_some_iff.1 A3.ff).1
  have HE : Hid (∀ u v o, Below w.heap.size w (((w3.setCell ⟨f, 0, none⟩ u).setCell ⟨f, 1, none⟩ v).alloc o)) := fun u v o => bl_alloc (((bl_step HB.out hb3).setCell (p := ⟨f, 0, none⟩) A3.wf _).setCell (p := ⟨f, 1, none⟩) A3.wf _)
  clear A3 hb3 HCK HA HB p0 p1 p2 hpl
  go_wp2
  exact bodyPost_ret (v := .agg #[.int .i64 c, .int .i64 a]) (by simp [results, Try.results8, go_sem, *]) rfl ⟨rfl, HE.out _ _ _⟩
end Go.Proofs.Ytmohffibkpecpaa
