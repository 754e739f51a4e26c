/- asm's Done. -/
import Derived.Test.YtkipfppblhkodaaADone
import Derived.Deep.DeepCutAuto
namespace Go.Proofs.Ytkipfppblhkodaa
open Go.RowKit

@[reducible] def pz0 : Array Value := #[.int .i64 0, .slice none 0 0, .slice none 0 0]
theorem pz_at {w w' : World} (h : Below (w.alloc (.cells pz0 41)).heap.size (w.alloc (.cells pz0 41)) w') : w'.heap[w.heap.size]? = some (.cells pz0 41 (0, 0)) :=
  (h.block _ (by simp)).trans (galloc_at _ _ _)
theorem pz_atD {w w' : World} (h : Below (w.alloc (.cells pz0 41)).drew.heap.size (w.alloc (.cells pz0 41)).drew w') : w'.heap[w.heap.size]? = some (.cells pz0 41 (0, 0)) :=
  (h.block _ (by show w.heap.size < (w.alloc _).heap.size; simp)).trans (galloc_at _ _ _)

structure PCells (w : World) (b : Nat) : Prop where
  t0 : w.cell? ⟨b, 0, none⟩ = some (.int .i64 0)
  t1 : w.cell? ⟨b, 1, none⟩ = some (.slice none 0 0)
  t2 : w.cell? ⟨b, 2, none⟩ = some (.slice none 0 0)
  f0 : w.frozen? ⟨b, 0, none⟩ = false
  f1 : w.frozen? ⟨b, 1, none⟩ = false
  f2 : w.frozen? ⟨b, 2, none⟩ = false
  l : b < w.heap.size
theorem pz_cells {w : World} {b : Nat} (h : w.heap[b]? = some (.cells pz0 41 (0, 0))) : PCells w b := ⟨gbox_cell h 0, gbox_cell h 1, gbox_cell h 2, by simp [World.frozen?, h], by simp [World.frozen?, h], by simp [World.frozen?, h], (Array.getElem?_eq_some_iff.1 h).1⟩

theorem pput3 {w : World} {b : Nat} {cs : Array Value} {T : TypeId} (h : w.heap[b]? = some (.cells cs T (0, 0))) (h3 : cs.size = 3) (x y z : Value) : (((w.setCell ⟨b, 0, none⟩ x).setCell ⟨b, 1, none⟩ y).setCell ⟨b, 2, none⟩ z).heap[b]? = some (.cells #[x, y, z] T (0, 0)) := by
  have := abox_put (abox_put (abox_put h 0 x) 1 y) 2 z
  rw [this]
  obtain ⟨l⟩ := cs
  match l, h3 with
  | [a, b, c], _ => rfl
theorem owns_put3 {w : World} {b base n k c : Nat} {T : TypeId} {a : Option Addr} {vs : List Value} (h : w.ownsRow base T k (.slice a n c) n vs) (hne : ∀ ad : Addr, a = some ad → ad.block ≠ b) (x y z : Value) : (((w.setCell ⟨b, 0, none⟩ x).setCell ⟨b, 1, none⟩ y).setCell ⟨b, 2, none⟩ z).ownsRow base T k (.slice a n c) n vs :=
  owns_blk h fun ad ha => by rw [Below.heap_setCell _ _ _ _ (by exact hne ad ha), Below.heap_setCell _ _ _ _ (by exact hne ad ha), Below.heap_setCell _ _ _ _ (by exact hne ad ha)]
theorem owns_low {w : World} {base base' n k c : Nat} {T : TypeId} {a : Option Addr} {vs : List Value} (h : w.ownsRow base T k (.slice a n c) n vs) (hb : base' ≤ base) : w.ownsRow base' T k (.slice a n c) n vs := by
  refine ⟨h.1, ?_⟩
  rcases h.2 with h2 | ⟨g, cap, cur, hv, hg, r⟩
  · exact .inl h2
  · exact .inr ⟨g, cap, cur, hv, Nat.le_trans hb hg, r⟩

/-- the boxes of the results -/
structure ResAt (w W2 : World) (rb fb : Nat) (wx : World) : Prop where
  r : wx.heap[rb]? = some (.cells pz0 41 (0, 0))
  f : wx.heap[fb]? = some (.cells #[.int .i64 0, .int .i64 0] 43 (0, 0))
  lr : w.heap.size ≤ rb
  lf : w.heap.size ≤ fb
  ne : ¬ rb = fb
  hr : rb < W2.heap.size
  hf : fb < W2.heap.size
theorem ResAt.step {w W2 : World} {rb fb : Nat} {wx wy : World} (h : ResAt w W2 rb fb wx) (b : Below wx.heap.size wx wy) : ResAt w W2 rb fb wy :=
  ⟨(b.block _ (Array.getElem?_eq_some_iff.1 h.r).1).trans h.r, (b.block _ (Array.getElem?_eq_some_iff.1 h.f).1).trans h.f, h.lr, h.lf, h.ne, h.hr, h.hf⟩

/-- what is told at the end -/
theorem res_bel {w W2 : World} {rb fb : Nat} {wx : World} (h : ResAt w W2 rb fb wx) (b : Below w.heap.size w wx) (x y z u v : Value) : Below w.heap.size w (((((wx.setCell ⟨rb, 0, none⟩ x).setCell ⟨rb, 1, none⟩ y).setCell ⟨rb, 2, none⟩ z).setCell ⟨fb, 0, none⟩ u).setCell ⟨fb, 1, none⟩ v) :=
  ((((b.setCell (p := ⟨rb, 0, none⟩) h.lr _).setCell (p := ⟨rb, 1, none⟩) h.lr _).setCell (p := ⟨rb, 2, none⟩) h.lr _).setCell (p := ⟨fb, 0, none⟩) h.lf _).setCell (p := ⟨fb, 1, none⟩) h.lf _
theorem res_lie {w W2 : World} {rb fb : Nat} {wx : World} (h : ResAt w W2 rb fb wx) {q : ProgD} (hq : q.lie wx) (ho : OwnB q W2 wx) (x y z u v : Value) : q.lie (((((wx.setCell ⟨rb, 0, none⟩ x).setCell ⟨rb, 1, none⟩ y).setCell ⟨rb, 2, none⟩ z).setCell ⟨fb, 0, none⟩ u).setCell ⟨fb, 1, none⟩ v) := by
  have h1 := h.hr
  have h2 := h.hf
  refine hq.blk (fun ad had => ?_) (fun ad had => ?_)
  · have := (ho.2 ad had).2
    rw [Below.heap_setCell _ _ _ _ (by show ad.block ≠ fb; omega), Below.heap_setCell _ _ _ _ (by show ad.block ≠ fb; omega), Below.heap_setCell _ _ _ _ (by show ad.block ≠ rb; omega), Below.heap_setCell _ _ _ _ (by show ad.block ≠ rb; omega), Below.heap_setCell _ _ _ _ (by show ad.block ≠ rb; omega)]
  · have := (ho.1 ad had).2
    rw [Below.heap_setCell _ _ _ _ (by show ad.block ≠ fb; omega), Below.heap_setCell _ _ _ _ (by show ad.block ≠ fb; omega), Below.heap_setCell _ _ _ _ (by show ad.block ≠ rb; omega), Below.heap_setCell _ _ _ _ (by show ad.block ≠ rb; omega), Below.heap_setCell _ _ _ _ (by show ad.block ≠ rb; omega)]

theorem don_put3 {W2 wx : World} {pb : Nat} {slots : Int} {ts : List ShapeD} {cs : List InsD} {ta ca : Option Addr} {tn tc cn cc : Nat} (hs : gwfI slots) (hts : ∀ x ∈ ts, x.wf) (hcs : ∀ x ∈ cs, x.wf) (hb : Below W2.heap.size W2 wx)
    (hx : wx.heap[pb]? = some (.cells pz0 41 (0, 0))) (hp : W2.heap.size ≤ pb)
    (ho1 : wx.ownsRow W2.heap.size 52 3 (.slice ta tn tc) tn (ts.flatMap kShapeE)) (ho2 : wx.ownsRow W2.heap.size 34 6 (.slice ca cn cc) cn (cs.flatMap kInsE)) :
    DonAt W2 pb ⟨slots, ⟨ta, tn, tc⟩, ts, ⟨ca, cn, cc⟩, cs⟩ (((wx.setCell ⟨pb, 0, none⟩ (.int .i64 slots)).setCell ⟨pb, 1, none⟩ (.slice ta tn tc)).setCell ⟨pb, 2, none⟩ (.slice ca cn cc)) :=
  don_new hs hts hcs (((hb.setCell (p := ⟨pb, 0, none⟩) hp _).setCell (p := ⟨pb, 1, none⟩) hp _).setCell (p := ⟨pb, 2, none⟩) hp _) (pput3 hx rfl _ _ _) hp (owns_put3 ho1 (fun _ ha => own_ne ho1 hx (by decide) ha) _ _ _) (owns_put3 ho2 (fun _ ha => own_ne ho2 hx (by decide) ha) _ _ _)

set_option maxHeartbeats 8000000 in
set_option maxRecDepth 20000 in
theorem adone {B : Nat} {d : LabD} {w : World} (h : LabAt 49 B d w) (hcs : d.cs.length ≤ 60000) (slots : Int) (hs : gwfI slots) {s : QSl} {ts : List ShapeD} (hr : QRow 3 ShapeD.lie w s ts) (hn : s.nil0) (hsm : s.n ≤ 300) : Calls Try.prog 11 #[lptr d.p, .int .i64 slots, .slice s.a s.n s.c] w (DoneIs d.ms slots ts d.cs w) := by
  obtain ⟨W2, hW2⟩ : ∃ W2, W2 = ((w.alloc (.cells #[.int .i64 0, .slice none 0 0, .slice none 0 0] 41)).alloc (.cells #[.int .i64 0, .int .i64 0] 43)) := ⟨_, rfl⟩
  obtain ⟨rb, hrb⟩ : ∃ b, b = w.heap.size := ⟨_, rfl⟩
  obtain ⟨fb, hfb⟩ : ∃ b, b = w.heap.size + 1 := ⟨_, rfl⟩
  have b2 : Below w.heap.size w W2 := by rw [hW2]; exact bl_alloc (bl_alloc (Below.refl _ _))
  have HB := hid b2
  have HRES : Hid (ResAt w W2 rb fb W2) := by
    refine ⟨?_, ?_, by omega, by omega, by omega, ?_, ?_⟩
    · rw [hW2, hrb]
      rw [Below.heap_alloc _ _ _ (by simp)]
      exact galloc_at _ _ _
    · rw [hW2, hfb]
      have := galloc_at (w.alloc (.cells #[.int .i64 0, .slice none 0 0, .slice none 0 0] 41)) #[.int .i64 0, .int .i64 0] 43
      simpa using this
    · rw [hW2, hrb]; simp; omega
    · rw [hW2, hfb]; simp
  have HL := hid (h.step b2)
  have HC1 : Hid (∀ w', Below W2.heap.size W2 w' → Calls Try.prog 16 #[.slice s.a s.n s.c] w' (CloneIs kShapeE 3 52 ts s.n w')) := fun w' hb => aclone_shape (hr.step ShapeD.keeps (bl_step b2 hb)) hn (by omega)
  have HC2 : Hid (∀ w', Below W2.heap.size W2 w' → Calls Try.prog 17 #[.slice d.la d.cs.length d.lc] w' (CloneIs kInsE 6 34 d.cs d.cs.length w')) := fun w' hb => by
    have hh := (h.step (bl_step b2 hb)).row
    exact aclone_ins (s := ⟨d.la, d.cs.length, d.lc⟩) hh.1 hh.2 (by show d.cs.length ≤ 100000; omega)
  have hts : ∀ x ∈ ts, x.wf := fun x hx => by
    obtain ⟨i, hi, rfl⟩ := List.getElem_of_mem hx
    obtain ⟨g, off, _, hp⟩ := hr.2 i _ (List.getElem?_eq_getElem hi)
    exact hp.wf
  have HBT : Hid (∀ w', Below W2.heap.size W2 w' → ∀ (i : Nat), i ≤ 100000 → ∀ l, Calls Try.prog 19 #[lptr d.p, .int .i64 i, .int .i64 l] w' fun e w'' => e = .returned (.tuple #[.int .i64 (toN d.ms i l).1, .int .i64 (toN d.ms i l).2]) ∧ w'' = w') := fun w' hb i hi l => abetween (h.step (bl_step b2 hb)) i hi (by omega) l
  have HTS := hid hts
  have HWF := hid h.wf
  have HWM := hid h.wm
  have HSW := hid hs
  have HNT : Hid (ts.length = s.n) := hr.1
  have HCUR := hid (Below.refl W2.heap.size W2).drew
  have HB00 := hid (Below.refl W2.heap.size W2)
  have EW := hid hW2
  have ER := hid hrb
  have EF := hid hfb
  obtain ⟨c0, c1, z0, z1, l0⟩ := (h.step b2).lbox
  have HNE : Hid (∀ w', Below W2.heap.size W2 w' → ¬ (w'.heap.size = d.p) ∧ ¬ (d.p = w'.heap.size) ∧ d.p < w'.heap.size) := fun w' hb => by
    have := hb.size
    omega
  obtain ⟨hn2, hn2', hl2⟩ := HNE.out W2 (Below.refl _ _)
  clear h hr hn hts hs hW2 hrb hfb b2
  go_enter Try.func11, Try.ntmps11
  go_upto_region 1 with fail
  rw [← EW.out, ← EF.out, ← ER.out]
  go_cut [8] (fun v8 wx => ∃ (pb : Nat) (q : ProgD), v8 = .pointer (some ⟨pb, 0, none⟩) ∧ Hid (DonAt W2 pb q wx ∧ q.slots = slots ∧ q.ts = ts ∧ q.cs = d.cs))
  case first =>
    go_region_held3 (fun w' => w'.cell? ⟨d.p, 0, none⟩ = some (.slice d.la d.cs.length d.lc))
      (first
        | (with_reducible exact cell_keep c0 HCUR.out)
        | (with_reducible exact cell_keep c0 (bl_alloc HB00.out).drew)
        | (with_reducible exact cell_keep c0 (bl_alloc HCUR.out))
        | go_keep)
      (first
        | (go_at_call 16; (with_reducible refine (HC1.out _ (by with_reducible first | exact HCUR.out | exact bl_alloc HCUR.out | exact (bl_alloc HB00.out).drew)).mono ?_); rintro e wx ⟨am, cm, rfl, hom, hbx⟩; have HM0 := HCUR; have hbx0 := hbx; have HCUR := hid (bl_step (by with_reducible first | exact HCUR.out | exact bl_alloc HCUR.out | exact (bl_alloc HB00.out).drew) hbx); obtain ⟨hnx, hnx', hlx⟩ := HNE.out _ HCUR.out; (first | ((first | (with_reducible have PZ := pz_atD hbx) | (with_reducible have PZ := pz_at hbx)); have PC := pz_cells PZ; have t0 := PC.t0; have f0 := PC.f0; have t1 := PC.t1; have f1 := PC.f1; have t2 := PC.t2; have f2 := PC.f2; have hpw := PC.l) | skip))
        | (go_at_call 17; (with_reducible refine (HC2.out _ (by with_reducible first | exact HCUR.out | exact bl_alloc HCUR.out | exact (bl_alloc HB00.out).drew)).mono ?_); rintro e wy ⟨ao, co, rfl, hoo, hbx⟩; have HO0 := HCUR; have HCUR := hid (bl_step (by with_reducible first | exact HCUR.out | exact bl_alloc HCUR.out | exact (bl_alloc HB00.out).drew) hbx); obtain ⟨hny, hny', hly⟩ := HNE.out _ HCUR.out; (first | ((first | (with_reducible have PZ := pz_atD hbx) | (with_reducible have PZ := pz_at hbx)); have PC := pz_cells PZ; have t0 := PC.t0; have f0 := PC.f0; have t1 := PC.t1; have f1 := PC.f1; have t2 := PC.t2; have f2 := PC.f2; have hpw := PC.l) | (have PZ := (hbx.block _ hpw).trans PZ; have PC := pz_cells PZ; have t0 := PC.t0; have f0 := PC.f0; have t1 := PC.t1; have f1 := PC.f1; have t2 := PC.t2; have f2 := PC.f2; have hpw := PC.l) | skip)))
    · have HST := hid (don_new (pb := wy.heap.size) HSW.out HTS.out HWF.out (bl_alloc HCUR.out) (galloc_at wy #[.int .i64 slots, .slice am s.n cm, .slice ao d.cs.length co] 41) HCUR.out.size (gowns_below (gowns_below hom hbx) (bl_alloc (Below.refl _ _))) (owns_low (gowns_below hoo (bl_alloc (Below.refl _ _))) HO0.out.size))
      go_wp2_with fail
      go_meet
      exact ⟨_, _, rfl, HST.out, rfl, rfl, rfl⟩
    · have HST := hid (don_put3 HSW.out HTS.out HWF.out HCUR.out PZ HO0.out.size (gowns_below hom (bl_step (bl_alloc (Below.refl _ _)) hbx)) (owns_low hoo (bl_alloc HO0.out).size))
      go_wp2_with fail
      go_meet
      exact ⟨_, _, rfl, HST.out, rfl, rfl, rfl⟩
    · have HST := hid (don_put3 HSW.out HTS.out HWF.out HCUR.out PZ (Nat.le_refl _) (owns_low (gowns_below hom hbx) (bl_alloc (Below.refl W2.heap.size W2)).size) (owns_low hoo HO0.out.size))
      go_wp2_with fail
      go_meet
      exact ⟨_, _, rfl, HST.out, rfl, rfl, rfl⟩
  case rest =>
    obtain ⟨pb, q, rfl, HQ⟩ := hcut
    obtain ⟨qs, ⟨ta, tn, tc⟩, qts, ⟨qa, qn, qc⟩, qcs⟩ := q
    obtain ⟨hdon, e1, e2, e3⟩ := HQ.out
    dsimp only at e1 e2 e3
    subst e1 e2 e3
    have HD := hid hdon
    have hp0 := (gbox_cell hdon.box 0).trans (rfl : _ = some (Value.int .i64 qs))
    have hp1 := (gbox_cell hdon.box 1).trans (rfl : _ = some (Value.slice ta tn tc))
    have hp2 := (gbox_cell hdon.box 2).trans (rfl : _ = some (Value.slice qa qn qc))
    have hqn : d.cs.length = qn := hdon.lie.c.1
    have htn : qts.length = tn := hdon.lie.t.1
    have HQN := hid hqn
    have HTN := hid htn
    have hql : qn ≤ 60000 := by omega
    clear hdon HQ hqn htn HC1 HC2 HCUR HB00 HNE hn2 hn2' hl2 c0 c1 z0 z1 l0 HTS HWF HSW EW ER EF
    go_wp2
    go_loopw [26, 9, 10, 11, 12] (fun k _ _ _ _ wr => ∃ i : Nat, i ≤ qn ∧ k = .int .i64 i ∧ Hid (DonAt W2 pb (ProgD.withC ⟨qs, ⟨ta, tn, tc⟩, qts, ⟨qa, qn, qc⟩, d.cs⟩ (upL d.ms d.cs i)) wr ∧ ∀ (k : Nat) t, k < i → d.cs[k]? = some t → codeAt d.ms k t = 0)) (fun k _ _ _ _ _ => qn - (intOf k).toNat)
    case atStart => exact ⟨0, Nat.zero_le _, rfl, HD.out, fun k t hk => absurd hk (by omega)⟩
    case round =>
      obtain ⟨i, hi, rfl, J⟩ := hrel
      obtain ⟨JD, JC⟩ := J.out
      have HJ := hid JD
      have HJC := hid JC
      obtain ⟨r0, r1, r2, r3, r4, r5, rl⟩ := pz_cells (HRES.out.step JD.bel).r
      have hfbx := (HRES.out.step JD.bel).f
      have s0 := (gbox_cell hfbx 0).trans (rfl : _ = some (Value.int .i64 0))
      have s1 := (gbox_cell hfbx 1).trans (rfl : _ = some (Value.int .i64 0))
      have s2 : wr.frozen? ⟨fb, 0, none⟩ = false := by simp [World.frozen?, hfbx]
      have s3 : wr.frozen? ⟨fb, 1, none⟩ = false := by simp [World.frozen?, hfbx]
      have sl := (Array.getElem?_eq_some_iff.1 hfbx).1
      have hne := HRES.out.ne
      have hne' : ¬ fb = rb := fun e => hne e.symm
      clear hp0 hp1 hp2 hfbx HD
      by_cases hlt : i < qn
      · have hki : (i : Int) < (qn : Int) := by omega
        obtain ⟨x, hx⟩ : ∃ x, d.cs[i]? = some x := ⟨_, List.getElem?_eq_getElem (by rw [HQN.out]; exact hlt)⟩
        obtain ⟨g, off, y, ea, hy, hlie⟩ := grow_at JD.lie.c (show i < qn from hlt)
        have hy : (upL d.ms d.cs i)[i]? = some y := hy
        rw [upL_now hx] at hy
        obtain rfl := Option.some.inj hy
        have ea : qa = some ⟨g, off, none⟩ := ea
        subst ea
        have fz4 : wr.frozen? ⟨g, off + i * 6 + 4, none⟩ = false := by
          obtain ⟨⟨cur, hc⟩, _⟩ := JD.own.1 ⟨g, off, none⟩ rfl
          have hc : wr.heap[g]? = some (.cells cur 34 (0, 0)) := hc
          simp [World.frozen?, hc]
        have gl := World.block_lt_of_cell? _ _ hlie.1.1
        have q2 := (gbox_cell JD.box 2).trans (rfl : _ = some (Value.slice (some ⟨g, off, none⟩) qn qc))
        have hpl := (Array.getElem?_eq_some_iff.1 JD.box).1
        obtain ⟨⟨x0, _⟩, ⟨x1, _⟩, ⟨x2, _⟩, ⟨x3, _⟩, ⟨x4, _⟩, ⟨x5, _⟩⟩ := hlie
        have HX := hid hx
        clear hx hy JD JC J
        have hba : Below W2.heap.size W2 (wr.alloc (.cells #[.int .i64 x.op, .int .i64 x.r, .int .i64 x.s, .int .i64 x.k, .int .i64 x.to, .int .u64 x.n] 34)) := bl_alloc HJ.out.bel
        have HJ1 := hid (HJ.out.step (w' := wr.alloc (.cells #[.int .i64 x.op, .int .i64 x.r, .int .i64 x.s, .int .i64 x.k, .int .i64 x.to, .int .u64 x.n] 34)) (bl_alloc (Below.refl _ _)))
        have HBA := hid hba
        clear hba
        go_wp2_with fail
        refine (aleads _ _).mono ?_
        rintro e w1 ⟨rfl, rfl⟩
        by_cases hT : hasT x.op = true
        · rw [hT]
          have HT := hid hT
          clear hT
          go_wp2_with fail
          refine (HBT.out _ HBA.out i (by omega) x.to).mono ?_
          rintro e w1 ⟨rfl, rfl⟩
          by_cases hc : (toN d.ms i x.to).2 = 0
          · have HC0 : Hid (codeAt d.ms i x = 0) := by show codeAt d.ms i x = 0; unfold codeAt; rw [HT.out, if_pos rfl]; exact hc
            have HTO := hid (fix_to (ms := d.ms) (i := i) HT.out)
            have HW : Hid (gwfI (toN d.ms i x.to).1) := toN_wf HWM.out (by omega)
            have HP := hid (HJ.out.put (upL_now HX.out) rfl (toN d.ms i x.to).1 HW.out)
            rw [hc]
            generalize (toN d.ms i x.to).1 = ov at *
            clear hc
            go_wp2
            go_roundw
            case rel =>
              refine ⟨i + 1, by omega, by go_num, ?_, codes_next HJC.out HX.out HC0.out⟩
              rw [upL_next HX.out, HTO.out]
              exact HP.out.step (bl_alloc (Below.refl _ _))
            case measure => simp [intOf]; omega
          · have HE := hid (done_code (slots := qs) (ts := qts) HJC.out HX.out HT.out hc)
            have HCN := hid hc
            have HRB := hid (res_bel (HRES.out.step HJ.out.bel) (bl_step HB.out HJ.out.bel))
            have hcb : ((toN d.ms i x.to).2 != 0) = true := by simpa using hc
            generalize (toN d.ms i x.to).2 = cd at *
            generalize (toN d.ms i x.to).1 = ov at *
            clear hc
            go_wp2
            exact bodyPost_ret (v := .tuple #[.agg #[.int .i64 0, .slice none 0 0, .slice none 0 0], .agg #[.int .i64 cd, .int .i64 (i : Int)]]) (by simp [results, Try.results11, go_sem, *]) rfl (done_bad HE.out HCN.out (bl_alloc (HRB.out _ _ _ _ _)))
        · have hTf : hasT x.op = false := by simpa using hT
          rw [hTf]
          have HT := hid hTf
          clear hT hTf
          go_wp2
          go_roundw
          case rel =>
            refine ⟨i + 1, by omega, by go_num, ?_, codes_next HJC.out HX.out (by unfold codeAt; rw [HT.out, if_neg (by decide)])⟩
            rw [upL_same HX.out HT.out]
            exact HJ1.out
          case measure => simp [intOf]; omega
      · have hki : ¬ (i : Int) < (qn : Int) := by omega
        obtain rfl : i = qn := by omega
        have e4 : upL d.ms d.cs i = fixL d.ms d.cs 0 := by rw [← upL_all, HQN.out]
        rw [e4] at JD
        have p0 := (gbox_cell JD.box 0).trans (rfl : _ = some (Value.int .i64 qs))
        have p1 := (gbox_cell JD.box 1).trans (rfl : _ = some (Value.slice ta tn tc))
        have p2 := (gbox_cell JD.box 2).trans (rfl : _ = some (Value.slice qa i qc))
        have hpl := (Array.getElem?_eq_some_iff.1 JD.box).1
        have HCK : Hid (Calls Try.prog 20 #[.agg #[.int .i64 qs, .slice ta tn tc, .slice qa i qc]] wr (TellF (chkW qs qts (fixL d.ms d.cs 0)) wr)) := gcheck (ProgD.withC ⟨qs, ⟨ta, tn, tc⟩, qts, ⟨qa, i, qc⟩, d.cs⟩ (fixL d.ms d.cs 0)) wr JD.lie ⟨by show tn ≤ 300; have := HTN.out; have := HNT.out; omega, by show i ≤ 65535; omega⟩
        have HSM : Hid (ProgD.small (ProgD.withC ⟨qs, ⟨ta, tn, tc⟩, qts, ⟨qa, i, qc⟩, d.cs⟩ (fixL d.ms d.cs 0))) := ⟨by show tn ≤ 300; have := HTN.out; have := HNT.out; omega, by show i ≤ 65535; omega⟩
        have HDF : Hid (doneF d.ms qs qts d.cs = chkW qs qts (fixL d.ms d.cs 0)) := done_chk (fun k t hk => JC k t (by rw [← HQN.out]; exact hk))
        have HJE := hid JD
        clear JD JC J e4 HJ HJC
        go_wp2_with fail
        refine HCK.out.mono ?_
        rintro e w9 ⟨rfl, b9⟩
        have HJ9 := hid (HJE.out.step b9)
        have B9 := hid (bl_step HB.out HJ9.out.bel)
        have HR9 := hid (HRES.out.step HJ9.out.bel)
        have r0 := cell_keep r0 b9
        have r1 := cell_keep r1 b9
        have r2 := cell_keep r2 b9
        have r3 := (b9.frozen (p := ⟨rb, 0, none⟩) rl).trans r3
        have r4 := (b9.frozen (p := ⟨rb, 1, none⟩) rl).trans r4
        have r5 := (b9.frozen (p := ⟨rb, 2, none⟩) rl).trans r5
        have rl := Nat.lt_of_lt_of_le rl b9.size
        have s0 := cell_keep s0 b9
        have s1 := cell_keep s1 b9
        have s2 := (b9.frozen (p := ⟨fb, 0, none⟩) sl).trans s2
        have s3 := (b9.frozen (p := ⟨fb, 1, none⟩) sl).trans s3
        have sl := Nat.lt_of_lt_of_le sl b9.size
        have p0 := cell_keep p0 b9
        have p1 := cell_keep p1 b9
        have p2 := cell_keep p2 b9
        have hpl := Nat.lt_of_lt_of_le hpl b9.size
        clear b9 HCK HJE
        by_cases hc : (chkW qs qts (fixL d.ms d.cs 0)).1 = 0
        · have e5 := achk_two hc
          rw [e5]
          have HE : Hid (doneF d.ms qs qts d.cs = (0, 0)) := HDF.out.trans e5
          clear hc e5 HDF
          have HEND : Hid (∀ o x y z u v, DoneIs d.ms qs qts d.cs w (.returned (.tuple #[.agg #[.int .i64 qs, .slice ta tn tc, .slice qa i qc], .agg #[.int .i64 0, .int .i64 0]])) ((((((w9.setCell ⟨rb, 0, none⟩ x).setCell ⟨rb, 1, none⟩ y).setCell ⟨rb, 2, none⟩ z).setCell ⟨fb, 0, none⟩ u).setCell ⟨fb, 1, none⟩ v).alloc o)) := fun o x y z u v =>
            done_good (ProgD.withC ⟨qs, ⟨ta, tn, tc⟩, qts, ⟨qa, i, qc⟩, d.cs⟩ (fixL d.ms d.cs 0)) HE.out rfl rfl rfl ((res_lie HR9.out HJ9.out.lie HJ9.out.own _ _ _ _ _).step (bl_alloc (Below.refl _ _))) HSM.out (bl_alloc (res_bel HR9.out B9.out _ _ _ _ _))
          go_wp2
          exact bodyPost_ret (v := .tuple #[.agg #[.int .i64 qs, .slice ta tn tc, .slice qa i qc], .agg #[.int .i64 0, .int .i64 0]]) (by simp [results, Try.results11, go_sem, *]) rfl (HEND.out _ _ _ _ _ _)
        · have HC0 := hid hc
          have HEND : Hid (∀ o x y z u v, DoneIs d.ms qs qts d.cs w (.returned (.tuple #[.agg #[.int .i64 0, .slice none 0 0, .slice none 0 0], .agg #[.int .i64 (chkW qs qts (fixL d.ms d.cs 0)).1, .int .i64 (chkW qs qts (fixL d.ms d.cs 0)).2]])) ((((((w9.setCell ⟨rb, 0, none⟩ x).setCell ⟨rb, 1, none⟩ y).setCell ⟨rb, 2, none⟩ z).setCell ⟨fb, 0, none⟩ u).setCell ⟨fb, 1, none⟩ v).alloc o).drew) := fun o x y z u v => done_bad HDF.out HC0.out (bl_alloc (res_bel HR9.out B9.out _ _ _ _ _)).drew
          have hcb : ((chkW qs qts (fixL d.ms d.cs 0)).1 != 0) = true := by simpa using hc
          generalize (chkW qs qts (fixL d.ms d.cs 0)).1 = cd at *
          generalize (chkW qs qts (fixL d.ms d.cs 0)).2 = ca at *
          clear hc
          go_wp2_with fail
          go_region
          all_goals
            go_wp2
            exact bodyPost_ret (v := .tuple #[.agg #[.int .i64 0, .slice none 0 0, .slice none 0 0], .agg #[.int .i64 cd, .int .i64 ca]]) (by simp [results, Try.results11, go_sem, *]) rfl (HEND.out _ _ _ _ _ _)
end Go.Proofs.Ytkipfppblhkodaa
