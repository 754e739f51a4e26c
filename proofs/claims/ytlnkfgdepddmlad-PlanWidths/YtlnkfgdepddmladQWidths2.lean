/- The document's WidthsOf: the widths of a table's keys. -/
import Derived.Test.YtlnkfgdepddmladQWidths
import Derived.Test.YtlnkfgdepddmladQWidth2
import Derived.Deep.RegionHeld3
namespace Go.Proofs.Ytlnkfgdepddmlad
open Go.RowKit

/-- ints put behind ints of a row of the call's own, in a region -/
theorem pushI {ops : Array Oper} {o : Oper} {a : Act} {w : World} {K : Act → World → Prop} {Q : Exit → Act → World → Prop} {E : Prop} (hgd : o.guard = none) (s x : Operand)
    (ho : o.op = .call { callee := .builtin .append, args := #[s, x], argTypes := #[23, 23] }) (base n m c : Nat) (v : Value) (ys zs : List Int) (ad : Addr)
    (hs : a.eval s = v) (hx : a.eval x = .slice (some ad) m c) (hown : w.ownsRow base 3 1 v n (II ys)) (hz : Has .i64 w (some ad) m zs) (hsmall : n + m ≤ 10000000) (hbase : base ≤ w.heap.size)
    (h : ∀ v' w', w'.ownsRow base 3 1 v' (n + m) (II (ys ++ zs)) → Below base w w' → K (a.put o.dst v') w') :
    if Region.wanted o (yielded ops a.tmps) = true then Oper.wp Try.prog o a w K Q else E := by
  have hw : Region.wanted o (yielded ops a.tmps) = true := by simp [Region.wanted, hgd]
  rw [if_pos hw]
  obtain ⟨i0, hi, hz0, hz1, hz2⟩ := info_parts Try.infoInt
  refine wp_append_own w s x 23 ho base 3 i0 (.int .i64 0) 1 8 Try.underlying23 hi hz0 hz1 hz2 rfl (by decide) v n (II ys) hs hown ad m c (II zs) hx (by have := hz.1; simp [II]; omega) (has_cellsI hz) (ii_one zs) (by unfold maxLen; omega) (by omega) hbase ?_
  intro v' w' h1 h2 _
  refine h v' w' (by simpa [II] using h1) ((Below.refl _ _).grown h2 hbase ?_)
  intro k hk
  exact (hown.lt k hk).1

theorem keep10 {w w' : World} {s g o B : Nat} {v0 v1 v2 v3 v4 v5 v6 v7 v8 v9 : Value} (h : w.cell? ⟨s, 0, none⟩ = some v0 ∧ w.cell? ⟨s, 1, none⟩ = some v1 ∧ w.cell? ⟨s, 2, none⟩ = some v2 ∧ w.cell? ⟨s, 3, none⟩ = some v3 ∧ w.cell? ⟨s, 4, none⟩ = some v4 ∧ w.cell? ⟨s, 5, none⟩ = some v5 ∧ w.cell? ⟨s, 6, none⟩ = some v6 ∧ w.cell? ⟨s + 1, 1, none⟩ = some v7 ∧ w.cell? ⟨g, o, none⟩ = some v8 ∧ w.cell? ⟨g, o + 1, none⟩ = some v9) (b : Below B w w') (hs : s < B) (hs1 : s + 1 < B) (hg : g < B) : w'.cell? ⟨s, 0, none⟩ = some v0 ∧ w'.cell? ⟨s, 1, none⟩ = some v1 ∧ w'.cell? ⟨s, 2, none⟩ = some v2 ∧ w'.cell? ⟨s, 3, none⟩ = some v3 ∧ w'.cell? ⟨s, 4, none⟩ = some v4 ∧ w'.cell? ⟨s, 5, none⟩ = some v5 ∧ w'.cell? ⟨s, 6, none⟩ = some v6 ∧ w'.cell? ⟨s + 1, 1, none⟩ = some v7 ∧ w'.cell? ⟨g, o, none⟩ = some v8 ∧ w'.cell? ⟨g, o + 1, none⟩ = some v9 :=
  ⟨(b.cell (p := ⟨s, 0, none⟩) hs).trans (h.1), (b.cell (p := ⟨s, 1, none⟩) hs).trans (h.2.1), (b.cell (p := ⟨s, 2, none⟩) hs).trans (h.2.2.1), (b.cell (p := ⟨s, 3, none⟩) hs).trans (h.2.2.2.1), (b.cell (p := ⟨s, 4, none⟩) hs).trans (h.2.2.2.2.1), (b.cell (p := ⟨s, 5, none⟩) hs).trans (h.2.2.2.2.2.1), (b.cell (p := ⟨s, 6, none⟩) hs).trans (h.2.2.2.2.2.2.1), (b.cell (p := ⟨s + 1, 1, none⟩) hs1).trans (h.2.2.2.2.2.2.2.1), (b.cell (p := ⟨g, o, none⟩) hg).trans (h.2.2.2.2.2.2.2.2.1), (b.cell (p := ⟨g, o + 1, none⟩) hg).trans (h.2.2.2.2.2.2.2.2.2)⟩

theorem has_oneI (w : World) (x : Int) (hx : (Lit.int .i64 x).wf = true) : Has .i64 (w.alloc (.cells #[.int .i64 x] 3)) (some ⟨w.heap.size, 0, none⟩) 1 [x] := by
  refine ⟨rfl, ?_, .inr ⟨w.heap.size, 0, rfl, by simp, fun i hi => ?_⟩⟩
  · intro n hn
    simp only [List.mem_cons, List.not_mem_nil, or_false] at hn
    subst hn
    exact hx
  · have : i = 0 := by omega
    subst this
    simp

set_option maxHeartbeats 4000000 in
set_option maxRecDepth 20000 in
theorem widthsOf_any (d : PlanD) (t : TabD) (w : World) (hl : d.lie w) (hk : QRow 2 RefD.lie w t.keys t.ks) (hn : t.keys.n ≤ 500) :
    Calls Try.prog 10 #[d.v, t.v] w (WidthsDone w (widthsL d t.ks)) := by
  have HKL := hid hk.1
  have HL := hid hl
  have HK := hid hk
  have HB0 : Hid (Below (w.heap.size + 2) ((w.alloc d.box).alloc t.box) ((w.alloc d.box).alloc t.box)) := Below.refl _ _
  clear hl hk
  go_enter Try.func10, Try.ntmps10
  go_wp2
  go_loopw [5, 6] (fun v q wr => ∃ k : Nat, k ≤ t.keys.n ∧ q = .int .i64 k ∧ Hid (wr.ownsRow (w.heap.size + 2) 3 1 v k (II (widthsL d (t.ks.take k)))) ∧ Hid (Below (w.heap.size + 2) ((w.alloc d.box).alloc t.box) wr)) (fun _ q _ => t.keys.n - (intOf q).toNat)
  case atStart => exact ⟨0, Nat.zero_le _, rfl, World.ownsRow_nil _ _ _ _, HB0⟩
  case round =>
    rename_i v0 _
    obtain ⟨k, hk, rfl, ho, hb⟩ := hrel
    have B0 : Hid (Below w.heap.size w wr) := (bl_alloc (bl_alloc (Below.refl w.heap.size w))).trans (hb.out.mono (by omega))
    have hsz : w.heap.size + 2 ≤ wr.heap.size := by have := hb.out.size; simpa using this
    obtain ⟨a0, c0, rfl, _, hn0⟩ := own_is ho.out
    have HN0 := hid hn0
    clear hn0
    clear HB0
    have hcs := (wbox_cells hb.out).1
    by_cases hlt : k < t.keys.n
    · obtain ⟨g, off, r, ea, hr, ⟨⟨r0, _⟩, ⟨r1, _⟩⟩⟩ := row_at (HK.out.step RefD.keeps B0.out) hlt
      have q1 := (wbox_cells hb.out).2
      have hki : (k : Int) < (t.keys.n : Int) := by omega
      have hg : g < w.heap.size + 2 := by
        obtain ⟨g', off', r', ea', _, ⟨⟨r0', _⟩, _⟩⟩ := row_at HK.out hlt
        have := World.block_lt_of_cell? w _ r0'
        rw [ea] at ea'
        simp only [Option.some.injEq, Addr.mk.injEq, and_true] at ea'
        have e := ea'.1
        simp only at this
        omega
      have p0 : wr.cell? ⟨w.heap.size, 0, none⟩ = some (.slice d.heads.a d.heads.n d.heads.c) := hcs 0
      have p1 : wr.cell? ⟨w.heap.size, 1, none⟩ = some (.slice d.mta.a d.mta.n d.mta.c) := hcs 1
      have p2 : wr.cell? ⟨w.heap.size, 2, none⟩ = some (.slice d.states.a d.states.n d.states.c) := hcs 2
      have p3 : wr.cell? ⟨w.heap.size, 3, none⟩ = some (.slice d.acts.a d.acts.n d.acts.c) := hcs 3
      have p4 : wr.cell? ⟨w.heap.size, 4, none⟩ = some (.slice d.tabs.a d.tabs.n d.tabs.c) := hcs 4
      have p5 : wr.cell? ⟨w.heap.size, 5, none⟩ = some (.slice d.nodes.a d.nodes.n d.nodes.c) := hcs 5
      have p6 : wr.cell? ⟨w.heap.size, 6, none⟩ = some (.slice d.out.a d.out.n d.out.c) := hcs 6
      rw [ea] at q1
      have HT : Hid (widthsL d (t.ks.take k) ++ [keyW d r] = widthsL d (t.ks.take (k + 1))) := by
        simp only [Hid, widthsL]
        rw [List.take_add_one, hr]
        simp
      have HWF := hid (width_wf HL.out (has_nil .i64 w) r.h r.f)
      have HW : Hid (Calls Try.prog 7 #[d.v, .agg #[.int .i64 r.h, .int .i64 r.f], .slice none 0 0] wr.drew fun e w' => e = .returned (.int .i64 (keyW d r)) ∧ Below wr.drew.heap.size wr.drew w') := widthOf_any d r.h r.f none 0 0 [] _ ((HL.out.step B0.out).step (Below.refl wr.heap.size wr).drew) (has_nil _ _)
      have hWF2 : Hid ((Lit.int .i64 (keyW d r)).wf = true) := HWF
      clear HWF
      generalize keyW d r = R at *
      have HOD := hid ho.out.drew
      have HS : Hid (w.heap.size + 2 ≤ wr.drew.heap.size) := by show w.heap.size + 2 ≤ wr.drew.heap.size; simpa using hsz
      clear hcs
      go_wp2_with fail
      go_region_held3 (fun w' => w'.cell? ⟨w.heap.size, 0, none⟩ = some (.slice d.heads.a d.heads.n d.heads.c) ∧ w'.cell? ⟨w.heap.size, 1, none⟩ = some (.slice d.mta.a d.mta.n d.mta.c) ∧ w'.cell? ⟨w.heap.size, 2, none⟩ = some (.slice d.states.a d.states.n d.states.c) ∧ w'.cell? ⟨w.heap.size, 3, none⟩ = some (.slice d.acts.a d.acts.n d.acts.c) ∧ w'.cell? ⟨w.heap.size, 4, none⟩ = some (.slice d.tabs.a d.tabs.n d.tabs.c) ∧ w'.cell? ⟨w.heap.size, 5, none⟩ = some (.slice d.nodes.a d.nodes.n d.nodes.c) ∧ w'.cell? ⟨w.heap.size, 6, none⟩ = some (.slice d.out.a d.out.n d.out.c) ∧ w'.cell? ⟨w.heap.size + 1, 1, none⟩ = some (.slice (some ⟨g, off, none⟩) t.keys.n t.keys.c) ∧ w'.cell? ⟨g, off + k * 2, none⟩ = some (.int .i64 r.h) ∧ w'.cell? ⟨g, off + k * 2 + 1, none⟩ = some (.int .i64 r.f))
        (first
          | go_keep
          | (go_split_ands
             exact keep10 ⟨by assumption, by assumption, by assumption, by assumption, by assumption, by assumption, by assumption, by assumption, by assumption, by assumption⟩ hbx (by omega) (by omega) hg))
        (first
          | (go_at_call 7; refine HW.out.mono ?_; rintro e wx ⟨rfl, hbc⟩; have hbx := hbc.mono HS.out; have HO3 := hid (owns_below HOD.out hbc); have HS3 := hid (Nat.le_trans HS.out hbc.size); have HB3 := hid hbx)
          | (refine pushI rfl _ _ rfl (w.heap.size + 2) k 1 1 (.slice a0 k c0) _ [R] ⟨_, 0, none⟩ (by simp [Act.eval]) (by simp [Act.eval]) (owns_below HO3.out (bl_alloc (Below.refl _ _))) (has_oneI _ R hWF2.out) (by omega) (by simp; have := HS3.out; omega) ?_; intro v1 w1 ho1 hbx; have HO4 := hid ho1; have HB4 := hid hbx))
      all_goals
        have HO5 : Hid (w1.ownsRow (w.heap.size + 2) 3 1 v1 (k + 1) (II (widthsL d (t.ks.take (k + 1))))) := by rw [← HT.out]; exact HO4.out
        have HB5 : Hid (Below (w.heap.size + 2) ((w.alloc d.box).alloc t.box) w1) := (((hb.out.drew).trans HB3.out).alloc HS3.out _).trans HB4.out
        clear HO4 HB4 HB3 HS3 HO3 HS HOD HW HT ho hb B0 ho1 hbx hbc
        go_wp2
        go_roundw
        case rel => exact ⟨k + 1, by omega, by go_num, HO5, HB5⟩
        case measure => simp [intOf]; omega
    · have ek : k = t.keys.n := by omega
      have q1 := (wbox_cells hb.out).2
      have HF : Hid (WidthsDone w (widthsL d t.ks) (.returned (.slice a0 k c0)) wr) := by
        have h2 := ho.out
        rw [List.take_of_length_le (by rw [HKL.out]; omega)] at h2
        have e1 : (widthsL d t.ks).length = k := by rw [widthsL, List.length_map, HKL.out, ek]
        refine ⟨a0, c0, by rw [e1], fun e => by rw [e1]; exact HN0.out e, ?_, B0.out⟩
        rw [e1]
        refine has_ownI h2 fun n hn => ?_
        obtain ⟨r, _, rfl⟩ := List.mem_map.1 hn
        exact width_wf HL.out (has_nil _ w) _ _
      clear ho hb hcs
      subst ek
      go_wp2
      go_ret
      exact HF.out
end Go.Proofs.Ytlnkfgdepddmlad
