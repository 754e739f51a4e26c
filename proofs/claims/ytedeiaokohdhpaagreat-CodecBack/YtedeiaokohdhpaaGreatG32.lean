/- Texts of one chain, joined: QWidths. -/
import Derived.Test.YtedeiaokohdhpaaGreatG19
import Derived.Test.YtedeiaokohdhpaaGreatG0
namespace Go.Proofs.YtedeiaokohdhpaaGreat
open Go.RowKit
theorem fields_wf {d : PlanD} {w : World} (hl : d.lie w) {aa : Option Addr} {an : Nat} {zs : List Int} (hz : Has .i64 w aa an zs) (h : Int) : ∀ n ∈ fieldsL d h zs, (Lit.int .i64 n).wf = true := by
  intro n hn
  unfold fieldsL at hn
  split at hn
  · exact hl.ms.2.1 n hn
  split at hn
  · exact hz.2.1 n hn
  split at hn
  · simp only [List.mem_cons, List.not_mem_nil, or_false] at hn
    subst hn
    decide
  split at hn
  · simp at hn
  · rename_i h1 h2 h3 h4
    obtain ⟨k, rfl⟩ : ∃ k : Nat, h = k := ⟨h.toNat, by omega⟩
    obtain ⟨g, off, _, hd⟩ := head_at hl (k := k) (by omega)
    rw [Int.toNat_natCast] at hn
    exact hd.2.2.1 n hn
theorem width_wf {d : PlanD} {w : World} (hl : d.lie w) {aa : Option Addr} {an : Nat} {zs : List Int} (hz : Has .i64 w aa an zs) (h f : Int) : (Lit.int .i64 (widthC d h f zs)).wf = true := by
  unfold widthC
  split
  · decide
  · rename_i h0
    have hlt : f.toNat < (fieldsL d h zs).length := by omega
    rw [List.getD_eq_getElem?_getD, List.getElem?_eq_getElem hlt, Option.getD_some]
    exact fields_wf hl hz h _ (List.getElem_mem hlt)
def keyW (d : PlanD) (r : RefD) : Int := widthC d r.h r.f []
def widthsL (d : PlanD) (ks : List RefD) : List Int := ks.map (keyW d)
def stp (d : PlanD) (ks : List RefD) (k : Nat) : List Int := (ks.take k).map (keyW d) ++ List.replicate (ks.length - k) 0
theorem stp_zero (d : PlanD) (ks : List RefD) : stp d ks 0 = List.replicate ks.length 0 := by simp [stp]
theorem stp_end (d : PlanD) (ks : List RefD) : stp d ks ks.length = widthsL d ks := by simp [stp, widthsL]
theorem stp_step {d : PlanD} {ks : List RefD} {k : Nat} {r : RefD} (h : ks[k]? = some r) : (stp d ks k).set k (keyW d r) = stp d ks (k + 1) := by
  obtain ⟨hk, e⟩ := List.getElem?_eq_some_iff.1 h
  subst e
  unfold stp
  apply List.ext_getElem?
  intro j
  rw [List.getElem?_set]
  by_cases hj : k = j
  · subst hj
    rw [if_pos rfl, if_pos (by simp; omega)]
    rw [List.getElem?_append_left (by simp; omega)]
    simp [List.getElem?_eq_getElem hk]
  · rw [if_neg hj]
    by_cases hlt : j < k
    · rw [List.getElem?_append_left (by simp; omega), List.getElem?_append_left (by simp; omega)]
      simp only [List.getElem?_map, List.getElem?_take, if_pos hlt, if_pos (show j < k + 1 by omega)]
    · rw [List.getElem?_append_right (by simp; omega), List.getElem?_append_right (by simp; omega)]
      simp only [List.length_map, List.length_take, List.getElem?_replicate]
      rw [Nat.min_eq_left (by omega), Nat.min_eq_left (by omega)]
      by_cases hn : j < ks.length
      · rw [if_pos (by omega), if_pos (by omega)]
      · rw [if_neg (by omega), if_neg (by omega)]
theorem madeI (m : Nat) : (madeCells #[Value.int .i64 0] m).toList = II (List.replicate m 0) := by
  have h := toList_madeCells_one (.int .i64 0) m
  simp only [II, List.map_replicate]
  exact h
theorem putI {w : World} {base g m cap i : Nat} {ys : List Int} {x : Int} (h : w.ownsRow base 3 1 (.slice (some ⟨g, 0, none⟩) m cap) m (II ys)) :
    (w.setCell ⟨g, i, none⟩ (.int .i64 x)).ownsRow base 3 1 (.slice (some ⟨g, 0, none⟩) m cap) m (II (ys.set i x)) := by
  have h2 := (h.stored i (.int .i64 x)).1
  simp only [II, List.map_set]
  exact h2
@[reducible] def TabD.v (t : TabD) : Value := .agg #[.int .i64 t.kind, .slice t.keys.a t.keys.n t.keys.c, .slice t.acts.a t.acts.n t.acts.c, .int .i64 t.cap, .int .i64 t.dflt, .slice t.args.a t.args.n t.args.c]
@[reducible] def TabD.box (t : TabD) : Obj := .cells #[.int .i64 t.kind, .slice t.keys.a t.keys.n t.keys.c, .slice t.acts.a t.acts.n t.acts.c, .int .i64 t.cap, .int .i64 t.dflt, .slice t.args.a t.args.n t.args.c] 63
theorem wbox_cells {d : PlanD} {t : TabD} {w wr : World} (hb : Below (w.heap.size + 2) ((w.alloc d.box).alloc t.box) wr) :
    (∀ i, wr.cell? ⟨w.heap.size, i, none⟩ = (#[.slice d.heads.a d.heads.n d.heads.c, .slice d.mta.a d.mta.n d.mta.c, .slice d.states.a d.states.n d.states.c, .slice d.acts.a d.acts.n d.acts.c, .slice d.tabs.a d.tabs.n d.tabs.c, .slice d.nodes.a d.nodes.n d.nodes.c, .slice d.out.a d.out.n d.out.c] : Array Value)[i]?) ∧ wr.cell? ⟨w.heap.size + 1, 1, none⟩ = some (.slice t.keys.a t.keys.n t.keys.c) :=
  ⟨fun i => (hb.cell (p := ⟨w.heap.size, i, none⟩) (by simp)).trans ((World.cell?_alloc_past _ _ _ (by simp)).trans (World.cell?_alloc_at _ _ _ _ rfl)), (hb.cell (p := ⟨w.heap.size + 1, 1, none⟩) (by simp)).trans ((World.cell?_alloc_at _ _ _ _ (by simp)).trans rfl)⟩
def WidthsDone (w : World) (L : List Int) (e : Ending) (w' : World) : Prop := ∃ a c, e = .returned (.slice a L.length c) ∧ (a = none → L.length = 0 ∧ c = 0) ∧ Has .i64 w' a L.length L ∧ Below w.heap.size w w'
set_option maxHeartbeats 4000000 in
set_option maxRecDepth 20000 in
theorem widths_some (d : PlanD) (t : TabD) (w : World) (hl : d.lie w) (hk : QRow 2 RefD.lie w t.keys t.ks) (hn : t.keys.n ≤ 10000) (h0 : 0 < t.keys.n) :
    Calls Tryz.prog 96 #[d.v, t.v] w (WidthsDone w (widthsL d t.ks)) := by
  obtain ⟨i0, hi, hz0, hz1, hz2⟩ := info_parts Tryz.infoInt
  obtain ⟨g, off, _, ea, _⟩ := row_at hk h0
  have HKL := hid hk.1
  have HL := hid hl
  have HK := hid hk
  clear hl hk
  go_enter Tryz.func96, Tryz.ntmps96
  go_wp2_with (at_make; refine wpList_make_full _ rfl _ _ 23 rfl w.heap.size 3 i0 (.int .i64 0) 1 Tryz.underlying23 hi hz0 hz1 _ _ _ _ t.keys.n rfl rfl ?m1 ?m2 ?m3 ?m4 ?m5 ?_)
  case m1 => rfl
  case m2 => rfl
  case m3 => rw [hz2]; omega
  case m4 => unfold maxLen; omega
  case m5 => simp; omega
  intro w1 hown1 hg0
  have hg1 : ((w.alloc d.box).alloc t.box).grownBy w1 none := by unfold TabD.box; rw [ea]; exact hg0
  clear hg0
  have hb1 : Below (w.heap.size + 2) ((w.alloc d.box).alloc t.box) w1 := (Below.refl _ _).grown hg1 (by simp) (by intro k hk; cases hk)
  rw [madeI] at hown1
  have HO : Hid (w1.ownsRow w.heap.size 3 1 (.slice (some ⟨w.heap.size + 1 + 1, 0, none⟩) t.keys.n t.keys.n) t.keys.n (II (stp d t.ks 0))) := by rw [stp_zero, HKL.out]; exact hown1
  have HB := hid hb1
  have q1 := (wbox_cells hb1).2
  clear hb1 hown1 hg1
  go_wp2
  go_loopw [15, 6, 7] (fun q _ _ wr => ∃ k : Nat, k ≤ t.keys.n ∧ q = .int .i64 k ∧ Hid (wr.ownsRow w.heap.size 3 1 (.slice (some ⟨w.heap.size + 1 + 1, 0, none⟩) t.keys.n t.keys.n) t.keys.n (II (stp d t.ks k))) ∧ Hid (Below (w.heap.size + 2) ((w.alloc d.box).alloc t.box) wr)) (fun q _ _ _ => t.keys.n - (intOf q).toNat)
  case atStart => exact ⟨0, Nat.zero_le _, rfl, HO, HB⟩
  case round =>
    obtain ⟨k, hk, rfl, ho, hb⟩ := hrel
    have B0 : Hid (Below w.heap.size w wr) := (bl_alloc (bl_alloc (Below.refl w.heap.size w))).trans (hb.out.mono (by omega))
    clear q1 HO HB
    by_cases hlt : k < t.keys.n
    · obtain ⟨g', off', r, ea', hr, ⟨⟨r0, _⟩, ⟨r1, _⟩⟩⟩ := row_at (HK.out.step RefD.keeps B0.out) hlt
      obtain ⟨rfl, rfl⟩ : g = g' ∧ off = off' := by rw [ea] at ea'; simpa using ea'
      clear ea'
      have hki : (k : Int) < (t.keys.n : Int) := by omega
      have HST := hid (stp_step (d := d) hr)
      have hcs := (wbox_cells hb.out).1
      have bo : ∀ o, Below wr.heap.size wr (wr.alloc o) := fun o => bl_alloc (Below.refl _ _)
      have p0 : ∀ o, (wr.alloc o).cell? ⟨w.heap.size, 0, none⟩ = some (.slice d.heads.a d.heads.n d.heads.c) := fun o => cell_keep (hcs 0) (bo o)
      have p1 : ∀ o, (wr.alloc o).cell? ⟨w.heap.size, 1, none⟩ = some (.slice d.mta.a d.mta.n d.mta.c) := fun o => cell_keep (hcs 1) (bo o)
      have p2 : ∀ o, (wr.alloc o).cell? ⟨w.heap.size, 2, none⟩ = some (.slice d.states.a d.states.n d.states.c) := fun o => cell_keep (hcs 2) (bo o)
      have p3 : ∀ o, (wr.alloc o).cell? ⟨w.heap.size, 3, none⟩ = some (.slice d.acts.a d.acts.n d.acts.c) := fun o => cell_keep (hcs 3) (bo o)
      have p4 : ∀ o, (wr.alloc o).cell? ⟨w.heap.size, 4, none⟩ = some (.slice d.tabs.a d.tabs.n d.tabs.c) := fun o => cell_keep (hcs 4) (bo o)
      have p5 : ∀ o, (wr.alloc o).cell? ⟨w.heap.size, 5, none⟩ = some (.slice d.nodes.a d.nodes.n d.nodes.c) := fun o => cell_keep (hcs 5) (bo o)
      have p6 : ∀ o, (wr.alloc o).cell? ⟨w.heap.size, 6, none⟩ = some (.slice d.out.a d.out.n d.out.c) := fun o => cell_keep (hcs 6) (bo o)
      have HW : Hid (∀ o, Calls Tryz.prog 130 #[d.v, .agg #[.int .i64 r.h, .int .i64 r.f], .slice none 0 0] (wr.alloc o) fun e w' => e = .returned (.int .i64 (keyW d r)) ∧ Below (wr.alloc o).heap.size (wr.alloc o) w') := fun o => width_any d r.h r.f none 0 0 [] _ ((HL.out.step B0.out).step (bo o)) (has_nil _ _)
      have BO := hid bo
      have hsz : w.heap.size + 1 + 1 < wr.heap.size := (ho.out.lt _ rfl).2
      clear hcs hr bo
      generalize keyW d r = R at *
      go_wp2_with fail
      refine (HW.out _).mono ?_
      rintro e w2 ⟨rfl, hb2⟩
      have ho2 := owns_below (owns_below ho.out (BO.out _)) hb2
      have hB2 : Below (w.heap.size + 2) ((w.alloc d.box).alloc t.box) w2 := hb.out.trans ((bl_step (BO.out _) hb2).mono (by have := hb.out.size; simpa using this))
      have hc2 : w2.cell? ⟨w.heap.size + 1 + 1, k, none⟩ = some (.int .i64 ((stp d t.ks k).getD k 0)) := by
        rw [ho2.cellAt k (by omega)]
        have : k < (stp d t.ks k).length := by have := ho2.1; simp only [II, List.length_map] at this; omega
        simp only [II, List.getElem?_map, List.getD_eq_getElem?_getD, List.getElem?_eq_getElem this]
        rfl
      have hf2 : w2.frozen? ⟨w.heap.size + 1 + 1, k, none⟩ = false := ho2.frozenAt _
      have HO2 : Hid ((w2.setCell ⟨w.heap.size + 1 + 1, k, none⟩ (.int .i64 R)).ownsRow w.heap.size 3 1 (.slice (some ⟨w.heap.size + 1 + 1, 0, none⟩) t.keys.n t.keys.n) t.keys.n (II (stp d t.ks (k + 1)))) := by rw [← HST.out]; exact putI ho2
      have HB2 := hid (hB2.setCell (p := ⟨w.heap.size + 1 + 1, k, none⟩) (by simp) (.int .i64 R))
      clear hb2 ho2 hB2 HW p0 p1 p2 p3 p4 p5 p6 r0 r1 hsz BO B0 ho hb
      generalize (stp d t.ks k).getD k 0 = old at *
      go_wp2
      go_roundw
      case rel => exact ⟨k + 1, by omega, by go_num, HO2, HB2⟩
      case measure => simp [intOf]; omega
    · have ek : k = t.keys.n := by omega
      have HF : Hid (WidthsDone w (widthsL d t.ks) (.returned (.slice (some ⟨w.heap.size + 1 + 1, 0, none⟩) t.keys.n t.keys.n)) wr) := by
        have e1 : (widthsL d t.ks).length = t.keys.n := by rw [widthsL, List.length_map, HKL.out]
        refine ⟨some ⟨w.heap.size + 1 + 1, 0, none⟩, t.keys.n, by rw [e1], by simp, ?_, B0.out⟩
        have h2 := ho.out
        rw [ek, ← HKL.out, stp_end, HKL.out] at h2
        rw [e1]
        refine has_ownI h2 fun n hn => ?_
        obtain ⟨r, _, rfl⟩ := List.mem_map.1 hn
        exact width_wf HL.out (has_nil _ w) _ _
      clear ho hb
      subst ek
      go_wp2
      go_ret
      exact HF.out
set_option maxHeartbeats 4000000 in
set_option maxRecDepth 20000 in
theorem widths_none (d : PlanD) (t : TabD) (w : World) (hk : QRow 2 RefD.lie w t.keys t.ks) (h0 : t.keys.n = 0) :
    Calls Tryz.prog 96 #[d.v, t.v] w (WidthsDone w (widthsL d t.ks)) := by
  obtain ⟨i0, hi, hz0, hz1, hz2⟩ := info_parts Tryz.infoInt
  have e : t.ks = [] := List.eq_nil_of_length_eq_zero (hk.1.trans h0)
  have HF : Hid (∀ w', Below w.heap.size w w' → WidthsDone w (widthsL d t.ks) (.returned (.slice (some ⟨w.heap.size + 1 + 1, 0, none⟩) 0 0)) w') := fun w' hb => by
    rw [e]
    exact ⟨some ⟨w.heap.size + 1 + 1, 0, none⟩, 0, rfl, by simp, ⟨rfl, by simp [widthsL], .inl (by simp [widthsL])⟩, hb⟩
  unfold TabD.v
  rw [h0]
  clear hk e h0
  go_enter Tryz.func96, Tryz.ntmps96
  go_wp2_with (at_make; refine wpList_make_full _ rfl _ _ 23 rfl w.heap.size 3 i0 (.int .i64 0) 1 Tryz.underlying23 hi hz0 hz1 _ _ _ _ 0 rfl rfl ?m1 ?m2 ?m3 ?m4 ?m5 ?_)
  case m1 => rfl
  case m2 => rfl
  case m3 => rw [hz2]; omega
  case m4 => unfold maxLen; omega
  case m5 => simp; omega
  intro w1 _ hg1
  have HB : Hid (∀ o o', w.alloc o |>.alloc o' |>.grownBy w1 none → Below w.heap.size w w1) := fun o o' h => (bl_alloc (bl_alloc (Below.refl w.heap.size w))).grown h (by simp; omega) (by intro k hk; cases hk)
  have HB1 := hid (HB.out _ _ hg1)
  have q1 : w1.cell? ⟨w.heap.size + 1, 1, none⟩ = some (.slice t.keys.a 0 t.keys.c) := ((Below.refl _ _).grown hg1 (Nat.le_refl _) (by intro k hk; cases hk)).cell (p := ⟨w.heap.size + 1, 1, none⟩) (by simp) |>.trans ((World.cell?_alloc_at _ _ _ _ (by simp)).trans rfl)
  clear hg1 HB
  go_wp2
  go_loopw [15, 6, 7] (fun q _ _ wr => q = .int .i64 0 ∧ Hid (w1 = wr)) (fun _ _ _ _ => 0)
  case atStart => exact ⟨rfl, rfl⟩
  case round =>
    obtain ⟨rfl, hw⟩ := hrel
    obtain rfl := hw.out
    clear hw
    go_wp2
    go_ret
    exact HF.out _ HB1.out
theorem widths_any (d : PlanD) (t : TabD) (w : World) (hl : d.lie w) (hk : QRow 2 RefD.lie w t.keys t.ks) (hn : t.keys.n ≤ 10000) :
    Calls Tryz.prog 96 #[d.v, t.v] w (WidthsDone w (widthsL d t.ks)) := by
  by_cases h0 : t.keys.n = 0
  · exact widths_none d t w hk h0
  · exact widths_some d t w hl hk hn (by omega)
end Go.Proofs.YtedeiaokohdhpaaGreat
