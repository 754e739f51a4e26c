/- The document's judges: where a state leads, fields that may be set, expressions. -/
import Derived.Test.YtlnkfgdepddmladGreatVQTree
import Derived.Test.YtlnkfgdepddmladGreatJ1
namespace Go.Proofs.YtlnkfgdepddmladGreat
open Go.RowKit

set_option maxHeartbeats 2000000 in
set_option maxRecDepth 20000 in
theorem lead_any (d : PlanD) (n to : Int) (w : World) : Calls Tryz.prog 119 #[d.v, .int .i64 n, .int .i64 to] w fun e w' => e = .returned (.int .i64 (wayC d.states.n n to)) ∧ Below w.heap.size w w' := by
  have bw : ∀ o, Below w.heap.size w (w.alloc o) := fun o => bl_alloc (Below.refl _ _)
  by_cases h0 : to = 1000
  · subst h0
    have hr : Hid (wayC d.states.n n 1000 = 0) := by simp [Hid, wayC]
    go_enter Tryz.func119, Tryz.ntmps119
    go_wp2
    go_ret
    exact ⟨by rw [hr.out]; rfl, bw _⟩
  by_cases h1 : to = 1001
  · subst h1
    have hr : Hid (wayC d.states.n n 1001 = 0) := by simp [Hid, wayC]
    go_enter Tryz.func119, Tryz.ntmps119
    go_wp2
    go_ret
    exact ⟨by rw [hr.out]; rfl, bw _⟩
  have b0 : (to == 1000) = false := by simpa using h0
  have b1 : (to == 1001) = false := by simpa using h1
  have n01 : ¬ (to = 1000 ∨ to = 1001) := fun h => h.elim h0 h1
  by_cases h2 : to < 0
  · have d2 := decide_eq_true h2
    have hr : Hid (wayC d.states.n n to = 1) := by show wayC _ _ _ = 1; unfold wayC; rw [if_neg n01, if_pos (by omega)]
    clear h0 h1 n01
    go_enter Tryz.func119, Tryz.ntmps119
    go_wp2
    go_ret
    exact ⟨by rw [hr.out]; rfl, bw _⟩
  have d2 := decide_eq_false h2
  by_cases h3 : (d.states.n : Int) ≤ to
  · have d3 := decide_eq_true h3
    have hr : Hid (wayC d.states.n n to = 1) := by show wayC _ _ _ = 1; unfold wayC; rw [if_neg n01, if_pos (by omega)]
    clear h0 h1 n01
    go_enter Tryz.func119, Tryz.ntmps119
    go_wp2
    go_ret
    exact ⟨by rw [hr.out]; rfl, bw _⟩
  have d3 := decide_eq_false h3
  by_cases h4 : to ≤ n
  · have d4 := decide_eq_true h4
    have hr : Hid (wayC d.states.n n to = 11) := by show wayC _ _ _ = 11; unfold wayC; rw [if_neg n01, if_neg (by omega), if_pos h4]
    clear h0 h1 n01
    go_enter Tryz.func119, Tryz.ntmps119
    go_wp2
    go_ret
    exact ⟨by rw [hr.out]; rfl, bw _⟩
  · have d4 := decide_eq_false h4
    have hr : Hid (wayC d.states.n n to = 0) := by show wayC _ _ _ = 0; unfold wayC; rw [if_neg n01, if_neg (by omega), if_neg h4]
    clear h0 h1 n01
    go_enter Tryz.func119, Tryz.ntmps119
    go_wp2
    go_ret
    exact ⟨by rw [hr.out]; rfl, bw _⟩

set_option maxHeartbeats 2000000 in
set_option maxRecDepth 20000 in
theorem isHead_any (d : PlanD) (k : Int) (w : World) : Calls Tryz.prog 62 #[d.v, .int .i64 k] w fun e w' => e = .returned (.bool (decide (0 ≤ k ∧ k < (d.heads.n : Int)))) ∧ Below w.heap.size w w' := by
  have bw : ∀ o, Below w.heap.size w (w.alloc o) := fun o => bl_alloc (Below.refl _ _)
  by_cases h0 : 0 ≤ k
  · have d0 := decide_eq_true h0
    by_cases h1 : k < (d.heads.n : Int)
    · have d1 := decide_eq_true h1
      have hr := hid (decide_eq_true (⟨h0, h1⟩ : 0 ≤ k ∧ k < (d.heads.n : Int)))
      go_enter Tryz.func62, Tryz.ntmps62
      go_wp2
      go_ret
      exact ⟨by first | rfl | (rw [hr.out]; rfl), bw _⟩
    · have d1 := decide_eq_false h1
      have hr := hid (decide_eq_false (fun h => h1 h.2 : ¬ (0 ≤ k ∧ k < (d.heads.n : Int))))
      go_enter Tryz.func62, Tryz.ntmps62
      go_wp2
      go_ret
      exact ⟨by first | rfl | (rw [hr.out]; rfl), bw _⟩
  · have d0 := decide_eq_false h0
    have hr := hid (decide_eq_false (fun h => h0 h.1 : ¬ (0 ≤ k ∧ k < (d.heads.n : Int))))
    go_enter Tryz.func62, Tryz.ntmps62
    go_wp2
    go_ret
    exact ⟨by first | rfl | (rw [hr.out]; rfl), bw _⟩

/-- a field that is in no header, nor beside them, has no width -/
theorem width_far {p : PPlan} {r : RefD} (h : r.h < -1) (h3 : r.h ≠ -3) : p.width r [] = 0 := by
  have : p.fields r.h [] = [] := by
    unfold PPlan.fields
    rw [if_neg (by omega)]
    split
    · rfl
    · first | rw [if_pos (by omega)] | rw [if_neg h3, if_pos (by omega)]
  unfold PPlan.width
  rw [this]
  simp

/-- the code of a target, by the document's words -/
theorem target_set {p : PPlan} {r : RefD} (hp : 0 ≤ p.width r []) : (-1 ≤ r.h ∧ 0 < p.width r []) ↔ targetC p r = 0 := by
  unfold targetC
  constructor
  · rintro ⟨h1, h2⟩
    rw [if_neg (by omega)]
  · intro h
    by_cases h1 : r.h = -3 ∨ p.width r [] = 0
    · rw [if_pos h1] at h; omega
    · refine ⟨?_, by omega⟩
      apply Classical.byContradiction
      intro h2
      exact h1 (.inr (width_far (by omega) (fun e => h1 (.inl e))))

set_option maxHeartbeats 2000000 in
set_option maxRecDepth 20000 in
theorem mayset_any (d : PlanD) (r : RefD) (w : World) (hl : d.lie w) (hp : 0 ≤ d.p.width r []) :
    Calls Tryz.prog 169 #[d.v, .agg #[.int .i64 r.h, .int .i64 r.f]] w fun e w' => e = .returned (.bool (decide (targetC d.p r = 0))) ∧ Below w.heap.size w w' := by
  have bw2 : ∀ o o', Below w.heap.size w ((w.alloc o).alloc o') := fun o o' => bl_alloc (bl_alloc (Below.refl _ _))
  have HC : Hid (∀ o o', Calls Tryz.prog 117 #[d.v, .agg #[.int .i64 r.h, .int .i64 r.f], .slice none 0 0] ((w.alloc o).alloc o') fun e w' => e = .returned (.int .i64 (d.p.width r [])) ∧ Below ((w.alloc o).alloc o').heap.size ((w.alloc o).alloc o') w') := fun o o' => by
    rw [← width_p hl]
    exact widthOf_any d r.h r.f none 0 0 [] _ (hl.step (bw2 o o')) (has_nil _ _)
  have HT := hid (target_set hp)
  have HB := hid bw2
  clear hl hp
  by_cases h1 : -1 ≤ r.h
  · have d1 := decide_eq_true h1
    have HR : Hid (decide (targetC d.p r = 0) = decide (0 < d.p.width r [])) := decide_eq_decide.2 ⟨fun h => (HT.out.2 h).2, fun h => HT.out.1 ⟨h1, h⟩⟩
    clear h1 bw2
    go_enter Tryz.func169, Tryz.ntmps169
    go_wp2_with fail
    refine (HC.out _ _).mono ?_
    rintro e w1 ⟨rfl, hb⟩
    have HE := hid (bl_step (HB.out _ _) hb)
    clear HC hb HB
    go_wp2
    go_ret
    exact ⟨by rw [HR.out]; rfl, HE.out⟩
  · have d1 := decide_eq_false h1
    have HR : Hid (decide (targetC d.p r = 0) = false) := decide_eq_false (fun h => h1 (HT.out.2 h).1)
    clear h1 HC
    go_enter Tryz.func169, Tryz.ntmps169
    go_wp2
    go_ret
    exact ⟨by rw [HR.out]; rfl, bw2 _ _⟩

abbrev PO (d : PlanD) : Obj := .cells #[.slice d.heads.a d.heads.n d.heads.c, .slice d.mta.a d.mta.n d.mta.c, .slice d.states.a d.states.n d.states.c, .slice d.acts.a d.acts.n d.acts.c, .slice d.tabs.a d.tabs.n d.tabs.c, .slice d.nodes.a d.nodes.n d.nodes.c, .slice d.out.a d.out.n d.out.c] 65

theorem pbox_cells {d : PlanD} {w wr : World} (hb : Below (w.heap.size + 1) (w.alloc (PO d)) wr) (i : Nat) : wr.cell? ⟨w.heap.size, i, none⟩ = (#[.slice d.heads.a d.heads.n d.heads.c, .slice d.mta.a d.mta.n d.mta.c, .slice d.states.a d.states.n d.states.c, .slice d.acts.a d.acts.n d.acts.c, .slice d.tabs.a d.tabs.n d.tabs.c, .slice d.nodes.a d.nodes.n d.nodes.c, .slice d.out.a d.out.n d.out.c] : Array Value)[i]? :=
  (hb.cell (p := ⟨w.heap.size, i, none⟩) (by simp)).trans (World.cell?_alloc_at _ _ _ _ rfl)

set_option maxHeartbeats 4000000 in
set_option maxRecDepth 20000 in
theorem expr_any (d : PlanD) (e : QSl) (es : List PushD) (aa : Option Addr) (an ac : Nat) (zs : List Int) (w : World) (hl : d.lie w) (he : QRow 4 PushD.lie w e es) (hz : Has .i64 w aa an zs) :
    Calls Tryz.prog 122 #[d.v, .slice e.a e.n e.c, .slice aa an ac] w (TreeDone d.p es zs w) := by
  have hlen := he.1
  by_cases h8 : (8 : Int) < (e.n : Int)
  · have HE : Hid (∀ w', Below w.heap.size w w' → TreeDone d.p es zs w (.returned (.int .i64 2)) w') := fun w' hb => ⟨by rw [treeC, if_pos (by omega)], hb⟩
    have d8 := decide_eq_true h8
    clear hl he hz hlen
    go_enter Tryz.func122, Tryz.ntmps122
    go_wp2
    go_ret
    exact HE.out _ (bl_alloc (Below.refl _ _))
  have d8 := decide_eq_false h8
  have HX : Hid (treeC d.p es zs = treeGo d.p zs es 0) := by show treeC d.p es zs = _; rw [treeC, if_neg (by omega)]
  have HD : Hid (∀ w' R, treeGo d.p zs es 0 = R → Below w.heap.size w w' → TreeDone d.p es zs w (.returned (.int .i64 R)) w') := fun w' R h hb => ⟨by rw [HX.out, h], hb⟩
  obtain ⟨ea, ee⟩ : ∃ ea, e.a = ea := ⟨_, rfl⟩
  have HL := hid hl
  have HE := hid he
  have HZ := hid hz
  have HN := hid hlen
  have HB0 : Hid (Below (w.heap.size + 1) (w.alloc (PO d)) (w.alloc (PO d))) := Below.refl _ _
  rw [ee]
  have EE := hid ee
  clear hl he hz hlen HX ee
  go_enter Tryz.func122, Tryz.ntmps122
  go_wp2
  go_loopw [8, 7, 9] (fun q l _ wr => ∃ k : Nat, ∃ left : Int, k ≤ e.n ∧ q = .int .i64 k ∧ l = .int .i64 left ∧ 0 ≤ left ∧ left ≤ k ∧ Hid (treeGo d.p zs es 0 = treeGo d.p zs (es.drop k) left) ∧ Hid (Below (w.heap.size + 1) (w.alloc (PO d)) wr)) (fun q _ _ _ => e.n - (intOf q).toNat)
  case atStart => exact ⟨0, 0, Nat.zero_le _, rfl, rfl, Int.le_refl _, by simp, rfl, HB0⟩
  case round =>
    obtain ⟨k, left, hk, rfl, rfl, hl0, hl1, hgo, hb⟩ := hrel
    clear HB0
    have B0 : Hid (Below w.heap.size w wr) := (bl_alloc (Below.refl w.heap.size w)).trans (hb.out.mono (by omega))
    by_cases hlt : k < e.n
    · obtain ⟨g, off, x, ea', hx, ⟨r0, _⟩, ⟨r1, _⟩, ⟨r2, _⟩, ⟨r3, _⟩⟩ := row_at (HE.out.step PushD.keeps B0.out) hlt
      obtain rfl : ea = some ⟨g, off, none⟩ := by rw [← EE.out]; exact ea'
      have hki : (k : Int) < (e.n : Int) := by omega
      have hst := tree_drop (p := d.p) (zs := zs) hx left
      have hcs := pbox_cells hb.out
      have p0 : wr.cell? ⟨w.heap.size, 0, none⟩ = some (.slice d.heads.a d.heads.n d.heads.c) := hcs 0
      have p1 : wr.cell? ⟨w.heap.size, 1, none⟩ = some (.slice d.mta.a d.mta.n d.mta.c) := hcs 1
      have p2 : wr.cell? ⟨w.heap.size, 2, none⟩ = some (.slice d.states.a d.states.n d.states.c) := hcs 2
      have p3 : wr.cell? ⟨w.heap.size, 3, none⟩ = some (.slice d.acts.a d.acts.n d.acts.c) := hcs 3
      have p4 : wr.cell? ⟨w.heap.size, 4, none⟩ = some (.slice d.tabs.a d.tabs.n d.tabs.c) := hcs 4
      have p5 : wr.cell? ⟨w.heap.size, 5, none⟩ = some (.slice d.nodes.a d.nodes.n d.nodes.c) := hcs 5
      have p6 : wr.cell? ⟨w.heap.size, 6, none⟩ = some (.slice d.out.a d.out.n d.out.c) := hcs 6
      have HTK : Hid (Calls Tryz.prog 170 #[.int .i64 x.op] wr fun q w'' => q = .returned (.int .i64 (takesC x.op)) ∧ Below wr.heap.size wr w'') := takesOf_any x.op wr
      have HFI : Hid (∀ w', Below wr.heap.size wr w' → Calls Tryz.prog 117 #[d.v, .agg #[.int .i64 x.r.h, .int .i64 x.r.f], .slice aa an ac] w' fun q w'' => q = .returned (.int .i64 (d.p.width x.r zs)) ∧ Below w'.heap.size w' w'') := fun w' h => by
        rw [← width_p HL.out]
        exact widthOf_any d x.r.h x.r.f aa an ac zs _ (HL.out.step (bl_step B0.out h)) (HZ.out.step (bl_step B0.out h))
      have HBN : Hid (∀ w1, Below wr.heap.size wr w1 → Below (w.heap.size + 1) (w.alloc (PO d)) w1) := fun w1 h => hb.out.trans (h.mono (by have := hb.out.size; simpa using this))
      have hT := takes_range x.op
      clear hcs ea'
      generalize takesC x.op = T at *
      by_cases hT0 : T < 0
      · have f0 := decide_eq_true hT0
        have HF : Hid (treeGo d.p zs es 0 = 13) := by show treeGo d.p zs es 0 = 13; rw [hgo.out, hst, if_pos (.inl hT0)]
        clear hst HFI HBN hgo
        go_wp2_with fail
        refine HTK.out.mono ?_
        rintro q w1 ⟨rfl, hb1⟩
        have HE1 := hid (bl_step B0.out hb1)
        clear HTK hb1
        go_wp2
        go_ret
        exact HD.out _ _ HF.out HE1.out
      have f0 := decide_eq_false hT0
      by_cases hT1 : left < T
      · have f1 := decide_eq_true hT1
        have HF : Hid (treeGo d.p zs es 0 = 13) := by show treeGo d.p zs es 0 = 13; rw [hgo.out, hst, if_pos (.inr hT1)]
        clear hst HFI HBN hgo
        go_wp2_with fail
        refine HTK.out.mono ?_
        rintro q w1 ⟨rfl, hb1⟩
        have HE1 := hid (bl_step B0.out hb1)
        clear HTK hb1
        go_wp2
        go_ret
        exact HD.out _ _ HF.out HE1.out
      have f1 := decide_eq_false hT1
      rw [if_neg (show ¬ (T < 0 ∨ left < T) by omega)] at hst
      by_cases h2 : x.op = 2
      · have b2 : (x.op == 2) = true := by simpa using h2
        by_cases hw0 : d.p.width x.r zs = 0
        · have HF : Hid (treeGo d.p zs es 0 = 1) := by show treeGo d.p zs es 0 = 1; rw [hgo.out, hst, if_pos ⟨h2, hw0⟩]
          rw [hw0] at HFI
          clear hst HBN hgo h2 hw0
          go_wp2_with fail
          refine HTK.out.mono ?_
          rintro q w1 ⟨rfl, hb1⟩
          have r0 := cell_keep r0 hb1
          have r1 := cell_keep r1 hb1
          have r2 := cell_keep r2 hb1
          have p0 := cell_keep p0 hb1
          have p1 := cell_keep p1 hb1
          have p2 := cell_keep p2 hb1
          have p3 := cell_keep p3 hb1
          have p4 := cell_keep p4 hb1
          have p5 := cell_keep p5 hb1
          have p6 := cell_keep p6 hb1
          have r0' := cell_by r0
          have r1' := cell_by r1
          have r2' := cell_by r2
          have p0' := cell_by p0
          have p1' := cell_by p1
          have p2' := cell_by p2
          have p3' := cell_by p3
          have p4' := cell_by p4
          have p5' := cell_by p5
          have p6' := cell_by p6
          have HFI : Hid (∀ p : BelowBy w1, Calls Tryz.prog 117 #[d.v, .agg #[.int .i64 x.r.h, .int .i64 x.r.f], .slice aa an ac] p.to fun q w'' => q = .returned (.int .i64 0) ∧ Below p.to.heap.size p.to w'') := fun p => HFI.out p.to (bl_step hb1 p.h)
          have HE1 := hid (bl_step B0.out hb1)
          clear HTK hb1
          go_wp2_with fail
          haveI inhB : ∀ w : World, Inhabited (BelowBy w) := fun w => ⟨⟨w, Below.refl _ _⟩⟩
          refine wp_region_quiet_below (by kernel_rfl) (by kernel_rfl) ?_
          repeat (go_big_quiet_step (first | (go_at_call 117; exact calls_below _ (HFI.out _))))
          refine wpQuiet_nil ?_
          intro wq hw'
          obtain ⟨⟨_, hwq⟩, hw''⟩ := hw'
          subst hw''
          have HE2 := hid (bl_step HE1.out hwq)
          clear HFI hwq HE1
          go_wp2
          go_ret
          exact HD.out _ _ HF.out HE2.out
        · have HG : Hid (treeGo d.p zs es 0 = treeGo d.p zs (es.drop (k + 1)) (left - T + 1)) := by show treeGo d.p zs es 0 = _; rw [hgo.out, hst, if_neg (fun h => hw0 h.2)]; congr 1; omega
          have bw0 : (d.p.width x.r zs == 0) = false := by simpa using hw0
          generalize d.p.width x.r zs = X at *
          clear hst hgo h2 hw0
          go_wp2_with fail
          refine HTK.out.mono ?_
          rintro q w1 ⟨rfl, hb1⟩
          have r0 := cell_keep r0 hb1
          have r1 := cell_keep r1 hb1
          have r2 := cell_keep r2 hb1
          have p0 := cell_keep p0 hb1
          have p1 := cell_keep p1 hb1
          have p2 := cell_keep p2 hb1
          have p3 := cell_keep p3 hb1
          have p4 := cell_keep p4 hb1
          have p5 := cell_keep p5 hb1
          have p6 := cell_keep p6 hb1
          have r0' := cell_by r0
          have r1' := cell_by r1
          have r2' := cell_by r2
          have p0' := cell_by p0
          have p1' := cell_by p1
          have p2' := cell_by p2
          have p3' := cell_by p3
          have p4' := cell_by p4
          have p5' := cell_by p5
          have p6' := cell_by p6
          have HFI : Hid (∀ p : BelowBy w1, Calls Tryz.prog 117 #[d.v, .agg #[.int .i64 x.r.h, .int .i64 x.r.f], .slice aa an ac] p.to fun q w'' => q = .returned (.int .i64 X) ∧ Below p.to.heap.size p.to w'') := fun p => HFI.out p.to (bl_step hb1 p.h)
          have HB1 := hid hb1
          clear HTK hb1
          go_wp2_with fail
          haveI inhB : ∀ w : World, Inhabited (BelowBy w) := fun w => ⟨⟨w, Below.refl _ _⟩⟩
          refine wp_region_quiet_below (by kernel_rfl) (by kernel_rfl) ?_
          repeat (go_big_quiet_step (first | (go_at_call 117; exact calls_below _ (HFI.out _))))
          refine wpQuiet_nil ?_
          intro wq hw'
          obtain ⟨⟨_, hwq⟩, hw''⟩ := hw'
          subst hw''
          have HE2 := hid (HBN.out _ (bl_step HB1.out hwq))
          clear HFI hwq HB1 HBN r0 r1 r2 r3 p0 p1 p2 p3 p4 p5 p6 r0' r1' r2' p0' p1' p2' p3' p4' p5' p6'
          go_wp2
          go_roundw
          case rel => exact ⟨k + 1, left - T + 1, by omega, by go_num, by go_num, by omega, by omega, HG, HE2⟩
          case measure => simp [intOf]; omega
      · have b2 : (x.op == 2) = false := by simpa using h2
        have HG : Hid (treeGo d.p zs es 0 = treeGo d.p zs (es.drop (k + 1)) (left - T + 1)) := by show treeGo d.p zs es 0 = _; rw [hgo.out, hst, if_neg (fun h => h2 h.1)]; congr 1; omega
        clear hst hgo h2 HFI
        go_wp2_with fail
        refine HTK.out.mono ?_
        rintro q w1 ⟨rfl, hb1⟩
        have r0 := cell_keep r0 hb1
        have r1 := cell_keep r1 hb1
        have r2 := cell_keep r2 hb1
        have p0 := cell_keep p0 hb1
        have p1 := cell_keep p1 hb1
        have p2 := cell_keep p2 hb1
        have p3 := cell_keep p3 hb1
        have p4 := cell_keep p4 hb1
        have p5 := cell_keep p5 hb1
        have p6 := cell_keep p6 hb1
        have r0' := cell_by r0
        have r1' := cell_by r1
        have r2' := cell_by r2
        have p0' := cell_by p0
        have p1' := cell_by p1
        have p2' := cell_by p2
        have p3' := cell_by p3
        have p4' := cell_by p4
        have p5' := cell_by p5
        have p6' := cell_by p6
        have HB1 := hid hb1
        clear HTK hb1
        go_wp2_with fail
        haveI inhB : ∀ w : World, Inhabited (BelowBy w) := fun w => ⟨⟨w, Below.refl _ _⟩⟩
        refine wp_region_quiet_below (by kernel_rfl) (by kernel_rfl) ?_
        repeat (go_big_quiet_step (fail))
        refine wpQuiet_nil ?_
        intro wq hw'
        obtain ⟨⟨_, hwq⟩, hw''⟩ := hw'
        subst hw''
        have HE2 := hid (HBN.out _ (bl_step HB1.out hwq))
        clear hwq HB1 HBN r0 r1 r2 r3 p0 p1 p2 p3 p4 p5 p6 r0' r1' r2' p0' p1' p2' p3' p4' p5' p6'
        go_wp2
        go_roundw
        case rel => exact ⟨k + 1, left - T + 1, by omega, by go_num, by go_num, by omega, by omega, HG, HE2⟩
        case measure => simp [intOf]; omega
    · have ek : k = e.n := by omega
      have HF : Hid (treeGo d.p zs es 0 = if left ≠ 1 then 13 else 0) := by
        show treeGo d.p zs es 0 = _
        rw [hgo.out, ek, ← HN.out, List.drop_length]
        rfl
      clear hgo hb
      by_cases h1 : left = 1
      · subst h1
        subst ek
        rw [if_neg (by simp)] at HF
        go_wp2
        go_ret
        exact HD.out _ _ HF.out B0.out
      · rw [if_pos h1] at HF
        have b1 : (left != 1) = true := by simpa using h1
        subst ek
        go_wp2
        go_ret
        exact HD.out _ _ HF.out B0.out
end Go.Proofs.YtlnkfgdepddmladGreat
