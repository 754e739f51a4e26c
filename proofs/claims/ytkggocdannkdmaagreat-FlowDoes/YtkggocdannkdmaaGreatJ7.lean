/- Texts of one chain, joined: QR1, QR2, QR3, QR4, QR5, QR6. -/
import Derived.Test.YtkggocdannkdmaaGreatVQTree
import Derived.Test.YtkggocdannkdmaaGreatJ1
import Derived.Test.YtkggocdannkdmaaGreatVQDeed
import Derived.Test.YtkggocdannkdmaaGreatVQFirst
import Derived.Test.YtkggocdannkdmaaGreatVQAct
import Derived.Test.YtkggocdannkdmaaGreatJ12
import Derived.Test.YtkggocdannkdmaaGreatVQChk
namespace Go.Proofs.YtkggocdannkdmaaGreat
open Go.RowKit

set_option maxHeartbeats 2000000 in
set_option maxRecDepth 20000 in
theorem lead_any (d : PlanD) (n to : Int) (w : World) : Calls Tryz.prog 130 #[d.v, .int .i64 n, .int .i64 to] w fun e w' => e = .returned (.int .i64 (wayC d.states.n n to)) ∧ Below w.heap.size w w' := by
  have bw : ∀ o, Below w.heap.size w (w.alloc o) := fun o => bl_alloc (Below.refl _ _)
  by_cases h0 : to = 1000
  · subst h0
    have hr : Hid (wayC d.states.n n 1000 = 0) := by simp [Hid, wayC]
    go_enter Tryz.func130, Tryz.ntmps130
    go_wp2
    go_ret
    exact ⟨by rw [hr.out]; rfl, bw _⟩
  by_cases h1 : to = 1001
  · subst h1
    have hr : Hid (wayC d.states.n n 1001 = 0) := by simp [Hid, wayC]
    go_enter Tryz.func130, Tryz.ntmps130
    go_wp2
    go_ret
    exact ⟨by rw [hr.out]; rfl, bw _⟩
  have b0 : (to == 1000) = false := by simpa using h0
  have b1 : (to == 1001) = false := by simpa using h1
  have n01 : ¬ (to = 1000 ∨ to = 1001) := fun h => h.elim h0 h1
  by_cases h2 : to < 0
  · have d2 := decide_eq_true h2
    have hr : Hid (wayC d.states.n n to = 1) := by show wayC _ _ _ = 1; unfold wayC; rw [if_neg n01, if_pos (by omega)]
    clear h0 h1 n01
    go_enter Tryz.func130, Tryz.ntmps130
    go_wp2
    go_ret
    exact ⟨by rw [hr.out]; rfl, bw _⟩
  have d2 := decide_eq_false h2
  by_cases h3 : (d.states.n : Int) ≤ to
  · have d3 := decide_eq_true h3
    have hr : Hid (wayC d.states.n n to = 1) := by show wayC _ _ _ = 1; unfold wayC; rw [if_neg n01, if_pos (by omega)]
    clear h0 h1 n01
    go_enter Tryz.func130, Tryz.ntmps130
    go_wp2
    go_ret
    exact ⟨by rw [hr.out]; rfl, bw _⟩
  have d3 := decide_eq_false h3
  by_cases h4 : to ≤ n
  · have d4 := decide_eq_true h4
    have hr : Hid (wayC d.states.n n to = 11) := by show wayC _ _ _ = 11; unfold wayC; rw [if_neg n01, if_neg (by omega), if_pos h4]
    clear h0 h1 n01
    go_enter Tryz.func130, Tryz.ntmps130
    go_wp2
    go_ret
    exact ⟨by rw [hr.out]; rfl, bw _⟩
  · have d4 := decide_eq_false h4
    have hr : Hid (wayC d.states.n n to = 0) := by show wayC _ _ _ = 0; unfold wayC; rw [if_neg n01, if_neg (by omega), if_neg h4]
    clear h0 h1 n01
    go_enter Tryz.func130, Tryz.ntmps130
    go_wp2
    go_ret
    exact ⟨by rw [hr.out]; rfl, bw _⟩

set_option maxHeartbeats 2000000 in
set_option maxRecDepth 20000 in
theorem isHead_any (d : PlanD) (k : Int) (w : World) : Calls Tryz.prog 94 #[d.v, .int .i64 k] w fun e w' => e = .returned (.bool (decide (0 ≤ k ∧ k < (d.heads.n : Int)))) ∧ Below w.heap.size w w' := by
  have bw : ∀ o, Below w.heap.size w (w.alloc o) := fun o => bl_alloc (Below.refl _ _)
  by_cases h0 : 0 ≤ k
  · have d0 := decide_eq_true h0
    by_cases h1 : k < (d.heads.n : Int)
    · have d1 := decide_eq_true h1
      have hr := hid (decide_eq_true (⟨h0, h1⟩ : 0 ≤ k ∧ k < (d.heads.n : Int)))
      go_enter Tryz.func94, Tryz.ntmps94
      go_wp2
      go_ret
      exact ⟨by first | rfl | (rw [hr.out]; rfl), bw _⟩
    · have d1 := decide_eq_false h1
      have hr := hid (decide_eq_false (fun h => h1 h.2 : ¬ (0 ≤ k ∧ k < (d.heads.n : Int))))
      go_enter Tryz.func94, Tryz.ntmps94
      go_wp2
      go_ret
      exact ⟨by first | rfl | (rw [hr.out]; rfl), bw _⟩
  · have d0 := decide_eq_false h0
    have hr := hid (decide_eq_false (fun h => h0 h.1 : ¬ (0 ≤ k ∧ k < (d.heads.n : Int))))
    go_enter Tryz.func94, Tryz.ntmps94
    go_wp2
    go_ret
    exact ⟨by first | rfl | (rw [hr.out]; rfl), bw _⟩

/-- a field that is in no header, nor beside them, has no width -/
theorem width_far {p : PPlan} {r : RefD} (h : r.h < -1) (h3 : r.h ≠ -3) : p.width r [] = 0 := by
  have : p.fields r.h [] = [] := by
    unfold PPlan.fields
    rw [if_neg (by omega)]
    split
    · rfl
    · first | rw [if_pos (by omega)] | rw [if_neg h3, if_pos (by omega)]
  unfold PPlan.width
  rw [this]
  simp

/-- the code of a target, by the document's words -/
theorem target_set {p : PPlan} {r : RefD} (hp : 0 ≤ p.width r []) : (-1 ≤ r.h ∧ 0 < p.width r []) ↔ targetC p r = 0 := by
  unfold targetC
  constructor
  · rintro ⟨h1, h2⟩
    rw [if_neg (by omega)]
  · intro h
    by_cases h1 : r.h = -3 ∨ p.width r [] = 0
    · rw [if_pos h1] at h; omega
    · refine ⟨?_, by omega⟩
      apply Classical.byContradiction
      intro h2
      exact h1 (.inr (width_far (by omega) (fun e => h1 (.inl e))))

set_option maxHeartbeats 2000000 in
set_option maxRecDepth 20000 in
theorem mayset_any (d : PlanD) (r : RefD) (w : World) (hl : d.lie w) (hp : 0 ≤ d.p.width r []) :
    Calls Tryz.prog 157 #[d.v, .agg #[.int .i64 r.h, .int .i64 r.f]] w fun e w' => e = .returned (.bool (decide (targetC d.p r = 0))) ∧ Below w.heap.size w w' := by
  have bw2 : ∀ o o', Below w.heap.size w ((w.alloc o).alloc o') := fun o o' => bl_alloc (bl_alloc (Below.refl _ _))
  have HC : Hid (∀ o o', Calls Tryz.prog 55 #[d.v, .agg #[.int .i64 r.h, .int .i64 r.f], .slice none 0 0] ((w.alloc o).alloc o') fun e w' => e = .returned (.int .i64 (d.p.width r [])) ∧ Below ((w.alloc o).alloc o').heap.size ((w.alloc o).alloc o') w') := fun o o' => by
    rw [← width_p hl]
    exact widthOf_any d r.h r.f none 0 0 [] _ (hl.step (bw2 o o')) (has_nil _ _)
  have HT := hid (target_set hp)
  have HB := hid bw2
  clear hl hp
  by_cases h1 : -1 ≤ r.h
  · have d1 := decide_eq_true h1
    have HR : Hid (decide (targetC d.p r = 0) = decide (0 < d.p.width r [])) := decide_eq_decide.2 ⟨fun h => (HT.out.2 h).2, fun h => HT.out.1 ⟨h1, h⟩⟩
    clear h1 bw2
    go_enter Tryz.func157, Tryz.ntmps157
    go_wp2_with fail
    refine (HC.out _ _).mono ?_
    rintro e w1 ⟨rfl, hb⟩
    have HE := hid (bl_step (HB.out _ _) hb)
    clear HC hb HB
    go_wp2
    go_ret
    exact ⟨by rw [HR.out]; rfl, HE.out⟩
  · have d1 := decide_eq_false h1
    have HR : Hid (decide (targetC d.p r = 0) = false) := decide_eq_false (fun h => h1 (HT.out.2 h).1)
    clear h1 HC
    go_enter Tryz.func157, Tryz.ntmps157
    go_wp2
    go_ret
    exact ⟨by rw [HR.out]; rfl, bw2 _ _⟩

abbrev PO (d : PlanD) : Obj := .cells #[.slice d.heads.a d.heads.n d.heads.c, .slice d.mta.a d.mta.n d.mta.c, .slice d.states.a d.states.n d.states.c, .slice d.acts.a d.acts.n d.acts.c, .slice d.tabs.a d.tabs.n d.tabs.c, .slice d.nodes.a d.nodes.n d.nodes.c, .slice d.out.a d.out.n d.out.c] 29

theorem pbox_cells {d : PlanD} {w wr : World} (hb : Below (w.heap.size + 1) (w.alloc (PO d)) wr) (i : Nat) : wr.cell? ⟨w.heap.size, i, none⟩ = (#[.slice d.heads.a d.heads.n d.heads.c, .slice d.mta.a d.mta.n d.mta.c, .slice d.states.a d.states.n d.states.c, .slice d.acts.a d.acts.n d.acts.c, .slice d.tabs.a d.tabs.n d.tabs.c, .slice d.nodes.a d.nodes.n d.nodes.c, .slice d.out.a d.out.n d.out.c] : Array Value)[i]? :=
  (hb.cell (p := ⟨w.heap.size, i, none⟩) (by simp)).trans (World.cell?_alloc_at _ _ _ _ rfl)

set_option maxHeartbeats 4000000 in
set_option maxRecDepth 20000 in
theorem expr_any (d : PlanD) (e : QSl) (es : List PushD) (aa : Option Addr) (an ac : Nat) (zs : List Int) (w : World) (hl : d.lie w) (he : QRow 4 PushD.lie w e es) (hz : Has .i64 w aa an zs) :
    Calls Tryz.prog 132 #[d.v, .slice e.a e.n e.c, .slice aa an ac] w (TreeDone d.p es zs w) := by
  have hlen := he.1
  by_cases h8 : (8 : Int) < (e.n : Int)
  · have HE : Hid (∀ w', Below w.heap.size w w' → TreeDone d.p es zs w (.returned (.int .i64 2)) w') := fun w' hb => ⟨by rw [treeC, if_pos (by omega)], hb⟩
    have d8 := decide_eq_true h8
    clear hl he hz hlen
    go_enter Tryz.func132, Tryz.ntmps132
    go_wp2
    go_ret
    exact HE.out _ (bl_alloc (Below.refl _ _))
  have d8 := decide_eq_false h8
  have HX : Hid (treeC d.p es zs = treeGo d.p zs es 0) := by show treeC d.p es zs = _; rw [treeC, if_neg (by omega)]
  have HD : Hid (∀ w' R, treeGo d.p zs es 0 = R → Below w.heap.size w w' → TreeDone d.p es zs w (.returned (.int .i64 R)) w') := fun w' R h hb => ⟨by rw [HX.out, h], hb⟩
  obtain ⟨ea, ee⟩ : ∃ ea, e.a = ea := ⟨_, rfl⟩
  have HL := hid hl
  have HE := hid he
  have HZ := hid hz
  have HN := hid hlen
  have HB0 : Hid (Below (w.heap.size + 1) (w.alloc (PO d)) (w.alloc (PO d))) := Below.refl _ _
  rw [ee]
  have EE := hid ee
  clear hl he hz hlen HX ee
  go_enter Tryz.func132, Tryz.ntmps132
  go_wp2
  go_loopw [8, 7, 9] (fun q l _ wr => ∃ k : Nat, ∃ left : Int, k ≤ e.n ∧ q = .int .i64 k ∧ l = .int .i64 left ∧ 0 ≤ left ∧ left ≤ k ∧ Hid (treeGo d.p zs es 0 = treeGo d.p zs (es.drop k) left) ∧ Hid (Below (w.heap.size + 1) (w.alloc (PO d)) wr)) (fun q _ _ _ => e.n - (intOf q).toNat)
  case atStart => exact ⟨0, 0, Nat.zero_le _, rfl, rfl, Int.le_refl _, by simp, rfl, HB0⟩
  case round =>
    obtain ⟨k, left, hk, rfl, rfl, hl0, hl1, hgo, hb⟩ := hrel
    clear HB0
    have B0 : Hid (Below w.heap.size w wr) := (bl_alloc (Below.refl w.heap.size w)).trans (hb.out.mono (by omega))
    by_cases hlt : k < e.n
    · obtain ⟨g, off, x, ea', hx, ⟨r0, _⟩, ⟨r1, _⟩, ⟨r2, _⟩, ⟨r3, _⟩⟩ := row_at (HE.out.step PushD.keeps B0.out) hlt
      obtain rfl : ea = some ⟨g, off, none⟩ := by rw [← EE.out]; exact ea'
      have hki : (k : Int) < (e.n : Int) := by omega
      have hst := tree_drop (p := d.p) (zs := zs) hx left
      have hcs := pbox_cells hb.out
      have p0 : wr.cell? ⟨w.heap.size, 0, none⟩ = some (.slice d.heads.a d.heads.n d.heads.c) := hcs 0
      have p1 : wr.cell? ⟨w.heap.size, 1, none⟩ = some (.slice d.mta.a d.mta.n d.mta.c) := hcs 1
      have p2 : wr.cell? ⟨w.heap.size, 2, none⟩ = some (.slice d.states.a d.states.n d.states.c) := hcs 2
      have p3 : wr.cell? ⟨w.heap.size, 3, none⟩ = some (.slice d.acts.a d.acts.n d.acts.c) := hcs 3
      have p4 : wr.cell? ⟨w.heap.size, 4, none⟩ = some (.slice d.tabs.a d.tabs.n d.tabs.c) := hcs 4
      have p5 : wr.cell? ⟨w.heap.size, 5, none⟩ = some (.slice d.nodes.a d.nodes.n d.nodes.c) := hcs 5
      have p6 : wr.cell? ⟨w.heap.size, 6, none⟩ = some (.slice d.out.a d.out.n d.out.c) := hcs 6
      have HTK : Hid (Calls Tryz.prog 158 #[.int .i64 x.op] wr fun q w'' => q = .returned (.int .i64 (takesC x.op)) ∧ Below wr.heap.size wr w'') := takesOf_any x.op wr
      have HFI : Hid (∀ w', Below wr.heap.size wr w' → Calls Tryz.prog 55 #[d.v, .agg #[.int .i64 x.r.h, .int .i64 x.r.f], .slice aa an ac] w' fun q w'' => q = .returned (.int .i64 (d.p.width x.r zs)) ∧ Below w'.heap.size w' w'') := fun w' h => by
        rw [← width_p HL.out]
        exact widthOf_any d x.r.h x.r.f aa an ac zs _ (HL.out.step (bl_step B0.out h)) (HZ.out.step (bl_step B0.out h))
      have HBN : Hid (∀ w1, Below wr.heap.size wr w1 → Below (w.heap.size + 1) (w.alloc (PO d)) w1) := fun w1 h => hb.out.trans (h.mono (by have := hb.out.size; simpa using this))
      have hT := takes_range x.op
      clear hcs ea'
      generalize takesC x.op = T at *
      by_cases hT0 : T < 0
      · have f0 := decide_eq_true hT0
        have HF : Hid (treeGo d.p zs es 0 = 13) := by show treeGo d.p zs es 0 = 13; rw [hgo.out, hst, if_pos (.inl hT0)]
        clear hst HFI HBN hgo
        go_wp2_with fail
        refine HTK.out.mono ?_
        rintro q w1 ⟨rfl, hb1⟩
        have HE1 := hid (bl_step B0.out hb1)
        clear HTK hb1
        go_wp2
        go_ret
        exact HD.out _ _ HF.out HE1.out
      have f0 := decide_eq_false hT0
      by_cases hT1 : left < T
      · have f1 := decide_eq_true hT1
        have HF : Hid (treeGo d.p zs es 0 = 13) := by show treeGo d.p zs es 0 = 13; rw [hgo.out, hst, if_pos (.inr hT1)]
        clear hst HFI HBN hgo
        go_wp2_with fail
        refine HTK.out.mono ?_
        rintro q w1 ⟨rfl, hb1⟩
        have HE1 := hid (bl_step B0.out hb1)
        clear HTK hb1
        go_wp2
        go_ret
        exact HD.out _ _ HF.out HE1.out
      have f1 := decide_eq_false hT1
      rw [if_neg (show ¬ (T < 0 ∨ left < T) by omega)] at hst
      by_cases h2 : x.op = 2
      · have b2 : (x.op == 2) = true := by simpa using h2
        by_cases hw0 : d.p.width x.r zs = 0
        · have HF : Hid (treeGo d.p zs es 0 = 1) := by show treeGo d.p zs es 0 = 1; rw [hgo.out, hst, if_pos ⟨h2, hw0⟩]
          rw [hw0] at HFI
          clear hst HBN hgo h2 hw0
          go_wp2_with fail
          refine HTK.out.mono ?_
          rintro q w1 ⟨rfl, hb1⟩
          have r0 := cell_keep r0 hb1
          have r1 := cell_keep r1 hb1
          have r2 := cell_keep r2 hb1
          have p0 := cell_keep p0 hb1
          have p1 := cell_keep p1 hb1
          have p2 := cell_keep p2 hb1
          have p3 := cell_keep p3 hb1
          have p4 := cell_keep p4 hb1
          have p5 := cell_keep p5 hb1
          have p6 := cell_keep p6 hb1
          have r0' := cell_by r0
          have r1' := cell_by r1
          have r2' := cell_by r2
          have p0' := cell_by p0
          have p1' := cell_by p1
          have p2' := cell_by p2
          have p3' := cell_by p3
          have p4' := cell_by p4
          have p5' := cell_by p5
          have p6' := cell_by p6
          have HFI : Hid (∀ p : BelowBy w1, Calls Tryz.prog 55 #[d.v, .agg #[.int .i64 x.r.h, .int .i64 x.r.f], .slice aa an ac] p.to fun q w'' => q = .returned (.int .i64 0) ∧ Below p.to.heap.size p.to w'') := fun p => HFI.out p.to (bl_step hb1 p.h)
          have HE1 := hid (bl_step B0.out hb1)
          clear HTK hb1
          go_wp2_with fail
          haveI inhB : ∀ w : World, Inhabited (BelowBy w) := fun w => ⟨⟨w, Below.refl _ _⟩⟩
          refine wp_region_quiet_below (by kernel_rfl) (by kernel_rfl) ?_
          repeat (go_big_quiet_step (first | (go_at_call 55; exact calls_below _ (HFI.out _))))
          refine wpQuiet_nil ?_
          intro wq hw'
          obtain ⟨⟨_, hwq⟩, hw''⟩ := hw'
          subst hw''
          have HE2 := hid (bl_step HE1.out hwq)
          clear HFI hwq HE1
          go_wp2
          go_ret
          exact HD.out _ _ HF.out HE2.out
        · have HG : Hid (treeGo d.p zs es 0 = treeGo d.p zs (es.drop (k + 1)) (left - T + 1)) := by show treeGo d.p zs es 0 = _; rw [hgo.out, hst, if_neg (fun h => hw0 h.2)]; congr 1; omega
          have bw0 : (d.p.width x.r zs == 0) = false := by simpa using hw0
          generalize d.p.width x.r zs = X at *
          clear hst hgo h2 hw0
          go_wp2_with fail
          refine HTK.out.mono ?_
          rintro q w1 ⟨rfl, hb1⟩
          have r0 := cell_keep r0 hb1
          have r1 := cell_keep r1 hb1
          have r2 := cell_keep r2 hb1
          have p0 := cell_keep p0 hb1
          have p1 := cell_keep p1 hb1
          have p2 := cell_keep p2 hb1
          have p3 := cell_keep p3 hb1
          have p4 := cell_keep p4 hb1
          have p5 := cell_keep p5 hb1
          have p6 := cell_keep p6 hb1
          have r0' := cell_by r0
          have r1' := cell_by r1
          have r2' := cell_by r2
          have p0' := cell_by p0
          have p1' := cell_by p1
          have p2' := cell_by p2
          have p3' := cell_by p3
          have p4' := cell_by p4
          have p5' := cell_by p5
          have p6' := cell_by p6
          have HFI : Hid (∀ p : BelowBy w1, Calls Tryz.prog 55 #[d.v, .agg #[.int .i64 x.r.h, .int .i64 x.r.f], .slice aa an ac] p.to fun q w'' => q = .returned (.int .i64 X) ∧ Below p.to.heap.size p.to w'') := fun p => HFI.out p.to (bl_step hb1 p.h)
          have HB1 := hid hb1
          clear HTK hb1
          go_wp2_with fail
          haveI inhB : ∀ w : World, Inhabited (BelowBy w) := fun w => ⟨⟨w, Below.refl _ _⟩⟩
          refine wp_region_quiet_below (by kernel_rfl) (by kernel_rfl) ?_
          repeat (go_big_quiet_step (first | (go_at_call 55; exact calls_below _ (HFI.out _))))
          refine wpQuiet_nil ?_
          intro wq hw'
          obtain ⟨⟨_, hwq⟩, hw''⟩ := hw'
          subst hw''
          have HE2 := hid (HBN.out _ (bl_step HB1.out hwq))
          clear HFI hwq HB1 HBN r0 r1 r2 r3 p0 p1 p2 p3 p4 p5 p6 r0' r1' r2' p0' p1' p2' p3' p4' p5' p6'
          go_wp2
          go_roundw
          case rel => exact ⟨k + 1, left - T + 1, by omega, by go_num, by go_num, by omega, by omega, HG, HE2⟩
          case measure => simp [intOf]; omega
      · have b2 : (x.op == 2) = false := by simpa using h2
        have HG : Hid (treeGo d.p zs es 0 = treeGo d.p zs (es.drop (k + 1)) (left - T + 1)) := by show treeGo d.p zs es 0 = _; rw [hgo.out, hst, if_neg (fun h => h2 h.1)]; congr 1; omega
        clear hst hgo h2 HFI
        go_wp2_with fail
        refine HTK.out.mono ?_
        rintro q w1 ⟨rfl, hb1⟩
        have r0 := cell_keep r0 hb1
        have r1 := cell_keep r1 hb1
        have r2 := cell_keep r2 hb1
        have p0 := cell_keep p0 hb1
        have p1 := cell_keep p1 hb1
        have p2 := cell_keep p2 hb1
        have p3 := cell_keep p3 hb1
        have p4 := cell_keep p4 hb1
        have p5 := cell_keep p5 hb1
        have p6 := cell_keep p6 hb1
        have r0' := cell_by r0
        have r1' := cell_by r1
        have r2' := cell_by r2
        have p0' := cell_by p0
        have p1' := cell_by p1
        have p2' := cell_by p2
        have p3' := cell_by p3
        have p4' := cell_by p4
        have p5' := cell_by p5
        have p6' := cell_by p6
        have HB1 := hid hb1
        clear HTK hb1
        go_wp2_with fail
        haveI inhB : ∀ w : World, Inhabited (BelowBy w) := fun w => ⟨⟨w, Below.refl _ _⟩⟩
        refine wp_region_quiet_below (by kernel_rfl) (by kernel_rfl) ?_
        repeat (go_big_quiet_step (fail))
        refine wpQuiet_nil ?_
        intro wq hw'
        obtain ⟨⟨_, hwq⟩, hw''⟩ := hw'
        subst hw''
        have HE2 := hid (HBN.out _ (bl_step HB1.out hwq))
        clear hwq HB1 HBN r0 r1 r2 r3 p0 p1 p2 p3 p4 p5 p6 r0' r1' r2' p0' p1' p2' p3' p4' p5' p6'
        go_wp2
        go_roundw
        case rel => exact ⟨k + 1, left - T + 1, by omega, by go_num, by go_num, by omega, by omega, HG, HE2⟩
        case measure => simp [intOf]; omega
    · have ek : k = e.n := by omega
      have HF : Hid (treeGo d.p zs es 0 = if left ≠ 1 then 13 else 0) := by
        show treeGo d.p zs es 0 = _
        rw [hgo.out, ek, ← HN.out, List.drop_length]
        rfl
      clear hgo hb
      by_cases h1 : left = 1
      · subst h1
        subst ek
        rw [if_neg (by simp)] at HF
        go_wp2
        go_ret
        exact HD.out _ _ HF.out B0.out
      · rw [if_pos h1] at HF
        have b1 : (left != 1) = true := by simpa using h1
        subst ek
        go_wp2
        go_ret
        exact HD.out _ _ HF.out B0.out
end Go.Proofs.YtkggocdannkdmaaGreat

namespace Go.Proofs.YtkggocdannkdmaaGreat
open Go.RowKit

theorem target_bit (p : PPlan) (r : RefD) : targetC p r = 0 ∨ targetC p r = 1 := by
  unfold targetC
  split
  · exact .inr rfl
  · exact .inl rfl

set_option maxHeartbeats 16000000 in
set_option maxRecDepth 20000 in
theorem rdeed_any (d : PlanD) (o : OpD) (aa : Option Addr) (an ac : Nat) (zs : List Int) (w : World) (hl : d.lie w) (hz : Has .i64 w aa an zs) (he : QRow 4 PushD.lie w o.e o.es) (hp : 0 ≤ d.p.width o.r []) :
    Calls Tryz.prog 131 #[d.v, o.v, .slice aa an ac] w fun e w' => e = .returned (.int .i64 (deedC d.p zs o.p)) ∧ Below w.heap.size w w' := by
  obtain ⟨W2, hW⟩ : ∃ W2, W2 = ((w.alloc (.cells #[.slice d.heads.a d.heads.n d.heads.c, .slice d.mta.a d.mta.n d.mta.c, .slice d.states.a d.states.n d.states.c, .slice d.acts.a d.acts.n d.acts.c, .slice d.tabs.a d.tabs.n d.tabs.c, .slice d.nodes.a d.nodes.n d.nodes.c, .slice d.out.a d.out.n d.out.c] 29)).alloc (.cells #[.int .i64 o.kind, .int .i64 o.r.h, .int .i64 o.r.f, .int .i64 o.head, .slice o.e.a o.e.n o.e.c] 81)) := ⟨_, rfl⟩
  obtain ⟨b0, h0⟩ : ∃ b0, b0 = w.heap.size := ⟨_, rfl⟩
  obtain ⟨b1, h1⟩ : ∃ b1, b1 = w.heap.size + 1 := ⟨_, rfl⟩
  have z0 : W2.cell? ⟨b0, 0, none⟩ = some (.slice d.heads.a d.heads.n d.heads.c) := by rw [hW, h0]; exact (World.cell?_alloc_past _ _ _ (by simp)).trans ((World.cell?_alloc_at _ _ _ _ rfl).trans rfl)
  have z1 : W2.cell? ⟨b0, 1, none⟩ = some (.slice d.mta.a d.mta.n d.mta.c) := by rw [hW, h0]; exact (World.cell?_alloc_past _ _ _ (by simp)).trans ((World.cell?_alloc_at _ _ _ _ rfl).trans rfl)
  have z2 : W2.cell? ⟨b0, 2, none⟩ = some (.slice d.states.a d.states.n d.states.c) := by rw [hW, h0]; exact (World.cell?_alloc_past _ _ _ (by simp)).trans ((World.cell?_alloc_at _ _ _ _ rfl).trans rfl)
  have z3 : W2.cell? ⟨b0, 3, none⟩ = some (.slice d.acts.a d.acts.n d.acts.c) := by rw [hW, h0]; exact (World.cell?_alloc_past _ _ _ (by simp)).trans ((World.cell?_alloc_at _ _ _ _ rfl).trans rfl)
  have z4 : W2.cell? ⟨b0, 4, none⟩ = some (.slice d.tabs.a d.tabs.n d.tabs.c) := by rw [hW, h0]; exact (World.cell?_alloc_past _ _ _ (by simp)).trans ((World.cell?_alloc_at _ _ _ _ rfl).trans rfl)
  have z5 : W2.cell? ⟨b0, 5, none⟩ = some (.slice d.nodes.a d.nodes.n d.nodes.c) := by rw [hW, h0]; exact (World.cell?_alloc_past _ _ _ (by simp)).trans ((World.cell?_alloc_at _ _ _ _ rfl).trans rfl)
  have z6 : W2.cell? ⟨b0, 6, none⟩ = some (.slice d.out.a d.out.n d.out.c) := by rw [hW, h0]; exact (World.cell?_alloc_past _ _ _ (by simp)).trans ((World.cell?_alloc_at _ _ _ _ rfl).trans rfl)
  have y0 : W2.cell? ⟨b1, 0, none⟩ = some (.int .i64 o.kind) := by rw [hW, h1]; exact (World.cell?_alloc_at _ _ _ _ (by simp)).trans rfl
  have y1 : W2.cell? ⟨b1, 1, none⟩ = some (.int .i64 o.r.h) := by rw [hW, h1]; exact (World.cell?_alloc_at _ _ _ _ (by simp)).trans rfl
  have y2 : W2.cell? ⟨b1, 2, none⟩ = some (.int .i64 o.r.f) := by rw [hW, h1]; exact (World.cell?_alloc_at _ _ _ _ (by simp)).trans rfl
  have y3 : W2.cell? ⟨b1, 3, none⟩ = some (.int .i64 o.head) := by rw [hW, h1]; exact (World.cell?_alloc_at _ _ _ _ (by simp)).trans rfl
  have y4 : W2.cell? ⟨b1, 4, none⟩ = some (.slice o.e.a o.e.n o.e.c) := by rw [hW, h1]; exact (World.cell?_alloc_at _ _ _ _ (by simp)).trans rfl
  have HB : Hid (Below w.heap.size w W2) := by rw [hW]; exact bl_alloc (bl_alloc (Below.refl _ _))
  have E3 := hid hW
  have E0 := hid h0
  have E1 := hid h1
  clear hW h0 h1
  have HM : Hid (∀ w', Below w.heap.size w w' → Calls Tryz.prog 157 #[d.v, .agg #[.int .i64 o.r.h, .int .i64 o.r.f]] w' fun e w'' => e = .returned (.bool (decide (targetC d.p o.r = 0))) ∧ Below w'.heap.size w' w'') := fun w' h => mayset_any d o.r w' (hl.step h) hp
  have HX : Hid (∀ w', Below w.heap.size w w' → Calls Tryz.prog 132 #[d.v, .slice o.e.a o.e.n o.e.c, .slice aa an ac] w' fun e w'' => e = .returned (.int .i64 (treeC d.p o.es zs)) ∧ Below w'.heap.size w' w'') := fun w' h => expr_any d o.e o.es aa an ac zs w' (hl.step h) (he.step PushD.keeps h) (hz.step h)
  have HH : Hid (∀ w', Calls Tryz.prog 94 #[d.v, .int .i64 o.head] w' fun e w'' => e = .returned (.bool (decide (0 ≤ o.head ∧ o.head < (d.heads.n : Int)))) ∧ Below w'.heap.size w' w'') := fun w' => isHead_any d o.head w'
  have EHS : Hid (d.p.hs.length = d.heads.n) := by show d.p.hs.length = d.heads.n; simp [PlanD.p, hl.hs.1]
  clear hl hz he hp
  by_cases k1 : o.kind = 1
  · have e1 : (o.kind == 1) = true := by simpa using k1
    by_cases hT : targetC d.p o.r = 0
    · have HR : Hid (deedC d.p zs o.p = treeC d.p o.es zs) := by show deedC d.p zs o.p = _; unfold deedC; rw [if_pos (show o.p.kind = 1 from k1)]; show or2 (targetC d.p o.r) _ = _; unfold or2; rw [if_neg (by simpa using hT)]; rfl
      rw [decide_eq_true hT] at HM
      clear k1 hT HH
      go_enter Tryz.func131, Tryz.ntmps131
      go_wp2_with fail
      rw [← E3.out, ← E1.out, ← E0.out]
      clear E3 E1 E0
      refine (HM.out _ HB.out).mono ?_
      rintro e w1 ⟨rfl, hb1⟩
      have HB1 := hid (bl_step HB.out hb1)
      have z0 := cell_keep z0 hb1
      have z1 := cell_keep z1 hb1
      have z2 := cell_keep z2 hb1
      have z3 := cell_keep z3 hb1
      have z4 := cell_keep z4 hb1
      have z5 := cell_keep z5 hb1
      have z6 := cell_keep z6 hb1
      have y0 := cell_keep y0 hb1
      have y1 := cell_keep y1 hb1
      have y2 := cell_keep y2 hb1
      have y3 := cell_keep y3 hb1
      have y4 := cell_keep y4 hb1
      clear HM hb1 HB
      go_wp2_with fail
      refine (HX.out _ HB1.out).mono ?_
      rintro e w2 ⟨rfl, hb2⟩
      have HE := hid (bl_step HB1.out hb2)
      clear HX hb2 HB1
      go_wp2
      go_ret
      exact ⟨by rw [HR.out]; rfl, HE.out⟩
    · have HR : Hid (deedC d.p zs o.p = 1) := by show deedC d.p zs o.p = _; unfold deedC; rw [if_pos (show o.p.kind = 1 from k1)]; show or2 (targetC d.p o.r) _ = _; unfold or2; rw [if_pos (show targetC d.p o.r ≠ 0 from hT)]; exact (target_bit _ _).resolve_left hT
      rw [decide_eq_false hT] at HM
      clear k1 hT HH HX
      go_enter Tryz.func131, Tryz.ntmps131
      go_wp2_with fail
      rw [← E3.out, ← E1.out, ← E0.out]
      clear E3 E1 E0
      refine (HM.out _ HB.out).mono ?_
      rintro e w1 ⟨rfl, hb1⟩
      have HE := hid (bl_step HB.out hb1)
      clear HM hb1 HB
      go_wp2
      go_ret
      exact ⟨by rw [HR.out]; rfl, HE.out⟩
  have e1 : (o.kind == 1) = false := by simpa using k1
  by_cases k2 : o.kind = 2
  · have e2 : (o.kind == 2) = true := by simpa using k2
    by_cases hH : 0 ≤ o.head ∧ o.head < (d.heads.n : Int)
    · have HR : Hid (deedC d.p zs o.p = 0) := by show deedC d.p zs o.p = _; unfold deedC; rw [if_neg (show ¬ o.p.kind = 1 from k1), if_pos (show o.p.kind = 2 ∨ o.p.kind = 3 from .inl k2)]; show numC d.p.hs.length o.head = _; rw [EHS.out]; exact if_pos hH
      rw [decide_eq_true hH] at HH
      clear k1 k2 hH HM HX
      go_enter Tryz.func131, Tryz.ntmps131
      go_wp2_with fail
      rw [← E3.out, ← E1.out, ← E0.out]
      clear E3 E1 E0
      refine (HH.out _).mono ?_
      rintro e w1 ⟨rfl, hb1⟩
      have HE := hid (bl_step HB.out hb1)
      clear HH hb1 HB
      go_wp2
      go_ret
      exact ⟨by rw [HR.out]; rfl, HE.out⟩
    · have HR : Hid (deedC d.p zs o.p = 1) := by show deedC d.p zs o.p = _; unfold deedC; rw [if_neg (show ¬ o.p.kind = 1 from k1), if_pos (show o.p.kind = 2 ∨ o.p.kind = 3 from .inl k2)]; show numC d.p.hs.length o.head = _; rw [EHS.out]; exact if_neg hH
      rw [decide_eq_false hH] at HH
      clear k1 k2 hH HM HX
      go_enter Tryz.func131, Tryz.ntmps131
      go_wp2_with fail
      rw [← E3.out, ← E1.out, ← E0.out]
      clear E3 E1 E0
      refine (HH.out _).mono ?_
      rintro e w1 ⟨rfl, hb1⟩
      have HE := hid (bl_step HB.out hb1)
      clear HH hb1 HB
      go_wp2
      go_ret
      exact ⟨by rw [HR.out]; rfl, HE.out⟩
  have e2 : (o.kind == 2) = false := by simpa using k2
  by_cases k3 : o.kind = 3
  · have e3 : (o.kind == 3) = true := by simpa using k3
    by_cases hH : 0 ≤ o.head ∧ o.head < (d.heads.n : Int)
    · have HR : Hid (deedC d.p zs o.p = 0) := by show deedC d.p zs o.p = _; unfold deedC; rw [if_neg (show ¬ o.p.kind = 1 from k1), if_pos (show o.p.kind = 2 ∨ o.p.kind = 3 from .inr k3)]; show numC d.p.hs.length o.head = _; rw [EHS.out]; exact if_pos hH
      rw [decide_eq_true hH] at HH
      clear k1 k2 k3 hH HM HX
      go_enter Tryz.func131, Tryz.ntmps131
      go_wp2_with fail
      rw [← E3.out, ← E1.out, ← E0.out]
      clear E3 E1 E0
      refine (HH.out _).mono ?_
      rintro e w1 ⟨rfl, hb1⟩
      have HE := hid (bl_step HB.out hb1)
      clear HH hb1 HB
      go_wp2
      go_ret
      exact ⟨by rw [HR.out]; rfl, HE.out⟩
    · have HR : Hid (deedC d.p zs o.p = 1) := by show deedC d.p zs o.p = _; unfold deedC; rw [if_neg (show ¬ o.p.kind = 1 from k1), if_pos (show o.p.kind = 2 ∨ o.p.kind = 3 from .inr k3)]; show numC d.p.hs.length o.head = _; rw [EHS.out]; exact if_neg hH
      rw [decide_eq_false hH] at HH
      clear k1 k2 k3 hH HM HX
      go_enter Tryz.func131, Tryz.ntmps131
      go_wp2_with fail
      rw [← E3.out, ← E1.out, ← E0.out]
      clear E3 E1 E0
      refine (HH.out _).mono ?_
      rintro e w1 ⟨rfl, hb1⟩
      have HE := hid (bl_step HB.out hb1)
      clear HH hb1 HB
      go_wp2
      go_ret
      exact ⟨by rw [HR.out]; rfl, HE.out⟩
  have e3 : (o.kind == 3) = false := by simpa using k3
  have n23 : ¬ (o.p.kind = 2 ∨ o.p.kind = 3) := fun h => h.elim k2 k3
  by_cases k4 : o.kind = 4
  · have e4 : (o.kind == 4) = true := by simpa using k4
    have HR : Hid (deedC d.p zs o.p = 0) := by show deedC d.p zs o.p = _; unfold deedC; rw [if_neg (show ¬ o.p.kind = 1 from k1), if_neg n23, if_pos (show o.p.kind = 4 from k4)]
    clear k1 k2 k3 k4 HM HX HH n23
    go_enter Tryz.func131, Tryz.ntmps131
    go_wp2
    go_ret
    exact ⟨by rw [HR.out]; rfl, by rw [E3.out] at HB; exact HB.out⟩
  have e4 : (o.kind == 4) = false := by simpa using k4
  by_cases k5 : o.kind = 5
  · have e5 : (o.kind == 5) = true := by simpa using k5
    have HR : Hid (deedC d.p zs o.p = treeC d.p o.es zs) := by show deedC d.p zs o.p = _; unfold deedC; rw [if_neg (show ¬ o.p.kind = 1 from k1), if_neg n23, if_neg (show ¬ o.p.kind = 4 from k4), if_pos (show o.p.kind = 5 from k5)]; rfl
    clear k1 k2 k3 k4 k5 HM HH n23
    go_enter Tryz.func131, Tryz.ntmps131
    go_wp2_with fail
    rw [← E3.out, ← E1.out, ← E0.out]
    clear E3 E1 E0
    refine (HX.out _ HB.out).mono ?_
    rintro e w2 ⟨rfl, hb2⟩
    have HE := hid (bl_step HB.out hb2)
    clear HX hb2 HB
    go_wp2
    go_ret
    exact ⟨by rw [HR.out]; rfl, HE.out⟩
  have e5 : (o.kind == 5) = false := by simpa using k5
  by_cases k6 : o.kind = 6
  · have e6 : (o.kind == 6) = true := by simpa using k6
    by_cases hT : targetC d.p o.r = 0
    · by_cases hH : 0 ≤ o.head ∧ o.head < (d.heads.n : Int)
      · have HR : Hid (deedC d.p zs o.p = 0) := by show deedC d.p zs o.p = _; unfold deedC; rw [if_neg (show ¬ o.p.kind = 1 from k1), if_neg n23, if_neg (show ¬ o.p.kind = 4 from k4), if_neg (show ¬ o.p.kind = 5 from k5), if_pos (show o.p.kind = 6 from k6)]; show or2 (targetC d.p o.r) (numC d.p.hs.length o.head) = _; unfold or2; rw [if_neg (by simpa using hT), EHS.out]; exact if_pos hH
        rw [decide_eq_true hT] at HM
        rw [decide_eq_true hH] at HH
        clear k1 k2 k3 k4 k5 k6 hT hH HX n23
        go_enter Tryz.func131, Tryz.ntmps131
        go_wp2_with fail
        rw [← E3.out, ← E1.out, ← E0.out]
        clear E3 E1 E0
        refine (HM.out _ HB.out).mono ?_
        rintro e w1 ⟨rfl, hb1⟩
        have HB1 := hid (bl_step HB.out hb1)
        have z0 := cell_keep z0 hb1
        have z1 := cell_keep z1 hb1
        have z2 := cell_keep z2 hb1
        have z3 := cell_keep z3 hb1
        have z4 := cell_keep z4 hb1
        have z5 := cell_keep z5 hb1
        have z6 := cell_keep z6 hb1
        have y0 := cell_keep y0 hb1
        have y1 := cell_keep y1 hb1
        have y2 := cell_keep y2 hb1
        have y3 := cell_keep y3 hb1
        have y4 := cell_keep y4 hb1
        clear HM hb1 HB
        go_wp2_with fail
        refine (HH.out _).mono ?_
        rintro e w2 ⟨rfl, hb2⟩
        have HE := hid (bl_step HB1.out hb2)
        clear HH hb2 HB1
        go_wp2
        go_ret
        exact ⟨by rw [HR.out]; rfl, HE.out⟩
      · have HR : Hid (deedC d.p zs o.p = 1) := by show deedC d.p zs o.p = _; unfold deedC; rw [if_neg (show ¬ o.p.kind = 1 from k1), if_neg n23, if_neg (show ¬ o.p.kind = 4 from k4), if_neg (show ¬ o.p.kind = 5 from k5), if_pos (show o.p.kind = 6 from k6)]; show or2 (targetC d.p o.r) (numC d.p.hs.length o.head) = _; unfold or2; rw [if_neg (by simpa using hT), EHS.out]; exact if_neg hH
        rw [decide_eq_true hT] at HM
        rw [decide_eq_false hH] at HH
        clear k1 k2 k3 k4 k5 k6 hT hH HX n23
        go_enter Tryz.func131, Tryz.ntmps131
        go_wp2_with fail
        rw [← E3.out, ← E1.out, ← E0.out]
        clear E3 E1 E0
        refine (HM.out _ HB.out).mono ?_
        rintro e w1 ⟨rfl, hb1⟩
        have HB1 := hid (bl_step HB.out hb1)
        have z0 := cell_keep z0 hb1
        have z1 := cell_keep z1 hb1
        have z2 := cell_keep z2 hb1
        have z3 := cell_keep z3 hb1
        have z4 := cell_keep z4 hb1
        have z5 := cell_keep z5 hb1
        have z6 := cell_keep z6 hb1
        have y0 := cell_keep y0 hb1
        have y1 := cell_keep y1 hb1
        have y2 := cell_keep y2 hb1
        have y3 := cell_keep y3 hb1
        have y4 := cell_keep y4 hb1
        clear HM hb1 HB
        go_wp2_with fail
        refine (HH.out _).mono ?_
        rintro e w2 ⟨rfl, hb2⟩
        have HE := hid (bl_step HB1.out hb2)
        clear HH hb2 HB1
        go_wp2
        go_ret
        exact ⟨by rw [HR.out]; rfl, HE.out⟩
    · have HR : Hid (deedC d.p zs o.p = 1) := by show deedC d.p zs o.p = _; unfold deedC; rw [if_neg (show ¬ o.p.kind = 1 from k1), if_neg n23, if_neg (show ¬ o.p.kind = 4 from k4), if_neg (show ¬ o.p.kind = 5 from k5), if_pos (show o.p.kind = 6 from k6)]; show or2 (targetC d.p o.r) (numC d.p.hs.length o.head) = _; unfold or2; rw [if_pos (show targetC d.p o.r ≠ 0 from hT)]; exact (target_bit _ _).resolve_left hT
      rw [decide_eq_false hT] at HM
      clear k1 k2 k3 k4 k5 k6 hT HH HX n23
      go_enter Tryz.func131, Tryz.ntmps131
      go_wp2_with fail
      rw [← E3.out, ← E1.out, ← E0.out]
      clear E3 E1 E0
      refine (HM.out _ HB.out).mono ?_
      rintro e w1 ⟨rfl, hb1⟩
      have HE := hid (bl_step HB.out hb1)
      clear HM hb1 HB
      go_wp2
      go_ret
      exact ⟨by rw [HR.out]; rfl, HE.out⟩
  · have e6 : (o.kind == 6) = false := by simpa using k6
    have HR : Hid (deedC d.p zs o.p = 5) := by show deedC d.p zs o.p = _; unfold deedC; rw [if_neg (show ¬ o.p.kind = 1 from k1), if_neg n23, if_neg (show ¬ o.p.kind = 4 from k4), if_neg (show ¬ o.p.kind = 5 from k5), if_neg (show ¬ o.p.kind = 6 from k6)]
    clear k1 k2 k3 k4 k5 k6 HM HX HH n23
    go_enter Tryz.func131, Tryz.ntmps131
    go_wp2
    go_ret
    exact ⟨by rw [HR.out]; rfl, by rw [E3.out] at HB; exact HB.out⟩

set_option maxHeartbeats 2000000 in
set_option maxRecDepth 20000 in
theorem in_any (a : Option Addr) (n c : Nat) (L : List Int) (x : Int) (w : World) (hn : n ≤ 100000) (hL : Has .i64 w a n L) :
    Calls Tryz.prog 91 #[.slice a n c, .int .i64 x] w fun e w' => e = .returned (.bool (decide (x ∈ L))) ∧ w' = w := by
  have HL := hid hL
  have HN := hid hL.1
  clear hL
  go_enter Tryz.func91, Tryz.ntmps91
  go_wp2
  go_loop [5] (fun q => ∃ k : Nat, k ≤ n ∧ q = .int .i64 k ∧ Hid (∀ j : Nat, j < k → L[j]? ≠ some x)) (fun q => n - (intOf q).toNat)
  case atStart => exact ⟨0, Nat.zero_le _, rfl, fun j hj => absurd hj (by omega)⟩
  case round =>
    obtain ⟨k, hk, rfl, hz⟩ := hrel
    by_cases hlt : k < n
    · obtain ⟨g, off, y, ea', hy, r0⟩ := int_at (s := ⟨a, n, c⟩) HL.out hlt
      dsimp only at ea'
      subst ea'
      have hki : (k : Int) < (n : Int) := by omega
      by_cases hxy : y = x
      · subst hxy
        have HI := hid (decide_eq_true (List.mem_of_getElem? hy))
        clear hz hy
        go_wp2
        go_ret
        exact ⟨by rw [HI.out]; rfl, rfl⟩
      · have b1 : (y == x) = false := by simpa using hxy
        have HZ : Hid (∀ j : Nat, j < k + 1 → L[j]? ≠ some x) := fun j hj => by
          by_cases ej : j = k
          · subst ej; rw [hy]; intro h; exact hxy (Option.some.inj h)
          · exact hz.out j (by omega)
        clear hz hy hxy
        go_wp2
        go_round
        case rel => exact ⟨k + 1, by omega, by go_num, HZ⟩
        case measure => simp [intOf]; omega
    · have ek : k = n := by omega
      have HI := hid (decide_eq_false (fun h => by
        obtain ⟨i, hi⟩ := List.getElem?_of_mem h
        have := (List.getElem?_eq_some_iff.1 hi).1
        exact hz.out i (by rw [HN.out] at this; omega) hi : ¬ x ∈ L))
      clear hz
      subst ek
      go_wp2
      go_ret
      exact ⟨by rw [HI.out]; rfl, rfl⟩
end Go.Proofs.YtkggocdannkdmaaGreat

namespace Go.Proofs.YtkggocdannkdmaaGreat
open Go.RowKit

theorem first_drop {α : Type} {L : List α} {f : α → Int} {k : Nat} {x : α} (h : L[k]? = some x) : firstC ((L.drop k).map f) = if f x ≠ 0 then f x else firstC ((L.drop (k + 1)).map f) := by
  obtain ⟨hk, e⟩ := List.getElem?_eq_some_iff.1 h
  rw [List.drop_eq_getElem_cons hk, e]
  rfl

set_option maxHeartbeats 16000000 in
set_option maxRecDepth 20000 in
theorem ract_any (d : PlanD) (x : ActD) (w : World) (hl : d.lie w) (hws : Has .i64 w x.w.a x.w.n x.ws) (hos : QRow 5 OpD.lie w x.ops x.os) (hp : ∀ r, 0 ≤ d.p.width r []) :
    Calls Tryz.prog 90 #[d.v, .agg #[.slice x.w.a x.w.n x.w.c, .slice x.ops.a x.ops.n x.ops.c]] w fun e w' => e = .returned (.int .i64 (actC d.p x.p)) ∧ Below w.heap.size w w' := by
  have HRES : Hid (actC d.p x.p = if 3 < x.ws.length ∨ 5 < x.os.length then 2 else or2 (firstC (x.ws.map widC)) (firstC (x.os.map (fun o => deedC d.p x.ws o.p)))) := by
    show actC d.p x.p = _
    unfold actC ActD.p
    simp only [List.length_map, List.map_map]
    rfl
  have HWL := hid hws.1
  have HOL := hid hos.1
  obtain ⟨W2, hW⟩ : ∃ W2, W2 = ((w.alloc (.cells #[.slice d.heads.a d.heads.n d.heads.c, .slice d.mta.a d.mta.n d.mta.c, .slice d.states.a d.states.n d.states.c, .slice d.acts.a d.acts.n d.acts.c, .slice d.tabs.a d.tabs.n d.tabs.c, .slice d.nodes.a d.nodes.n d.nodes.c, .slice d.out.a d.out.n d.out.c] 29)).alloc (.cells #[.slice x.w.a x.w.n x.w.c, .slice x.ops.a x.ops.n x.ops.c] 79)) := ⟨_, rfl⟩
  obtain ⟨b0, h0⟩ : ∃ b0, b0 = w.heap.size := ⟨_, rfl⟩
  obtain ⟨b1, h1⟩ : ∃ b1, b1 = w.heap.size + 1 := ⟨_, rfl⟩
  have z0 : W2.cell? ⟨b0, 0, none⟩ = some (.slice d.heads.a d.heads.n d.heads.c) := by rw [hW, h0]; exact (World.cell?_alloc_past _ _ _ (by simp)).trans ((World.cell?_alloc_at _ _ _ _ rfl).trans rfl)
  have z1 : W2.cell? ⟨b0, 1, none⟩ = some (.slice d.mta.a d.mta.n d.mta.c) := by rw [hW, h0]; exact (World.cell?_alloc_past _ _ _ (by simp)).trans ((World.cell?_alloc_at _ _ _ _ rfl).trans rfl)
  have z2 : W2.cell? ⟨b0, 2, none⟩ = some (.slice d.states.a d.states.n d.states.c) := by rw [hW, h0]; exact (World.cell?_alloc_past _ _ _ (by simp)).trans ((World.cell?_alloc_at _ _ _ _ rfl).trans rfl)
  have z3 : W2.cell? ⟨b0, 3, none⟩ = some (.slice d.acts.a d.acts.n d.acts.c) := by rw [hW, h0]; exact (World.cell?_alloc_past _ _ _ (by simp)).trans ((World.cell?_alloc_at _ _ _ _ rfl).trans rfl)
  have z4 : W2.cell? ⟨b0, 4, none⟩ = some (.slice d.tabs.a d.tabs.n d.tabs.c) := by rw [hW, h0]; exact (World.cell?_alloc_past _ _ _ (by simp)).trans ((World.cell?_alloc_at _ _ _ _ rfl).trans rfl)
  have z5 : W2.cell? ⟨b0, 5, none⟩ = some (.slice d.nodes.a d.nodes.n d.nodes.c) := by rw [hW, h0]; exact (World.cell?_alloc_past _ _ _ (by simp)).trans ((World.cell?_alloc_at _ _ _ _ rfl).trans rfl)
  have z6 : W2.cell? ⟨b0, 6, none⟩ = some (.slice d.out.a d.out.n d.out.c) := by rw [hW, h0]; exact (World.cell?_alloc_past _ _ _ (by simp)).trans ((World.cell?_alloc_at _ _ _ _ rfl).trans rfl)
  have y0 : W2.cell? ⟨b1, 0, none⟩ = some (.slice x.w.a x.w.n x.w.c) := by rw [hW, h1]; exact (World.cell?_alloc_at _ _ _ _ (by simp)).trans rfl
  have y1 : W2.cell? ⟨b1, 1, none⟩ = some (.slice x.ops.a x.ops.n x.ops.c) := by rw [hW, h1]; exact (World.cell?_alloc_at _ _ _ _ (by simp)).trans rfl
  have HB : Hid (Below w.heap.size w W2) := by rw [hW]; exact bl_alloc (bl_alloc (Below.refl _ _))
  have E3 := hid hW
  have E0 := hid h0
  have E1 := hid h1
  have HL := hid hl
  have HW := hid hws
  have HO := hid hos
  have HP := hid hp
  clear hW h0 h1 hl hws hos hp
  by_cases h3 : (3 : Int) < (x.w.n : Int)
  · have d3 := decide_eq_true h3
    rw [if_pos (.inl (by rw [HWL.out]; omega))] at HRES
    clear h3
    go_enter Tryz.func90, Tryz.ntmps90
    go_wp2
    go_ret
    exact ⟨by rw [HRES.out]; rfl, bl_alloc (bl_alloc (Below.refl _ _))⟩
  have d3 := decide_eq_false h3
  by_cases h5 : (5 : Int) < (x.ops.n : Int)
  · have d5 := decide_eq_true h5
    rw [if_pos (.inr (by rw [HOL.out]; omega))] at HRES
    clear h3 h5
    go_enter Tryz.func90, Tryz.ntmps90
    go_wp2
    go_ret
    exact ⟨by rw [HRES.out]; rfl, bl_alloc (bl_alloc (Below.refl _ _))⟩
  have d5 := decide_eq_false h5
  rw [if_neg (by rw [HWL.out, HOL.out]; omega)] at HRES
  have hwn : x.w.n ≤ 3 := by omega
  have hon : x.ops.n ≤ 5 := by omega
  clear h3 h5
  go_enter Tryz.func90, Tryz.ntmps90
  go_wp2
  rw [← E3.out, ← E1.out, ← E0.out]
  clear E3 E1 E0 d3 d5
  go_loopw [5] (fun q wr => ∃ k : Nat, k ≤ x.w.n ∧ q = .int .i64 k ∧ Hid (firstC (x.ws.map widC) = firstC ((x.ws.drop k).map widC)) ∧ Hid (W2 = wr)) (fun q _ => x.w.n - (intOf q).toNat)
  case atStart => exact ⟨0, Nat.zero_le _, rfl, rfl, rfl⟩
  case round =>
    obtain ⟨k, hk, rfl, hgo, hWr⟩ := hrel
    obtain rfl := hWr.out
    clear hWr
    by_cases hlt : k < x.w.n
    · obtain ⟨g, off, u, ea, hu, r0⟩ := int_at (HW.out.step HB.out) hlt
      have hki : (k : Int) < (x.w.n : Int) := by omega
      have hst := first_drop (f := widC) hu
      clear hu
      by_cases g1 : u < 1
      · have f1 := decide_eq_true g1
        have HG : Hid (actC d.p x.p = 6) := by
          show actC d.p x.p = 6
          rw [HRES.out, hgo.out, hst, show widC u = 6 from if_pos (.inl g1)]
          rfl
        clear hst hgo g1
        go_wp2
        go_ret
        exact ⟨by rw [HG.out]; rfl, HB.out⟩
      have f1 := decide_eq_false g1
      by_cases g2 : 48 < u
      · have f2 := decide_eq_true g2
        have HG : Hid (actC d.p x.p = 6) := by
          show actC d.p x.p = 6
          rw [HRES.out, hgo.out, hst, show widC u = 6 from if_pos (.inr g2)]
          rfl
        clear hst hgo g1 g2
        go_wp2
        go_ret
        exact ⟨by rw [HG.out]; rfl, HB.out⟩
      · have f2 := decide_eq_false g2
        have HG : Hid (firstC (x.ws.map widC) = firstC ((x.ws.drop (k + 1)).map widC)) := by
          show firstC (x.ws.map widC) = _
          rw [hgo.out, hst, show widC u = 0 from if_neg (by omega)]
          rfl
        clear hst hgo g1 g2
        go_wp2
        go_roundw
        case rel => exact ⟨k + 1, by omega, by go_num, HG, trivial⟩
        case measure => simp [intOf]; omega
    · have ek : k = x.w.n := by omega
      have HR2 : Hid (actC d.p x.p = firstC (x.os.map (fun o => deedC d.p x.ws o.p))) := by
        show actC d.p x.p = _
        have : firstC (x.ws.map widC) = 0 := by rw [hgo.out, ek, ← HWL.out, List.drop_length]; rfl
        rw [HRES.out, this]
        rfl
      have hki : ¬ (k : Int) < (x.w.n : Int) := by omega
      have HBZ : Hid (Below W2.heap.size W2 W2) := Below.refl _ _
      clear hgo HRES ek
      go_wp2
      go_loopw [6, 7] (fun q _ wr => ∃ j : Nat, j ≤ x.ops.n ∧ q = .int .i64 j ∧ Hid (firstC (x.os.map (fun o => deedC d.p x.ws o.p)) = firstC ((x.os.drop j).map (fun o => deedC d.p x.ws o.p))) ∧ Hid (Below W2.heap.size W2 wr)) (fun q _ _ => x.ops.n - (intOf q).toNat)
      case atStart => exact ⟨0, Nat.zero_le _, rfl, rfl, HBZ⟩
      case round =>
        obtain ⟨j, hj, rfl, hgo, hbw⟩ := hrel
        clear HBZ
        have BW := hid (bl_step HB.out hbw.out)
        have z0 := cell_keep z0 hbw.out
        have z1 := cell_keep z1 hbw.out
        have z2 := cell_keep z2 hbw.out
        have z3 := cell_keep z3 hbw.out
        have z4 := cell_keep z4 hbw.out
        have z5 := cell_keep z5 hbw.out
        have z6 := cell_keep z6 hbw.out
        have y0 := cell_keep y0 hbw.out
        have y1 := cell_keep y1 hbw.out
        by_cases hlj : j < x.ops.n
        · obtain ⟨g, off, o, ea, ho, ⟨q0, _⟩, ⟨q1, _⟩, ⟨q2, _⟩, ⟨q3, _⟩, ⟨q4, _⟩, he⟩ := row_at (HO.out.step OpD.keeps BW.out) hlj
          have hji : (j : Int) < (x.ops.n : Int) := by omega
          have hst := first_drop (f := fun o => deedC d.p x.ws o.p) ho
          have HD : Hid (∀ p : BelowBy wr, Calls Tryz.prog 131 #[d.v, o.v, .slice x.w.a x.w.n x.w.c] p.to fun e w' => e = .returned (.int .i64 (deedC d.p x.ws o.p)) ∧ Below p.to.heap.size p.to w') := fun p => rdeed_any d o x.w.a x.w.n x.w.c x.ws p.to (HL.out.step (bl_step BW.out p.h)) (HW.out.step (bl_step BW.out p.h)) (he.step PushD.keeps p.h) (HP.out o.r)
          rw [ea] at y1
          have z0' := cell_by z0
          have z1' := cell_by z1
          have z2' := cell_by z2
          have z3' := cell_by z3
          have z4' := cell_by z4
          have z5' := cell_by z5
          have z6' := cell_by z6
          have y0' := cell_by y0
          have y1' := cell_by y1
          have q0' := cell_by q0
          have q1' := cell_by q1
          have q2' := cell_by q2
          have q3' := cell_by q3
          have q4' := cell_by q4
          clear ho he
          generalize deedC d.p x.ws o.p = C at *
          by_cases hC : C = 0
          · have HG : Hid (firstC (x.os.map (fun o => deedC d.p x.ws o.p)) = firstC ((x.os.drop (j + 1)).map (fun o => deedC d.p x.ws o.p))) := by
              show firstC (x.os.map (fun o => deedC d.p x.ws o.p)) = _
              rw [hgo.out, hst, if_neg (by simpa using hC)]
            have bC : (C != 0) = false := by simpa using hC
            clear hst hgo hC
            go_wp2_with fail
            haveI inhB : ∀ w : World, Inhabited (BelowBy w) := fun w => ⟨⟨w, Below.refl _ _⟩⟩
            refine wp_region_quiet_below (by kernel_rfl) (by kernel_rfl) ?_
            repeat (go_big_quiet_step (first | (go_at_call 131; exact calls_below _ (HD.out _))))
            refine wpQuiet_nil ?_
            intro wq hw'
            obtain ⟨⟨_, hwq⟩, hw''⟩ := hw'
            subst hw''
            have HE := hid (bl_step hbw.out hwq)
            clear hwq HD hbw BW
            go_wp2
            go_roundw
            case rel => exact ⟨j + 1, by omega, by go_num, HG, HE⟩
            case measure => simp [intOf]; omega
          · have HG : Hid (actC d.p x.p = C) := by
              show actC d.p x.p = C
              rw [HR2.out, hgo.out, hst, if_pos hC]
            have bC : (C != 0) = true := by simpa using hC
            clear hst hgo hC
            go_wp2_with fail
            haveI inhB : ∀ w : World, Inhabited (BelowBy w) := fun w => ⟨⟨w, Below.refl _ _⟩⟩
            refine wp_region_quiet_below (by kernel_rfl) (by kernel_rfl) ?_
            repeat (go_big_quiet_step (first | (go_at_call 131; exact calls_below _ (HD.out _))))
            refine wpQuiet_nil ?_
            intro wq hw'
            obtain ⟨⟨_, hwq⟩, hw''⟩ := hw'
            subst hw''
            have HE := hid (bl_step BW.out hwq)
            clear hwq HD hbw BW
            go_wp2
            go_ret
            exact ⟨by rw [HG.out]; rfl, HE.out⟩
        · have ej : j = x.ops.n := by omega
          have hji : ¬ (j : Int) < (x.ops.n : Int) := by omega
          have HG : Hid (actC d.p x.p = 0) := by
            show actC d.p x.p = 0
            rw [HR2.out, hgo.out, ej, ← HOL.out, List.drop_length]
            rfl
          clear hgo ej
          go_wp2
          go_ret
          exact ⟨by rw [HG.out]; rfl, BW.out⟩
end Go.Proofs.YtkggocdannkdmaaGreat

namespace Go.Proofs.YtkggocdannkdmaaGreat
open Go.RowKit

theorem qand_zero_iff (a b : Nat) (ha : a < 18446744073709551616) (hb : b < 18446744073709551616) : a &&& (18446744073709551615 - b) = 0 ↔ a &&& b = a := by
  have key : ∀ j, (18446744073709551615 - b).testBit j = (decide (j < 64) && !b.testBit j) := by
    intro j
    have := Nat.testBit_two_pow_sub_succ (x := b) (n := 64) (by simpa using hb) j
    rw [← this]
    congr 1
    omega
  constructor
  · intro h
    apply Nat.eq_of_testBit_eq
    intro j
    have h1 := congrArg (fun n => n.testBit j) h
    simp only [Nat.testBit_and, key, Nat.zero_testBit] at h1
    rw [Nat.testBit_and]
    by_cases hj : j < 64
    · simp only [hj, decide_true, Bool.true_and] at h1
      cases ha' : a.testBit j <;> cases hb' : b.testBit j <;> simp_all
    · have : a.testBit j = false := Nat.testBit_lt_two_pow (Nat.lt_of_lt_of_le ha (by rw [show (18446744073709551616 : Nat) = 2 ^ 64 from rfl]; exact Nat.pow_le_pow_right (by decide) (by omega)))
      simp [this]
  · intro h
    apply Nat.eq_of_testBit_eq
    intro j
    have h1 := congrArg (fun n => n.testBit j) h
    simp only [Nat.testBit_and] at h1
    simp only [Nat.testBit_and, key, Nat.zero_testBit]
    cases ha' : a.testBit j <;> cases hb' : b.testBit j <;> simp_all


theorem and_whole {v m : Int} (hv : 0 ≤ v ∧ v < 18446744073709551616) (hm : 0 ≤ m ∧ m < 18446744073709551616) : bits .andNot .u64 v m = 0 ↔ bits .and .u64 v m = v := by
  obtain ⟨A, rfl⟩ := Int.eq_ofNat_of_zero_le hv.1
  obtain ⟨B, rfl⟩ := Int.eq_ofNat_of_zero_le hm.1
  have hA : A < 18446744073709551616 := by have := hv.2; omega
  have hB : B < 18446744073709551616 := by have := hm.2; omega
  rw [u64_andNot_nat A B hA hB, u64_and_nat A B hA hB]
  have := qand_zero_iff A B hA hB
  omega

theorem wide_len {m w : Int} (hm : 0 ≤ m ∧ m < 18446744073709551616) (hw : 1 ≤ w ∧ w ≤ 64) : maskN w < m ↔ w < blen m := by
  obtain ⟨W, rfl⟩ := Int.eq_ofNat_of_zero_le (show 0 ≤ w by omega)
  obtain ⟨M, rfl⟩ := Int.eq_ofNat_of_zero_le hm.1
  have hM : M < 2 ^ 64 := by have := hm.2; omega
  have h1 : 1 ≤ 2 ^ W := Nat.one_le_two_pow
  unfold maskN blen
  rw [if_pos hw]
  simp only [Int.toNat_natCast]
  constructor
  · intro h
    have h2 : 2 ^ W ≤ M := by omega
    have h3 := Lib.bitLen_shift W M h2 hM
    have h4 : M / 2 ^ W ≠ 0 := by
      have := Nat.div_pos h2 (by omega)
      omega
    have h5 := Lib.bitLen_half (M / 2 ^ W) h4 (Nat.lt_of_le_of_lt (Nat.div_le_self _ _) hM)
    omega
  · intro h
    apply Classical.byContradiction
    intro h2
    have h3 : M < 2 ^ W := by omega
    have := Lib.bitLen_le M W (by omega) h3
    omega

/-- the code of a case, by the document's words -/
theorem case_ref {p : PPlan} {r : RefD} {n : Int} {c : CaseD} (hv : 0 ≤ c.value ∧ c.value < 18446744073709551616) (hm : 0 ≤ c.mask ∧ c.mask < 18446744073709551616) (hw : 1 ≤ p.width r [] ∧ p.width r [] ≤ 64) :
    caseC p r n c = if maskN (p.width r []) < c.mask ∨ bits .and .u64 c.value c.mask ≠ c.value then 6 else wayC p.ss.length n c.to := by
  unfold caseC
  have h1 := wide_len hm hw
  have h2 := and_whole hv hm
  by_cases h : p.width r [] < blen c.mask ∨ bits .andNot .u64 c.value c.mask ≠ 0
  · rw [if_pos h, if_pos (h.imp h1.2 (fun h => fun e => h (h2.2 e)))]
  · rw [if_neg h, if_neg (fun h' => h (h'.imp h1.1 (fun h => fun e => h (h2.1 e))))]

set_option maxHeartbeats 2000000 in
set_option maxRecDepth 20000 in
theorem wide_any (m x : Int) (w : World) : Calls Tryz.prog 96 #[.int .u64 m, .int .i64 x] w fun e w' => e = .returned (.bool (decide (maskN x < m))) ∧ w' = w := by
  have HC := hid (ones_any x w)
  generalize maskN x = M at *
  go_enter Tryz.func96, Tryz.ntmps96
  go_wp2_with fail
  refine HC.out.mono ?_
  rintro e w1 ⟨rfl, rfl⟩
  clear HC
  go_wp2
  go_ret
  exact ⟨rfl, rfl⟩

set_option maxHeartbeats 32000000 in
set_option maxRecDepth 20000 in
theorem rstate_any (d : PlanD) (w : World) (hl : d.lie w) (hpo : ∀ r, 0 ≤ d.p.width r [] ∧ d.p.width r [] ≤ 48) (k : Nat) (hk : k < d.states.n) (x : StateD) (hx : d.ss[k]? = some x) :
    Calls Tryz.prog 89 #[d.v, .int .i64 k] w fun e w' => e = .returned (.int .i64 (stateC d.p k x.p)) ∧ Below w.heap.size w w' := by
  have bw1 : ∀ o, Below w.heap.size w (w.alloc o) := fun o => bl_alloc (Below.refl _ _)
  obtain ⟨g, off, x', ea, hx', hp⟩ := row_at hl.ss hk
  obtain rfl : x = x' := by rw [hx] at hx'; exact Option.some.inj hx'
  have EHS : Hid (d.p.hs.length = d.heads.n) := by show d.p.hs.length = d.heads.n; simp [PlanD.p, hl.hs.1]
  have ESS : Hid (d.p.ss.length = d.states.n) := by show d.p.ss.length = d.states.n; simp [PlanD.p, hl.ss.1]
  have HI : Hid (∀ w', Calls Tryz.prog 94 #[d.v, .int .i64 x.head] w' fun e w'' => e = .returned (.bool (decide (0 ≤ x.head ∧ x.head < (d.heads.n : Int)))) ∧ Below w'.heap.size w' w'') := fun w' => isHead_any d x.head w'
  have HWO : Hid (∀ w', Below w.heap.size w w' → Calls Tryz.prog 55 #[d.v, .agg #[.int .i64 x.r.h, .int .i64 x.r.f], .slice none 0 0] w' fun e w'' => e = .returned (.int .i64 (d.p.width x.r [])) ∧ Below w'.heap.size w' w'') := fun w' h => by
    rw [← width_p hl]
    exact widthOf_any d x.r.h x.r.f none 0 0 [] w' (hl.step h) (has_nil _ _)
  have HEL : Hid (∀ w', Calls Tryz.prog 130 #[d.v, .int .i64 k, .int .i64 x.els] w' fun e w'' => e = .returned (.int .i64 (wayC d.p.ss.length k x.els)) ∧ Below w'.heap.size w' w'') := fun w' => by
    rw [ESS.out]
    exact lead_any d k x.els w'
  obtain ⟨⟨c0, _⟩, ⟨c1, _⟩, ⟨c2, _⟩, ⟨c3, _⟩, ⟨c4, _⟩, hrow⟩ := hp
  have HCL := hid hrow.1
  have HROW := hid hrow
  have HPO := hid hpo
  have HRES : Hid (stateC d.p k x.p = if x.head ≠ -1 ∧ ¬ (0 ≤ x.head ∧ x.head < (d.p.hs.length : Int)) then 1 else if 4 < x.cs.length then 2 else if 0 < x.cs.length ∧ d.p.width x.r [] = 0 then 1 else or2 (firstC (x.cs.map (caseC d.p x.r k))) (wayC d.p.ss.length k x.els)) := rfl
  have hki : (k : Int) < (d.states.n : Int) := by omega
  have k0 : ∀ o, (w.alloc o).cell? ⟨g, off + k * 5, none⟩ = some (.int .i64 x.head) := fun o => cell_keep c0 (bw1 o)
  have k1 : ∀ o, (w.alloc o).cell? ⟨g, off + k * 5 + 1, none⟩ = some (.int .i64 x.r.h) := fun o => cell_keep c1 (bw1 o)
  have k2' : ∀ o, (w.alloc o).cell? ⟨g, off + k * 5 + 2, none⟩ = some (.int .i64 x.r.f) := fun o => cell_keep c2 (bw1 o)
  obtain ⟨xa, exa⟩ : ∃ xa, x.cases.a = xa := ⟨_, rfl⟩
  have k3 : ∀ o, (w.alloc o).cell? ⟨g, off + k * 5 + 3, none⟩ = some (.slice xa x.cases.n x.cases.c) := fun o => by rw [← exa]; exact cell_keep c3 (bw1 o)
  have EXA := hid exa
  clear exa
  have k4 : ∀ o, (w.alloc o).cell? ⟨g, off + k * 5 + 4, none⟩ = some (.int .i64 x.els) := fun o => cell_keep c4 (bw1 o)
  obtain ⟨W2, hW⟩ : ∃ W2, W2 = ((w.alloc (.cells #[.slice d.heads.a d.heads.n d.heads.c, .slice d.mta.a d.mta.n d.mta.c, .slice (some ⟨g, off, none⟩) d.states.n d.states.c, .slice d.acts.a d.acts.n d.acts.c, .slice d.tabs.a d.tabs.n d.tabs.c, .slice d.nodes.a d.nodes.n d.nodes.c, .slice d.out.a d.out.n d.out.c] 29)).alloc (.cells #[.int .i64 x.head, .int .i64 x.r.h, .int .i64 x.r.f, .slice xa x.cases.n x.cases.c, .int .i64 x.els] 76)) := ⟨_, rfl⟩
  obtain ⟨b0, h0⟩ : ∃ b0, b0 = w.heap.size := ⟨_, rfl⟩
  obtain ⟨b1, h1⟩ : ∃ b1, b1 = w.heap.size + 1 := ⟨_, rfl⟩
  have j0 : W2.cell? ⟨b0, 0, none⟩ = some (.slice d.heads.a d.heads.n d.heads.c) := by rw [hW, h0]; exact (World.cell?_alloc_past _ _ _ (by simp)).trans ((World.cell?_alloc_at _ _ _ _ rfl).trans rfl)
  have j1 : W2.cell? ⟨b0, 1, none⟩ = some (.slice d.mta.a d.mta.n d.mta.c) := by rw [hW, h0]; exact (World.cell?_alloc_past _ _ _ (by simp)).trans ((World.cell?_alloc_at _ _ _ _ rfl).trans rfl)
  have j2 : W2.cell? ⟨b0, 2, none⟩ = some (.slice (some ⟨g, off, none⟩) d.states.n d.states.c) := by rw [hW, h0]; exact (World.cell?_alloc_past _ _ _ (by simp)).trans ((World.cell?_alloc_at _ _ _ _ rfl).trans rfl)
  have j3 : W2.cell? ⟨b0, 3, none⟩ = some (.slice d.acts.a d.acts.n d.acts.c) := by rw [hW, h0]; exact (World.cell?_alloc_past _ _ _ (by simp)).trans ((World.cell?_alloc_at _ _ _ _ rfl).trans rfl)
  have j4 : W2.cell? ⟨b0, 4, none⟩ = some (.slice d.tabs.a d.tabs.n d.tabs.c) := by rw [hW, h0]; exact (World.cell?_alloc_past _ _ _ (by simp)).trans ((World.cell?_alloc_at _ _ _ _ rfl).trans rfl)
  have j5 : W2.cell? ⟨b0, 5, none⟩ = some (.slice d.nodes.a d.nodes.n d.nodes.c) := by rw [hW, h0]; exact (World.cell?_alloc_past _ _ _ (by simp)).trans ((World.cell?_alloc_at _ _ _ _ rfl).trans rfl)
  have j6 : W2.cell? ⟨b0, 6, none⟩ = some (.slice d.out.a d.out.n d.out.c) := by rw [hW, h0]; exact (World.cell?_alloc_past _ _ _ (by simp)).trans ((World.cell?_alloc_at _ _ _ _ rfl).trans rfl)
  have s0 : W2.cell? ⟨b1, 0, none⟩ = some (.int .i64 x.head) := by rw [hW, h1]; exact (World.cell?_alloc_at _ _ _ _ (by simp)).trans rfl
  have s1 : W2.cell? ⟨b1, 1, none⟩ = some (.int .i64 x.r.h) := by rw [hW, h1]; exact (World.cell?_alloc_at _ _ _ _ (by simp)).trans rfl
  have s2 : W2.cell? ⟨b1, 2, none⟩ = some (.int .i64 x.r.f) := by rw [hW, h1]; exact (World.cell?_alloc_at _ _ _ _ (by simp)).trans rfl
  have s3 : W2.cell? ⟨b1, 3, none⟩ = some (.slice xa x.cases.n x.cases.c) := by rw [hW, h1]; exact (World.cell?_alloc_at _ _ _ _ (by simp)).trans rfl
  have s4 : W2.cell? ⟨b1, 4, none⟩ = some (.int .i64 x.els) := by rw [hW, h1]; exact (World.cell?_alloc_at _ _ _ _ (by simp)).trans rfl
  have HB : Hid (Below w.heap.size w W2) := by rw [hW]; exact bl_alloc (bl_alloc (Below.refl _ _))
  have EW := hid hW
  have E0 := hid h0
  have E1 := hid h1
  unfold PlanD.v at HI HWO HEL
  rw [ea] at HI HWO HEL
  clear hl hx hx' c0 c1 c2 c3 c4 hrow hpo hW h0 h1 bw1
  by_cases hA : x.head = -1
  · have bA : (x.head != -1) = false := by simpa using hA
    rw [if_neg (fun h => h.1 hA)] at HRES
    clear HI hA
    by_cases h4 : (4 : Int) < (x.cases.n : Int)
    · have d4 := decide_eq_true h4
      rw [if_pos (by rw [HCL.out]; omega)] at HRES
      clear h4 HWO HEL
      go_enter Tryz.func89, Tryz.ntmps89
      go_wp2
      go_ret
      exact ⟨by rw [HRES.out]; rfl, bl_alloc (bl_alloc (Below.refl _ _))⟩
    have d4 := decide_eq_false h4
    rw [if_neg (by rw [HCL.out]; omega)] at HRES
    have hcn : x.cases.n ≤ 4 := by omega
    clear h4
    go_enter Tryz.func89, Tryz.ntmps89
    go_wp2_with fail
    rw [← EW.out, ← E1.out, ← E0.out]
    refine (HWO.out _ HB.out).mono ?_
    rintro e w1 ⟨rfl, hb1⟩
    have HBC := hid (bl_step HB.out hb1)
    have j0 := cell_keep j0 hb1
    have j1 := cell_keep j1 hb1
    have j2 := cell_keep j2 hb1
    have j3 := cell_keep j3 hb1
    have j4 := cell_keep j4 hb1
    have j5 := cell_keep j5 hb1
    have j6 := cell_keep j6 hb1
    have s0 := cell_keep s0 hb1
    have s1 := cell_keep s1 hb1
    have s2 := cell_keep s2 hb1
    have s3 := cell_keep s3 hb1
    have s4 := cell_keep s4 hb1
    clear HWO hb1 HB
    have HBZ : Hid (Below w1.heap.size w1 w1) := Below.refl _ _
    by_cases h0 : (0 : Int) < (x.cases.n : Int)
    · have d0 : decide (0 < x.cases.n) = true := decide_eq_true (by omega)
      have d0i := decide_eq_true h0
      by_cases hw0 : d.p.width x.r [] = 0
      · rw [if_pos ⟨by rw [HCL.out]; omega, hw0⟩] at HRES
        have f0 : (d.p.width x.r [] == 0) = true := by simpa using hw0
        clear hw0 h0 HEL HBZ
        go_wp2
        go_ret
        exact ⟨by rw [HRES.out]; rfl, HBC.out⟩
      · rw [if_neg (fun h => hw0 h.2)] at HRES
        have f0 : (d.p.width x.r [] == 0) = false := by simpa using hw0
        have HW64 : Hid (0 < x.cases.n → 1 ≤ d.p.width x.r [] ∧ d.p.width x.r [] ≤ 64) := fun _ => by have := HPO.out x.r; omega
        clear hw0 h0
        go_wp2
        go_loopw [7, 8, 9] (fun q _ _ wr => ∃ k2 : Nat, k2 ≤ x.cases.n ∧ q = .int .i64 k2 ∧ Hid (firstC (x.cs.map (caseC d.p x.r k)) = firstC ((x.cs.drop k2).map (caseC d.p x.r k))) ∧ Hid (Below w1.heap.size w1 wr)) (fun q _ _ _ => x.cases.n - (intOf q).toNat)
        case atStart => exact ⟨0, Nat.zero_le _, rfl, rfl, HBZ⟩
        case round =>
          obtain ⟨k2, hk2, rfl, hgo, hbw⟩ := hrel
          clear HBZ
          have BW := hid (bl_step HBC.out hbw.out)
          have j0 := cell_keep j0 hbw.out
          have j1 := cell_keep j1 hbw.out
          have j2 := cell_keep j2 hbw.out
          have j3 := cell_keep j3 hbw.out
          have j4 := cell_keep j4 hbw.out
          have j5 := cell_keep j5 hbw.out
          have j6 := cell_keep j6 hbw.out
          have s0 := cell_keep s0 hbw.out
          have s1 := cell_keep s1 hbw.out
          have s2 := cell_keep s2 hbw.out
          have s3 := cell_keep s3 hbw.out
          have s4 := cell_keep s4 hbw.out
          by_cases hlt : k2 < x.cases.n
          · obtain ⟨cg, coff, c, ca, hc, ⟨q0, w0⟩, ⟨q1, w1'⟩, ⟨q2, _⟩⟩ := row_at (HROW.out.step CaseD.keeps BW.out) hlt
            have hki2 : (k2 : Int) < (x.cases.n : Int) := by omega
            have hst := first_drop (f := caseC d.p x.r k) hc
            have hv64 := bounds_u64 w0
            have hm64 := bounds_u64 w1'
            have hcr := case_ref (p := d.p) (r := x.r) (n := k) (c := c) (by omega) (by omega) (HW64.out (by omega))
            have hbo : ∀ o, Below wr.heap.size wr (wr.alloc o) := fun o => bl_alloc (Below.refl _ _)
            have HWI : Hid (∀ w', Calls Tryz.prog 96 #[.int .u64 c.mask, .int .i64 (d.p.width x.r [])] w' fun e w'' => e = .returned (.bool (decide (maskN (d.p.width x.r []) < c.mask))) ∧ w'' = w') := fun w' => wide_any c.mask _ w'
            have HLE : Hid (∀ w', Calls Tryz.prog 130 #[d.v, .int .i64 k, .int .i64 c.to] w' fun e w'' => e = .returned (.int .i64 (wayC d.p.ss.length k c.to)) ∧ Below w'.heap.size w' w'') := fun w' => by rw [ESS.out]; exact lead_any d k c.to w'
            unfold PlanD.v at HLE
            rw [ea] at HLE
            obtain rfl : xa = some ⟨cg, coff, none⟩ := by rw [← EXA.out]; exact ca
            clear ca
            have HBO := hid hbo
            have j0' : ∀ o, (wr.alloc o).cell? ⟨b0, 0, none⟩ = some (.slice d.heads.a d.heads.n d.heads.c) := fun o => cell_keep j0 (hbo o)
            have j1' : ∀ o, (wr.alloc o).cell? ⟨b0, 1, none⟩ = some (.slice d.mta.a d.mta.n d.mta.c) := fun o => cell_keep j1 (hbo o)
            have j2' : ∀ o, (wr.alloc o).cell? ⟨b0, 2, none⟩ = some (.slice (some ⟨g, off, none⟩) d.states.n d.states.c) := fun o => cell_keep j2 (hbo o)
            have j3' : ∀ o, (wr.alloc o).cell? ⟨b0, 3, none⟩ = some (.slice d.acts.a d.acts.n d.acts.c) := fun o => cell_keep j3 (hbo o)
            have j4' : ∀ o, (wr.alloc o).cell? ⟨b0, 4, none⟩ = some (.slice d.tabs.a d.tabs.n d.tabs.c) := fun o => cell_keep j4 (hbo o)
            have j5' : ∀ o, (wr.alloc o).cell? ⟨b0, 5, none⟩ = some (.slice d.nodes.a d.nodes.n d.nodes.c) := fun o => cell_keep j5 (hbo o)
            have j6' : ∀ o, (wr.alloc o).cell? ⟨b0, 6, none⟩ = some (.slice d.out.a d.out.n d.out.c) := fun o => cell_keep j6 (hbo o)
            have s0' : ∀ o, (wr.alloc o).cell? ⟨b1, 0, none⟩ = some (.int .i64 x.head) := fun o => cell_keep s0 (hbo o)
            have s1' : ∀ o, (wr.alloc o).cell? ⟨b1, 1, none⟩ = some (.int .i64 x.r.h) := fun o => cell_keep s1 (hbo o)
            have s2' : ∀ o, (wr.alloc o).cell? ⟨b1, 2, none⟩ = some (.int .i64 x.r.f) := fun o => cell_keep s2 (hbo o)
            have s3' : ∀ o, (wr.alloc o).cell? ⟨b1, 3, none⟩ = some (.slice (some ⟨cg, coff, none⟩) x.cases.n x.cases.c) := fun o => cell_keep s3 (hbo o)
            have s4' : ∀ o, (wr.alloc o).cell? ⟨b1, 4, none⟩ = some (.int .i64 x.els) := fun o => cell_keep s4 (hbo o)
            clear hc w0 w1' hbo
            generalize caseC d.p x.r k c = C at *
            generalize wayC d.p.ss.length k c.to = R at *
            generalize maskN (d.p.width x.r []) = M at *
            generalize hV : bits .and .u64 c.value c.mask = V at *
            clear hv64 hm64
            by_cases g1 : M < c.mask
            · have f1 := decide_eq_true g1
              have hC6 : C = 6 := by rw [hcr, if_pos (.inl g1)]
              have HG : Hid (stateC d.p k x.p = 6) := by show _ = _; rw [HRES.out, hgo.out, hst, if_pos (by rw [hC6]; decide), hC6]; rfl
              rw [f1] at HWI
              clear hst hgo hcr g1 hC6 HLE
              go_wp2_with fail
              refine (HWI.out _).mono ?_
              rintro e u1 ⟨rfl, rfl⟩
              have HE := hid (bl_step BW.out (HBO.out (.cells #[.int .u64 c.value, .int .u64 c.mask, .int .i64 c.to] 134)))
              clear HWI HBO BW
              go_wp2
              go_ret
              exact ⟨by rw [HG.out]; rfl, HE.out⟩
            have f1 := decide_eq_false g1
            rw [f1] at HWI
            by_cases g2 : V = c.value
            · have f2 : (V != c.value) = false := by simpa using g2
              have hCR : C = R := by rw [hcr, if_neg (fun h => h.elim g1 (fun h => h g2))]
              subst hCR
              by_cases gC : C = 0
              · have HG : Hid (firstC (x.cs.map (caseC d.p x.r k)) = firstC ((x.cs.drop (k2 + 1)).map (caseC d.p x.r k))) := by show _ = _; rw [hgo.out, hst, if_neg (by simpa using gC)]
                have fC : (C != 0) = false := by simpa using gC
                clear hst hgo hcr g1 g2
                go_wp2_with fail
                refine (HWI.out _).mono ?_
                rintro e u1 ⟨rfl, rfl⟩
                clear HWI
                go_wp2_with fail
                refine (HLE.out _).mono ?_
                rintro e u2 ⟨rfl, hb2⟩
                have HE := hid (bl_step (bl_step hbw.out (HBO.out _)) hb2)
                clear HLE hb2 HBO hbw BW
                go_wp2
                go_roundw
                case rel => exact ⟨k2 + 1, by omega, by go_num, HG, HE⟩
                case measure => simp [intOf]; omega
              · have HG : Hid (stateC d.p k x.p = C) := by show _ = _; rw [HRES.out, hgo.out, hst, if_pos gC]; unfold or2; rw [if_pos gC]
                have fC : (C != 0) = true := by simpa using gC
                clear hst hgo hcr g1 g2
                go_wp2_with fail
                refine (HWI.out _).mono ?_
                rintro e u1 ⟨rfl, rfl⟩
                clear HWI
                go_wp2_with fail
                refine (HLE.out _).mono ?_
                rintro e u2 ⟨rfl, hb2⟩
                have HE := hid (bl_step (bl_step BW.out (HBO.out _)) hb2)
                clear HLE hb2 HBO hbw BW
                go_wp2
                go_ret
                exact ⟨by rw [HG.out]; rfl, HE.out⟩
            · have f2 : (V != c.value) = true := by simpa using g2
              have hC6 : C = 6 := by rw [hcr, if_pos (.inr g2)]
              have HG : Hid (stateC d.p k x.p = 6) := by show _ = _; rw [HRES.out, hgo.out, hst, if_pos (by rw [hC6]; decide), hC6]; rfl
              clear hst hgo hcr g1 hC6 HLE
              go_wp2_with fail
              refine (HWI.out _).mono ?_
              rintro e u1 ⟨rfl, rfl⟩
              have HE := hid (bl_step BW.out (HBO.out (.cells #[.int .u64 c.value, .int .u64 c.mask, .int .i64 c.to] 134)))
              clear HWI HBO BW
              go_wp2
              go_ret
              exact ⟨by rw [HG.out]; rfl, HE.out⟩
          · have ek : k2 = x.cases.n := by omega
            have hki2 : ¬ (k2 : Int) < (x.cases.n : Int) := by omega
            have HG : Hid (stateC d.p k x.p = wayC d.p.ss.length k x.els) := by
              show _ = _
              have : firstC (x.cs.map (caseC d.p x.r k)) = 0 := by rw [hgo.out, ek, ← HCL.out, List.drop_length]; rfl
              rw [HRES.out, this]
              rfl
            clear hgo ek
            go_wp2_with fail
            refine (HEL.out _).mono ?_
            rintro e u2 ⟨rfl, hb2⟩
            have HE := hid (bl_step BW.out hb2)
            clear HEL hb2 hbw BW
            go_wp2
            go_ret
            exact ⟨by rw [HG.out]; rfl, HE.out⟩
    · have d0 : decide (0 < x.cases.n) = false := decide_eq_false (by omega)
      have d0i := decide_eq_false h0
      rw [if_neg (fun h => h0 (by have := h.1; rw [HCL.out] at this; omega))] at HRES
      have HW64 : Hid (0 < x.cases.n → 1 ≤ d.p.width x.r [] ∧ d.p.width x.r [] ≤ 64) := fun h => absurd h (by omega)
      clear h0
      go_wp2
      go_loopw [7, 8, 9] (fun q _ _ wr => ∃ k2 : Nat, k2 ≤ x.cases.n ∧ q = .int .i64 k2 ∧ Hid (firstC (x.cs.map (caseC d.p x.r k)) = firstC ((x.cs.drop k2).map (caseC d.p x.r k))) ∧ Hid (Below w1.heap.size w1 wr)) (fun q _ _ _ => x.cases.n - (intOf q).toNat)
      case atStart => exact ⟨0, Nat.zero_le _, rfl, rfl, HBZ⟩
      case round =>
        obtain ⟨k2, hk2, rfl, hgo, hbw⟩ := hrel
        clear HBZ
        have BW := hid (bl_step HBC.out hbw.out)
        have j0 := cell_keep j0 hbw.out
        have j1 := cell_keep j1 hbw.out
        have j2 := cell_keep j2 hbw.out
        have j3 := cell_keep j3 hbw.out
        have j4 := cell_keep j4 hbw.out
        have j5 := cell_keep j5 hbw.out
        have j6 := cell_keep j6 hbw.out
        have s0 := cell_keep s0 hbw.out
        have s1 := cell_keep s1 hbw.out
        have s2 := cell_keep s2 hbw.out
        have s3 := cell_keep s3 hbw.out
        have s4 := cell_keep s4 hbw.out
        by_cases hlt : k2 < x.cases.n
        · obtain ⟨cg, coff, c, ca, hc, ⟨q0, w0⟩, ⟨q1, w1'⟩, ⟨q2, _⟩⟩ := row_at (HROW.out.step CaseD.keeps BW.out) hlt
          have hki2 : (k2 : Int) < (x.cases.n : Int) := by omega
          have hst := first_drop (f := caseC d.p x.r k) hc
          have hv64 := bounds_u64 w0
          have hm64 := bounds_u64 w1'
          have hcr := case_ref (p := d.p) (r := x.r) (n := k) (c := c) (by omega) (by omega) (HW64.out (by omega))
          have hbo : ∀ o, Below wr.heap.size wr (wr.alloc o) := fun o => bl_alloc (Below.refl _ _)
          have HWI : Hid (∀ w', Calls Tryz.prog 96 #[.int .u64 c.mask, .int .i64 (d.p.width x.r [])] w' fun e w'' => e = .returned (.bool (decide (maskN (d.p.width x.r []) < c.mask))) ∧ w'' = w') := fun w' => wide_any c.mask _ w'
          have HLE : Hid (∀ w', Calls Tryz.prog 130 #[d.v, .int .i64 k, .int .i64 c.to] w' fun e w'' => e = .returned (.int .i64 (wayC d.p.ss.length k c.to)) ∧ Below w'.heap.size w' w'') := fun w' => by rw [ESS.out]; exact lead_any d k c.to w'
          unfold PlanD.v at HLE
          rw [ea] at HLE
          obtain rfl : xa = some ⟨cg, coff, none⟩ := by rw [← EXA.out]; exact ca
          clear ca
          have HBO := hid hbo
          have j0' : ∀ o, (wr.alloc o).cell? ⟨b0, 0, none⟩ = some (.slice d.heads.a d.heads.n d.heads.c) := fun o => cell_keep j0 (hbo o)
          have j1' : ∀ o, (wr.alloc o).cell? ⟨b0, 1, none⟩ = some (.slice d.mta.a d.mta.n d.mta.c) := fun o => cell_keep j1 (hbo o)
          have j2' : ∀ o, (wr.alloc o).cell? ⟨b0, 2, none⟩ = some (.slice (some ⟨g, off, none⟩) d.states.n d.states.c) := fun o => cell_keep j2 (hbo o)
          have j3' : ∀ o, (wr.alloc o).cell? ⟨b0, 3, none⟩ = some (.slice d.acts.a d.acts.n d.acts.c) := fun o => cell_keep j3 (hbo o)
          have j4' : ∀ o, (wr.alloc o).cell? ⟨b0, 4, none⟩ = some (.slice d.tabs.a d.tabs.n d.tabs.c) := fun o => cell_keep j4 (hbo o)
          have j5' : ∀ o, (wr.alloc o).cell? ⟨b0, 5, none⟩ = some (.slice d.nodes.a d.nodes.n d.nodes.c) := fun o => cell_keep j5 (hbo o)
          have j6' : ∀ o, (wr.alloc o).cell? ⟨b0, 6, none⟩ = some (.slice d.out.a d.out.n d.out.c) := fun o => cell_keep j6 (hbo o)
          have s0' : ∀ o, (wr.alloc o).cell? ⟨b1, 0, none⟩ = some (.int .i64 x.head) := fun o => cell_keep s0 (hbo o)
          have s1' : ∀ o, (wr.alloc o).cell? ⟨b1, 1, none⟩ = some (.int .i64 x.r.h) := fun o => cell_keep s1 (hbo o)
          have s2' : ∀ o, (wr.alloc o).cell? ⟨b1, 2, none⟩ = some (.int .i64 x.r.f) := fun o => cell_keep s2 (hbo o)
          have s3' : ∀ o, (wr.alloc o).cell? ⟨b1, 3, none⟩ = some (.slice (some ⟨cg, coff, none⟩) x.cases.n x.cases.c) := fun o => cell_keep s3 (hbo o)
          have s4' : ∀ o, (wr.alloc o).cell? ⟨b1, 4, none⟩ = some (.int .i64 x.els) := fun o => cell_keep s4 (hbo o)
          clear hc w0 w1' hbo
          generalize caseC d.p x.r k c = C at *
          generalize wayC d.p.ss.length k c.to = R at *
          generalize maskN (d.p.width x.r []) = M at *
          generalize hV : bits .and .u64 c.value c.mask = V at *
          clear hv64 hm64
          by_cases g1 : M < c.mask
          · have f1 := decide_eq_true g1
            have hC6 : C = 6 := by rw [hcr, if_pos (.inl g1)]
            have HG : Hid (stateC d.p k x.p = 6) := by show _ = _; rw [HRES.out, hgo.out, hst, if_pos (by rw [hC6]; decide), hC6]; rfl
            rw [f1] at HWI
            clear hst hgo hcr g1 hC6 HLE
            go_wp2_with fail
            refine (HWI.out _).mono ?_
            rintro e u1 ⟨rfl, rfl⟩
            have HE := hid (bl_step BW.out (HBO.out (.cells #[.int .u64 c.value, .int .u64 c.mask, .int .i64 c.to] 134)))
            clear HWI HBO BW
            go_wp2
            go_ret
            exact ⟨by rw [HG.out]; rfl, HE.out⟩
          have f1 := decide_eq_false g1
          rw [f1] at HWI
          by_cases g2 : V = c.value
          · have f2 : (V != c.value) = false := by simpa using g2
            have hCR : C = R := by rw [hcr, if_neg (fun h => h.elim g1 (fun h => h g2))]
            subst hCR
            by_cases gC : C = 0
            · have HG : Hid (firstC (x.cs.map (caseC d.p x.r k)) = firstC ((x.cs.drop (k2 + 1)).map (caseC d.p x.r k))) := by show _ = _; rw [hgo.out, hst, if_neg (by simpa using gC)]
              have fC : (C != 0) = false := by simpa using gC
              clear hst hgo hcr g1 g2
              go_wp2_with fail
              refine (HWI.out _).mono ?_
              rintro e u1 ⟨rfl, rfl⟩
              clear HWI
              go_wp2_with fail
              refine (HLE.out _).mono ?_
              rintro e u2 ⟨rfl, hb2⟩
              have HE := hid (bl_step (bl_step hbw.out (HBO.out _)) hb2)
              clear HLE hb2 HBO hbw BW
              go_wp2
              go_roundw
              case rel => exact ⟨k2 + 1, by omega, by go_num, HG, HE⟩
              case measure => simp [intOf]; omega
            · have HG : Hid (stateC d.p k x.p = C) := by show _ = _; rw [HRES.out, hgo.out, hst, if_pos gC]; unfold or2; rw [if_pos gC]
              have fC : (C != 0) = true := by simpa using gC
              clear hst hgo hcr g1 g2
              go_wp2_with fail
              refine (HWI.out _).mono ?_
              rintro e u1 ⟨rfl, rfl⟩
              clear HWI
              go_wp2_with fail
              refine (HLE.out _).mono ?_
              rintro e u2 ⟨rfl, hb2⟩
              have HE := hid (bl_step (bl_step BW.out (HBO.out _)) hb2)
              clear HLE hb2 HBO hbw BW
              go_wp2
              go_ret
              exact ⟨by rw [HG.out]; rfl, HE.out⟩
          · have f2 : (V != c.value) = true := by simpa using g2
            have hC6 : C = 6 := by rw [hcr, if_pos (.inr g2)]
            have HG : Hid (stateC d.p k x.p = 6) := by show _ = _; rw [HRES.out, hgo.out, hst, if_pos (by rw [hC6]; decide), hC6]; rfl
            clear hst hgo hcr g1 hC6 HLE
            go_wp2_with fail
            refine (HWI.out _).mono ?_
            rintro e u1 ⟨rfl, rfl⟩
            have HE := hid (bl_step BW.out (HBO.out (.cells #[.int .u64 c.value, .int .u64 c.mask, .int .i64 c.to] 134)))
            clear HWI HBO BW
            go_wp2
            go_ret
            exact ⟨by rw [HG.out]; rfl, HE.out⟩
        · have ek : k2 = x.cases.n := by omega
          have hki2 : ¬ (k2 : Int) < (x.cases.n : Int) := by omega
          have HG : Hid (stateC d.p k x.p = wayC d.p.ss.length k x.els) := by
            show _ = _
            have : firstC (x.cs.map (caseC d.p x.r k)) = 0 := by rw [hgo.out, ek, ← HCL.out, List.drop_length]; rfl
            rw [HRES.out, this]
            rfl
          clear hgo ek
          go_wp2_with fail
          refine (HEL.out _).mono ?_
          rintro e u2 ⟨rfl, hb2⟩
          have HE := hid (bl_step BW.out hb2)
          clear HEL hb2 hbw BW
          go_wp2
          go_ret
          exact ⟨by rw [HG.out]; rfl, HE.out⟩
  have bA : (x.head != -1) = true := by simpa using hA
  by_cases hH : 0 ≤ x.head ∧ x.head < (d.heads.n : Int)
  · have hn1 : ¬ (x.head ≠ -1 ∧ ¬ (0 ≤ x.head ∧ x.head < (d.p.hs.length : Int))) := fun h => h.2 (by rw [EHS.out]; exact hH)
    rw [if_neg hn1] at HRES
    rw [decide_eq_true hH] at HI
    clear hn1 hA hH
    by_cases h4 : (4 : Int) < (x.cases.n : Int)
    · have d4 := decide_eq_true h4
      rw [if_pos (by rw [HCL.out]; omega)] at HRES
      clear h4 HWO HEL
      go_enter Tryz.func89, Tryz.ntmps89
      go_wp2_with fail
      rw [← EW.out, ← E1.out, ← E0.out]
      refine (HI.out _).mono ?_
      rintro e u0 ⟨rfl, hb0⟩
      have HE := hid (bl_step HB.out hb0)
      have j0 := cell_keep j0 hb0
      have j1 := cell_keep j1 hb0
      have j2 := cell_keep j2 hb0
      have j3 := cell_keep j3 hb0
      have j4 := cell_keep j4 hb0
      have j5 := cell_keep j5 hb0
      have j6 := cell_keep j6 hb0
      have s0 := cell_keep s0 hb0
      have s1 := cell_keep s1 hb0
      have s2 := cell_keep s2 hb0
      have s3 := cell_keep s3 hb0
      have s4 := cell_keep s4 hb0
      clear HI hb0 HB
      go_wp2
      go_ret
      exact ⟨by rw [HRES.out]; rfl, HE.out⟩
    have d4 := decide_eq_false h4
    rw [if_neg (by rw [HCL.out]; omega)] at HRES
    have hcn : x.cases.n ≤ 4 := by omega
    clear h4
    go_enter Tryz.func89, Tryz.ntmps89
    go_wp2_with fail
    rw [← EW.out, ← E1.out, ← E0.out]
    refine (HI.out _).mono ?_
    rintro e u0 ⟨rfl, hb0⟩
    have HB := hid (bl_step HB.out hb0)
    have j0 := cell_keep j0 hb0
    have j1 := cell_keep j1 hb0
    have j2 := cell_keep j2 hb0
    have j3 := cell_keep j3 hb0
    have j4 := cell_keep j4 hb0
    have j5 := cell_keep j5 hb0
    have j6 := cell_keep j6 hb0
    have s0 := cell_keep s0 hb0
    have s1 := cell_keep s1 hb0
    have s2 := cell_keep s2 hb0
    have s3 := cell_keep s3 hb0
    have s4 := cell_keep s4 hb0
    clear HI hb0
    go_wp2_with fail
    refine (HWO.out _ HB.out).mono ?_
    rintro e w1 ⟨rfl, hb1⟩
    have HBC := hid (bl_step HB.out hb1)
    have j0 := cell_keep j0 hb1
    have j1 := cell_keep j1 hb1
    have j2 := cell_keep j2 hb1
    have j3 := cell_keep j3 hb1
    have j4 := cell_keep j4 hb1
    have j5 := cell_keep j5 hb1
    have j6 := cell_keep j6 hb1
    have s0 := cell_keep s0 hb1
    have s1 := cell_keep s1 hb1
    have s2 := cell_keep s2 hb1
    have s3 := cell_keep s3 hb1
    have s4 := cell_keep s4 hb1
    clear HWO hb1 HB
    have HBZ : Hid (Below w1.heap.size w1 w1) := Below.refl _ _
    by_cases h0 : (0 : Int) < (x.cases.n : Int)
    · have d0 : decide (0 < x.cases.n) = true := decide_eq_true (by omega)
      have d0i := decide_eq_true h0
      by_cases hw0 : d.p.width x.r [] = 0
      · rw [if_pos ⟨by rw [HCL.out]; omega, hw0⟩] at HRES
        have f0 : (d.p.width x.r [] == 0) = true := by simpa using hw0
        clear hw0 h0 HEL HBZ
        go_wp2
        go_ret
        exact ⟨by rw [HRES.out]; rfl, HBC.out⟩
      · rw [if_neg (fun h => hw0 h.2)] at HRES
        have f0 : (d.p.width x.r [] == 0) = false := by simpa using hw0
        have HW64 : Hid (0 < x.cases.n → 1 ≤ d.p.width x.r [] ∧ d.p.width x.r [] ≤ 64) := fun _ => by have := HPO.out x.r; omega
        clear hw0 h0
        go_wp2
        go_loopw [7, 8, 9] (fun q _ _ wr => ∃ k2 : Nat, k2 ≤ x.cases.n ∧ q = .int .i64 k2 ∧ Hid (firstC (x.cs.map (caseC d.p x.r k)) = firstC ((x.cs.drop k2).map (caseC d.p x.r k))) ∧ Hid (Below w1.heap.size w1 wr)) (fun q _ _ _ => x.cases.n - (intOf q).toNat)
        case atStart => exact ⟨0, Nat.zero_le _, rfl, rfl, HBZ⟩
        case round =>
          obtain ⟨k2, hk2, rfl, hgo, hbw⟩ := hrel
          clear HBZ
          have BW := hid (bl_step HBC.out hbw.out)
          have j0 := cell_keep j0 hbw.out
          have j1 := cell_keep j1 hbw.out
          have j2 := cell_keep j2 hbw.out
          have j3 := cell_keep j3 hbw.out
          have j4 := cell_keep j4 hbw.out
          have j5 := cell_keep j5 hbw.out
          have j6 := cell_keep j6 hbw.out
          have s0 := cell_keep s0 hbw.out
          have s1 := cell_keep s1 hbw.out
          have s2 := cell_keep s2 hbw.out
          have s3 := cell_keep s3 hbw.out
          have s4 := cell_keep s4 hbw.out
          by_cases hlt : k2 < x.cases.n
          · obtain ⟨cg, coff, c, ca, hc, ⟨q0, w0⟩, ⟨q1, w1'⟩, ⟨q2, _⟩⟩ := row_at (HROW.out.step CaseD.keeps BW.out) hlt
            have hki2 : (k2 : Int) < (x.cases.n : Int) := by omega
            have hst := first_drop (f := caseC d.p x.r k) hc
            have hv64 := bounds_u64 w0
            have hm64 := bounds_u64 w1'
            have hcr := case_ref (p := d.p) (r := x.r) (n := k) (c := c) (by omega) (by omega) (HW64.out (by omega))
            have hbo : ∀ o, Below wr.heap.size wr (wr.alloc o) := fun o => bl_alloc (Below.refl _ _)
            have HWI : Hid (∀ w', Calls Tryz.prog 96 #[.int .u64 c.mask, .int .i64 (d.p.width x.r [])] w' fun e w'' => e = .returned (.bool (decide (maskN (d.p.width x.r []) < c.mask))) ∧ w'' = w') := fun w' => wide_any c.mask _ w'
            have HLE : Hid (∀ w', Calls Tryz.prog 130 #[d.v, .int .i64 k, .int .i64 c.to] w' fun e w'' => e = .returned (.int .i64 (wayC d.p.ss.length k c.to)) ∧ Below w'.heap.size w' w'') := fun w' => by rw [ESS.out]; exact lead_any d k c.to w'
            unfold PlanD.v at HLE
            rw [ea] at HLE
            obtain rfl : xa = some ⟨cg, coff, none⟩ := by rw [← EXA.out]; exact ca
            clear ca
            have HBO := hid hbo
            have j0' : ∀ o, (wr.alloc o).cell? ⟨b0, 0, none⟩ = some (.slice d.heads.a d.heads.n d.heads.c) := fun o => cell_keep j0 (hbo o)
            have j1' : ∀ o, (wr.alloc o).cell? ⟨b0, 1, none⟩ = some (.slice d.mta.a d.mta.n d.mta.c) := fun o => cell_keep j1 (hbo o)
            have j2' : ∀ o, (wr.alloc o).cell? ⟨b0, 2, none⟩ = some (.slice (some ⟨g, off, none⟩) d.states.n d.states.c) := fun o => cell_keep j2 (hbo o)
            have j3' : ∀ o, (wr.alloc o).cell? ⟨b0, 3, none⟩ = some (.slice d.acts.a d.acts.n d.acts.c) := fun o => cell_keep j3 (hbo o)
            have j4' : ∀ o, (wr.alloc o).cell? ⟨b0, 4, none⟩ = some (.slice d.tabs.a d.tabs.n d.tabs.c) := fun o => cell_keep j4 (hbo o)
            have j5' : ∀ o, (wr.alloc o).cell? ⟨b0, 5, none⟩ = some (.slice d.nodes.a d.nodes.n d.nodes.c) := fun o => cell_keep j5 (hbo o)
            have j6' : ∀ o, (wr.alloc o).cell? ⟨b0, 6, none⟩ = some (.slice d.out.a d.out.n d.out.c) := fun o => cell_keep j6 (hbo o)
            have s0' : ∀ o, (wr.alloc o).cell? ⟨b1, 0, none⟩ = some (.int .i64 x.head) := fun o => cell_keep s0 (hbo o)
            have s1' : ∀ o, (wr.alloc o).cell? ⟨b1, 1, none⟩ = some (.int .i64 x.r.h) := fun o => cell_keep s1 (hbo o)
            have s2' : ∀ o, (wr.alloc o).cell? ⟨b1, 2, none⟩ = some (.int .i64 x.r.f) := fun o => cell_keep s2 (hbo o)
            have s3' : ∀ o, (wr.alloc o).cell? ⟨b1, 3, none⟩ = some (.slice (some ⟨cg, coff, none⟩) x.cases.n x.cases.c) := fun o => cell_keep s3 (hbo o)
            have s4' : ∀ o, (wr.alloc o).cell? ⟨b1, 4, none⟩ = some (.int .i64 x.els) := fun o => cell_keep s4 (hbo o)
            clear hc w0 w1' hbo
            generalize caseC d.p x.r k c = C at *
            generalize wayC d.p.ss.length k c.to = R at *
            generalize maskN (d.p.width x.r []) = M at *
            generalize hV : bits .and .u64 c.value c.mask = V at *
            clear hv64 hm64
            by_cases g1 : M < c.mask
            · have f1 := decide_eq_true g1
              have hC6 : C = 6 := by rw [hcr, if_pos (.inl g1)]
              have HG : Hid (stateC d.p k x.p = 6) := by show _ = _; rw [HRES.out, hgo.out, hst, if_pos (by rw [hC6]; decide), hC6]; rfl
              rw [f1] at HWI
              clear hst hgo hcr g1 hC6 HLE
              go_wp2_with fail
              refine (HWI.out _).mono ?_
              rintro e u1 ⟨rfl, rfl⟩
              have HE := hid (bl_step BW.out (HBO.out (.cells #[.int .u64 c.value, .int .u64 c.mask, .int .i64 c.to] 134)))
              clear HWI HBO BW
              go_wp2
              go_ret
              exact ⟨by rw [HG.out]; rfl, HE.out⟩
            have f1 := decide_eq_false g1
            rw [f1] at HWI
            by_cases g2 : V = c.value
            · have f2 : (V != c.value) = false := by simpa using g2
              have hCR : C = R := by rw [hcr, if_neg (fun h => h.elim g1 (fun h => h g2))]
              subst hCR
              by_cases gC : C = 0
              · have HG : Hid (firstC (x.cs.map (caseC d.p x.r k)) = firstC ((x.cs.drop (k2 + 1)).map (caseC d.p x.r k))) := by show _ = _; rw [hgo.out, hst, if_neg (by simpa using gC)]
                have fC : (C != 0) = false := by simpa using gC
                clear hst hgo hcr g1 g2
                go_wp2_with fail
                refine (HWI.out _).mono ?_
                rintro e u1 ⟨rfl, rfl⟩
                clear HWI
                go_wp2_with fail
                refine (HLE.out _).mono ?_
                rintro e u2 ⟨rfl, hb2⟩
                have HE := hid (bl_step (bl_step hbw.out (HBO.out _)) hb2)
                clear HLE hb2 HBO hbw BW
                go_wp2
                go_roundw
                case rel => exact ⟨k2 + 1, by omega, by go_num, HG, HE⟩
                case measure => simp [intOf]; omega
              · have HG : Hid (stateC d.p k x.p = C) := by show _ = _; rw [HRES.out, hgo.out, hst, if_pos gC]; unfold or2; rw [if_pos gC]
                have fC : (C != 0) = true := by simpa using gC
                clear hst hgo hcr g1 g2
                go_wp2_with fail
                refine (HWI.out _).mono ?_
                rintro e u1 ⟨rfl, rfl⟩
                clear HWI
                go_wp2_with fail
                refine (HLE.out _).mono ?_
                rintro e u2 ⟨rfl, hb2⟩
                have HE := hid (bl_step (bl_step BW.out (HBO.out _)) hb2)
                clear HLE hb2 HBO hbw BW
                go_wp2
                go_ret
                exact ⟨by rw [HG.out]; rfl, HE.out⟩
            · have f2 : (V != c.value) = true := by simpa using g2
              have hC6 : C = 6 := by rw [hcr, if_pos (.inr g2)]
              have HG : Hid (stateC d.p k x.p = 6) := by show _ = _; rw [HRES.out, hgo.out, hst, if_pos (by rw [hC6]; decide), hC6]; rfl
              clear hst hgo hcr g1 hC6 HLE
              go_wp2_with fail
              refine (HWI.out _).mono ?_
              rintro e u1 ⟨rfl, rfl⟩
              have HE := hid (bl_step BW.out (HBO.out (.cells #[.int .u64 c.value, .int .u64 c.mask, .int .i64 c.to] 134)))
              clear HWI HBO BW
              go_wp2
              go_ret
              exact ⟨by rw [HG.out]; rfl, HE.out⟩
          · have ek : k2 = x.cases.n := by omega
            have hki2 : ¬ (k2 : Int) < (x.cases.n : Int) := by omega
            have HG : Hid (stateC d.p k x.p = wayC d.p.ss.length k x.els) := by
              show _ = _
              have : firstC (x.cs.map (caseC d.p x.r k)) = 0 := by rw [hgo.out, ek, ← HCL.out, List.drop_length]; rfl
              rw [HRES.out, this]
              rfl
            clear hgo ek
            go_wp2_with fail
            refine (HEL.out _).mono ?_
            rintro e u2 ⟨rfl, hb2⟩
            have HE := hid (bl_step BW.out hb2)
            clear HEL hb2 hbw BW
            go_wp2
            go_ret
            exact ⟨by rw [HG.out]; rfl, HE.out⟩
    · have d0 : decide (0 < x.cases.n) = false := decide_eq_false (by omega)
      have d0i := decide_eq_false h0
      rw [if_neg (fun h => h0 (by have := h.1; rw [HCL.out] at this; omega))] at HRES
      have HW64 : Hid (0 < x.cases.n → 1 ≤ d.p.width x.r [] ∧ d.p.width x.r [] ≤ 64) := fun h => absurd h (by omega)
      clear h0
      go_wp2
      go_loopw [7, 8, 9] (fun q _ _ wr => ∃ k2 : Nat, k2 ≤ x.cases.n ∧ q = .int .i64 k2 ∧ Hid (firstC (x.cs.map (caseC d.p x.r k)) = firstC ((x.cs.drop k2).map (caseC d.p x.r k))) ∧ Hid (Below w1.heap.size w1 wr)) (fun q _ _ _ => x.cases.n - (intOf q).toNat)
      case atStart => exact ⟨0, Nat.zero_le _, rfl, rfl, HBZ⟩
      case round =>
        obtain ⟨k2, hk2, rfl, hgo, hbw⟩ := hrel
        clear HBZ
        have BW := hid (bl_step HBC.out hbw.out)
        have j0 := cell_keep j0 hbw.out
        have j1 := cell_keep j1 hbw.out
        have j2 := cell_keep j2 hbw.out
        have j3 := cell_keep j3 hbw.out
        have j4 := cell_keep j4 hbw.out
        have j5 := cell_keep j5 hbw.out
        have j6 := cell_keep j6 hbw.out
        have s0 := cell_keep s0 hbw.out
        have s1 := cell_keep s1 hbw.out
        have s2 := cell_keep s2 hbw.out
        have s3 := cell_keep s3 hbw.out
        have s4 := cell_keep s4 hbw.out
        by_cases hlt : k2 < x.cases.n
        · obtain ⟨cg, coff, c, ca, hc, ⟨q0, w0⟩, ⟨q1, w1'⟩, ⟨q2, _⟩⟩ := row_at (HROW.out.step CaseD.keeps BW.out) hlt
          have hki2 : (k2 : Int) < (x.cases.n : Int) := by omega
          have hst := first_drop (f := caseC d.p x.r k) hc
          have hv64 := bounds_u64 w0
          have hm64 := bounds_u64 w1'
          have hcr := case_ref (p := d.p) (r := x.r) (n := k) (c := c) (by omega) (by omega) (HW64.out (by omega))
          have hbo : ∀ o, Below wr.heap.size wr (wr.alloc o) := fun o => bl_alloc (Below.refl _ _)
          have HWI : Hid (∀ w', Calls Tryz.prog 96 #[.int .u64 c.mask, .int .i64 (d.p.width x.r [])] w' fun e w'' => e = .returned (.bool (decide (maskN (d.p.width x.r []) < c.mask))) ∧ w'' = w') := fun w' => wide_any c.mask _ w'
          have HLE : Hid (∀ w', Calls Tryz.prog 130 #[d.v, .int .i64 k, .int .i64 c.to] w' fun e w'' => e = .returned (.int .i64 (wayC d.p.ss.length k c.to)) ∧ Below w'.heap.size w' w'') := fun w' => by rw [ESS.out]; exact lead_any d k c.to w'
          unfold PlanD.v at HLE
          rw [ea] at HLE
          obtain rfl : xa = some ⟨cg, coff, none⟩ := by rw [← EXA.out]; exact ca
          clear ca
          have HBO := hid hbo
          have j0' : ∀ o, (wr.alloc o).cell? ⟨b0, 0, none⟩ = some (.slice d.heads.a d.heads.n d.heads.c) := fun o => cell_keep j0 (hbo o)
          have j1' : ∀ o, (wr.alloc o).cell? ⟨b0, 1, none⟩ = some (.slice d.mta.a d.mta.n d.mta.c) := fun o => cell_keep j1 (hbo o)
          have j2' : ∀ o, (wr.alloc o).cell? ⟨b0, 2, none⟩ = some (.slice (some ⟨g, off, none⟩) d.states.n d.states.c) := fun o => cell_keep j2 (hbo o)
          have j3' : ∀ o, (wr.alloc o).cell? ⟨b0, 3, none⟩ = some (.slice d.acts.a d.acts.n d.acts.c) := fun o => cell_keep j3 (hbo o)
          have j4' : ∀ o, (wr.alloc o).cell? ⟨b0, 4, none⟩ = some (.slice d.tabs.a d.tabs.n d.tabs.c) := fun o => cell_keep j4 (hbo o)
          have j5' : ∀ o, (wr.alloc o).cell? ⟨b0, 5, none⟩ = some (.slice d.nodes.a d.nodes.n d.nodes.c) := fun o => cell_keep j5 (hbo o)
          have j6' : ∀ o, (wr.alloc o).cell? ⟨b0, 6, none⟩ = some (.slice d.out.a d.out.n d.out.c) := fun o => cell_keep j6 (hbo o)
          have s0' : ∀ o, (wr.alloc o).cell? ⟨b1, 0, none⟩ = some (.int .i64 x.head) := fun o => cell_keep s0 (hbo o)
          have s1' : ∀ o, (wr.alloc o).cell? ⟨b1, 1, none⟩ = some (.int .i64 x.r.h) := fun o => cell_keep s1 (hbo o)
          have s2' : ∀ o, (wr.alloc o).cell? ⟨b1, 2, none⟩ = some (.int .i64 x.r.f) := fun o => cell_keep s2 (hbo o)
          have s3' : ∀ o, (wr.alloc o).cell? ⟨b1, 3, none⟩ = some (.slice (some ⟨cg, coff, none⟩) x.cases.n x.cases.c) := fun o => cell_keep s3 (hbo o)
          have s4' : ∀ o, (wr.alloc o).cell? ⟨b1, 4, none⟩ = some (.int .i64 x.els) := fun o => cell_keep s4 (hbo o)
          clear hc w0 w1' hbo
          generalize caseC d.p x.r k c = C at *
          generalize wayC d.p.ss.length k c.to = R at *
          generalize maskN (d.p.width x.r []) = M at *
          generalize hV : bits .and .u64 c.value c.mask = V at *
          clear hv64 hm64
          by_cases g1 : M < c.mask
          · have f1 := decide_eq_true g1
            have hC6 : C = 6 := by rw [hcr, if_pos (.inl g1)]
            have HG : Hid (stateC d.p k x.p = 6) := by show _ = _; rw [HRES.out, hgo.out, hst, if_pos (by rw [hC6]; decide), hC6]; rfl
            rw [f1] at HWI
            clear hst hgo hcr g1 hC6 HLE
            go_wp2_with fail
            refine (HWI.out _).mono ?_
            rintro e u1 ⟨rfl, rfl⟩
            have HE := hid (bl_step BW.out (HBO.out (.cells #[.int .u64 c.value, .int .u64 c.mask, .int .i64 c.to] 134)))
            clear HWI HBO BW
            go_wp2
            go_ret
            exact ⟨by rw [HG.out]; rfl, HE.out⟩
          have f1 := decide_eq_false g1
          rw [f1] at HWI
          by_cases g2 : V = c.value
          · have f2 : (V != c.value) = false := by simpa using g2
            have hCR : C = R := by rw [hcr, if_neg (fun h => h.elim g1 (fun h => h g2))]
            subst hCR
            by_cases gC : C = 0
            · have HG : Hid (firstC (x.cs.map (caseC d.p x.r k)) = firstC ((x.cs.drop (k2 + 1)).map (caseC d.p x.r k))) := by show _ = _; rw [hgo.out, hst, if_neg (by simpa using gC)]
              have fC : (C != 0) = false := by simpa using gC
              clear hst hgo hcr g1 g2
              go_wp2_with fail
              refine (HWI.out _).mono ?_
              rintro e u1 ⟨rfl, rfl⟩
              clear HWI
              go_wp2_with fail
              refine (HLE.out _).mono ?_
              rintro e u2 ⟨rfl, hb2⟩
              have HE := hid (bl_step (bl_step hbw.out (HBO.out _)) hb2)
              clear HLE hb2 HBO hbw BW
              go_wp2
              go_roundw
              case rel => exact ⟨k2 + 1, by omega, by go_num, HG, HE⟩
              case measure => simp [intOf]; omega
            · have HG : Hid (stateC d.p k x.p = C) := by show _ = _; rw [HRES.out, hgo.out, hst, if_pos gC]; unfold or2; rw [if_pos gC]
              have fC : (C != 0) = true := by simpa using gC
              clear hst hgo hcr g1 g2
              go_wp2_with fail
              refine (HWI.out _).mono ?_
              rintro e u1 ⟨rfl, rfl⟩
              clear HWI
              go_wp2_with fail
              refine (HLE.out _).mono ?_
              rintro e u2 ⟨rfl, hb2⟩
              have HE := hid (bl_step (bl_step BW.out (HBO.out _)) hb2)
              clear HLE hb2 HBO hbw BW
              go_wp2
              go_ret
              exact ⟨by rw [HG.out]; rfl, HE.out⟩
          · have f2 : (V != c.value) = true := by simpa using g2
            have hC6 : C = 6 := by rw [hcr, if_pos (.inr g2)]
            have HG : Hid (stateC d.p k x.p = 6) := by show _ = _; rw [HRES.out, hgo.out, hst, if_pos (by rw [hC6]; decide), hC6]; rfl
            clear hst hgo hcr g1 hC6 HLE
            go_wp2_with fail
            refine (HWI.out _).mono ?_
            rintro e u1 ⟨rfl, rfl⟩
            have HE := hid (bl_step BW.out (HBO.out (.cells #[.int .u64 c.value, .int .u64 c.mask, .int .i64 c.to] 134)))
            clear HWI HBO BW
            go_wp2
            go_ret
            exact ⟨by rw [HG.out]; rfl, HE.out⟩
        · have ek : k2 = x.cases.n := by omega
          have hki2 : ¬ (k2 : Int) < (x.cases.n : Int) := by omega
          have HG : Hid (stateC d.p k x.p = wayC d.p.ss.length k x.els) := by
            show _ = _
            have : firstC (x.cs.map (caseC d.p x.r k)) = 0 := by rw [hgo.out, ek, ← HCL.out, List.drop_length]; rfl
            rw [HRES.out, this]
            rfl
          clear hgo ek
          go_wp2_with fail
          refine (HEL.out _).mono ?_
          rintro e u2 ⟨rfl, hb2⟩
          have HE := hid (bl_step BW.out hb2)
          clear HEL hb2 hbw BW
          go_wp2
          go_ret
          exact ⟨by rw [HG.out]; rfl, HE.out⟩
  · have hn1 : x.head ≠ -1 ∧ ¬ (0 ≤ x.head ∧ x.head < (d.p.hs.length : Int)) := ⟨hA, by rw [EHS.out]; exact hH⟩
    rw [if_pos hn1] at HRES
    rw [decide_eq_false hH] at HI
    clear hn1 hA hH HWO HEL
    go_enter Tryz.func89, Tryz.ntmps89
    go_wp2_with fail
    rw [← EW.out, ← E1.out, ← E0.out]
    refine (HI.out _).mono ?_
    rintro e u0 ⟨rfl, hb0⟩
    have HE := hid (bl_step HB.out hb0)
    clear HI hb0 HB
    go_wp2
    go_ret
    exact ⟨by rw [HRES.out]; rfl, HE.out⟩
end Go.Proofs.YtkggocdannkdmaaGreat

namespace Go.Proofs.YtkggocdannkdmaaGreat
open Go.RowKit

set_option maxHeartbeats 8000000 in
set_option maxRecDepth 20000 in
theorem rsays_any (t : TabD) (aq : QSl) (al : List ActD) (dflt : Int) (a : Option Addr) (n c : Nat) (zs : List Int) (w : World) (ht : Has .i64 w t.acts.a t.acts.n t.al) (htn : t.acts.n ≤ 100000) (ha : QRow 2 ActD.lie w aq al) (hin : ∀ i ∈ t.al, 0 ≤ i ∧ i < (aq.n : Int)) (hpw : ∀ x ∈ al, ∀ y ∈ x.ws, 1 ≤ y ∧ y ≤ 64) (hpn : ∀ x ∈ al, x.w.n ≤ 100000) (hz : Has .u64 w a n zs) :
    Calls Tryz.prog 57 #[t.v', .slice aq.a aq.n aq.c, .agg #[.int .i64 dflt, .slice a n c]] w fun e w' => e = .returned (.int .i64 (saysC (al.map ActD.p) t.al dflt zs)) ∧ Below w.heap.size w w' := by
  obtain ⟨W2, hW⟩ : ∃ W2, W2 = ((w.alloc t.box').alloc (.cells #[.int .i64 dflt, .slice a n c] 49)) := ⟨_, rfl⟩
  obtain ⟨b0, h0⟩ : ∃ b0, b0 = w.heap.size := ⟨_, rfl⟩
  obtain ⟨b1, h1⟩ : ∃ b1, b1 = w.heap.size + 1 := ⟨_, rfl⟩
  have y0 : W2.cell? ⟨b1, 0, none⟩ = some (.int .i64 dflt) := by rw [hW, h1]; exact (World.cell?_alloc_at _ _ _ _ (by simp)).trans rfl
  have y1 : W2.cell? ⟨b1, 1, none⟩ = some (.slice a n c) := by rw [hW, h1]; exact (World.cell?_alloc_at _ _ _ _ (by simp)).trans rfl
  have HB : Hid (Below w.heap.size w W2) := by rw [hW]; exact bl_alloc (bl_alloc (Below.refl _ _))
  have HIN2 : Hid (Calls Tryz.prog 91 #[.slice t.acts.a t.acts.n t.acts.c, .int .i64 dflt] W2 fun e w'' => e = .returned (.bool (decide (dflt ∈ t.al))) ∧ w'' = W2) := in_any _ _ _ t.al dflt W2 htn (ht.step HB.out)
  have E3 := hid hW
  have E0 := hid h0
  have E1 := hid h1
  clear hW h0 h1
  by_cases hm : dflt ∈ t.al
  · obtain ⟨g0, g1⟩ := hin dflt hm
    obtain ⟨j, rfl⟩ : ∃ j : Nat, dflt = j := ⟨dflt.toNat, by omega⟩
    obtain ⟨ag, aoff, x, eaq, hx, ⟨c0, _⟩, _, hws, _⟩ := row_at (ha.step ActD.keeps HB.out) (show j < aq.n by omega)
    have hji : (j : Int) < (aq.n : Int) := by omega
    have hxm := List.mem_of_getElem? hx
    have HRES : Hid (saysC (al.map ActD.p) t.al j zs = hit2 zs x.ws) := by
      show saysC (al.map ActD.p) t.al j zs = _
      unfold saysC
      rw [if_pos hm, Int.toNat_natCast, List.getD_eq_getElem?_getD, List.getElem?_map, hx]
      rfl
    have HPW := hid (hpw x hxm)
    have hxn := hpn x hxm
    have HWS := hid hws
    have HZ := hid (hz.step HB.out)
    obtain ⟨qa, eqa⟩ : ∃ qa, aq.a = qa := ⟨_, rfl⟩
    rw [eqa]
    obtain rfl : qa = some ⟨ag, aoff, none⟩ := by rw [← eqa]; exact eaq
    obtain ⟨wa, ewa⟩ : ∃ wa, x.w.a = wa := ⟨_, rfl⟩
    rw [ewa] at c0
    have EWA := hid ewa
    rw [decide_eq_true hm] at HIN2
    clear ht ha hin hpw hpn hz hm g0 g1 hx hxm hws eaq eqa ewa
    go_enter Tryz.func57, Tryz.ntmps57
    go_wp2_with fail
    rw [← E3.out, ← E1.out, ← E0.out]
    refine HIN2.out.mono ?_
    rintro e w1 ⟨rfl, rfl⟩
    clear HIN2 E3 E1 E0
    by_cases hl : (x.w.n : Int) = (n : Int)
    · have b1' : ((x.w.n : Int) != (n : Int)) = false := by simpa using hl
      have HR2 : Hid (hit2 zs x.ws = if NarC zs x.ws then 0 else 6) := by
        show hit2 zs x.ws = _
        unfold hit2
        rw [if_neg (by have h1 := HZ.out.1; have h2 := HWS.out.1; omega)]
      have HNN : Hid (x.w.n = n) := by show x.w.n = n; omega
      have HBZ : Hid (Below w1.heap.size w1 w1) := Below.refl _ _
      clear hl
      go_wp2
      go_loopw [8] (fun q wr => ∃ k : Nat, k ≤ x.w.n ∧ q = .int .i64 k ∧ Hid (NarC zs x.ws = NarC (zs.drop k) (x.ws.drop k)) ∧ Hid (Below w1.heap.size w1 wr)) (fun q _ => x.w.n - (intOf q).toNat)
      case atStart => exact ⟨0, Nat.zero_le _, rfl, rfl, HBZ⟩
      case round =>
        obtain ⟨k, hk, rfl, hgo, hbw⟩ := hrel
        clear HBZ
        have BW := hid (bl_step HB.out hbw.out)
        have y1 := cell_keep y1 hbw.out
        by_cases hlt : k < x.w.n
        · obtain ⟨zg, zoff, z, ez, hzk, r0⟩ := num_at' (HZ.out.step hbw.out) (show k < n by have := HNN.out; omega)
          obtain ⟨pg, poff, y, ey, hyk, r1⟩ := int_at' (HWS.out.step hbw.out) hlt
          obtain rfl : wa = some ⟨pg, poff, none⟩ := by rw [← EWA.out]; exact ey
          have hki : (k : Int) < (x.w.n : Int) := by omega
          have hkn : (k : Int) < (n : Int) := by have := HNN.out; omega
          have hst := nar_drop hzk hyk
          have hz64 := HZ.out.nums z (List.mem_of_getElem? hzk)
          have hwl := wide_len hz64 (HPW.out y (List.mem_of_getElem? hyk))
          have HWI : Hid (∀ w', Calls Tryz.prog 96 #[.int .u64 z, .int .i64 y] w' fun e w'' => e = .returned (.bool (decide (maskN y < z))) ∧ w'' = w') := fun w' => wide_any z y w'
          rw [ez] at y1
          have y1' := cell_by y1
          have r0' := cell_by r0
          have r1' := cell_by r1
          clear hzk hyk ey hz64 ez
          generalize maskN y = M at *
          generalize blen z = L at *
          by_cases g1 : M < z
          · have HG : Hid (saysC (al.map ActD.p) t.al j zs = 6) := by
              show _ = _
              rw [HRES.out, HR2.out, hgo.out, hst, decide_eq_false (by have := hwl.1 g1; omega)]
              rfl
            rw [decide_eq_true g1] at HWI
            clear hst hgo hwl g1
            go_wp2_with fail
            haveI inhB : ∀ w : World, Inhabited (BelowBy w) := fun w => ⟨⟨w, Below.refl _ _⟩⟩
            refine wp_region_quiet_below (by kernel_rfl) (by kernel_rfl) ?_
            repeat (go_big_quiet_step (first | (go_at_call 96; exact calls_same _ (HWI.out _))))
            refine wpQuiet_nil ?_
            intro wq hw'
            obtain ⟨⟨_, hwq⟩, hw''⟩ := hw'
            subst hw''
            have HE := hid (bl_step BW.out hwq)
            clear hwq HWI hbw BW
            go_wp2
            go_ret
            exact ⟨by rw [HG.out]; rfl, HE.out⟩
          · have HG : Hid (NarC zs x.ws = NarC (zs.drop (k + 1)) (x.ws.drop (k + 1))) := by
              show _ = _
              rw [hgo.out, hst, decide_eq_true (by apply Classical.byContradiction; intro h; exact g1 (hwl.2 (by omega)))]
              rfl
            rw [decide_eq_false g1] at HWI
            clear hst hgo hwl g1
            go_wp2_with fail
            haveI inhB : ∀ w : World, Inhabited (BelowBy w) := fun w => ⟨⟨w, Below.refl _ _⟩⟩
            refine wp_region_quiet_below (by kernel_rfl) (by kernel_rfl) ?_
            repeat (go_big_quiet_step (first | (go_at_call 96; exact calls_same _ (HWI.out _))))
            refine wpQuiet_nil ?_
            intro wq hw'
            obtain ⟨⟨_, hwq⟩, hw''⟩ := hw'
            subst hw''
            have HE := hid (bl_step hbw.out hwq)
            clear hwq HWI hbw BW r0 r1 r0' r1' y1'
            go_wp2
            go_roundw
            case rel => exact ⟨k + 1, by omega, by go_num, HG, HE⟩
            case measure => simp [intOf]; omega
        · have ek : k = x.w.n := by omega
          have hki : ¬ (k : Int) < (x.w.n : Int) := by omega
          have HG : Hid (saysC (al.map ActD.p) t.al j zs = 0) := by
            show _ = _
            have : NarC zs x.ws = true := by
              rw [hgo.out, ek, ← HWS.out.1, List.drop_length]
              cases zs.drop x.ws.length <;> rfl
            rw [HRES.out, HR2.out, this]
            rfl
          clear hgo ek
          go_wp2
          go_ret
          exact ⟨by rw [HG.out]; rfl, BW.out⟩
    · have b1' : ((x.w.n : Int) != (n : Int)) = true := by simpa using hl
      have HG : Hid (saysC (al.map ActD.p) t.al j zs = 2) := by
        show _ = _
        rw [HRES.out]
        unfold hit2
        rw [if_pos (by have h1 := HZ.out.1; have h2 := HWS.out.1; omega)]
      clear hl
      go_wp2
      go_ret
      exact ⟨by rw [HG.out]; rfl, HB.out⟩
  · have HRES : Hid (saysC (al.map ActD.p) t.al dflt zs = 5) := by show saysC _ _ _ _ = 5; unfold saysC; rw [if_neg hm]
    rw [decide_eq_false hm] at HIN2
    clear ht ha hin hpw hpn hz hm
    go_enter Tryz.func57, Tryz.ntmps57
    go_wp2_with fail
    rw [← E3.out, ← E1.out, ← E0.out]
    refine HIN2.out.mono ?_
    rintro e w1 ⟨rfl, rfl⟩
    clear HIN2
    go_wp2
    go_ret
    exact ⟨by rw [HRES.out]; rfl, HB.out⟩
end Go.Proofs.YtkggocdannkdmaaGreat

namespace Go.Proofs.YtkggocdannkdmaaGreat
open Go.RowKit

theorem most_le (k : Int) : mostK k ≤ 3 := by unfold mostK; split <;> omega

theorem inc_one (lo hi x : Int) : InC lo hi [x] = false ↔ ¬ (lo ≤ x ∧ x ≤ hi) := by simp [InC]

theorem inc_drop {lo hi : Int} {L : List Int} {k : Nat} {x : Int} (h : L[k]? = some x) : InC lo hi (L.drop k) = (decide (lo ≤ x ∧ x ≤ hi) && InC lo hi (L.drop (k + 1))) := by
  obtain ⟨hk, e⟩ := List.getElem?_eq_some_iff.1 h
  rw [List.drop_eq_getElem_cons hk, e]
  rfl

theorem store_plain (t : PTab) (wl : List Int) (al : List PAct) : storeC t wl al = if ¬ (1 ≤ t.kind ∧ t.kind ≤ 3) then 5 else if ¬ (1 ≤ (wl.length : Int) ∧ (wl.length : Int) ≤ mostK t.kind) ∨ ¬ (1 ≤ (t.al.length : Int) ∧ (t.al.length : Int) ≤ 4) then 2 else if ¬ (0 ≤ t.cap ∧ t.cap ≤ 16) then 1 else if InC 1 48 wl = false then 6 else if InC 0 ((al.length : Int) - 1) t.al = false then 1 else saysC al t.al t.dflt t.zs := by
  have hk : isK t.kind = false ↔ ¬ (1 ≤ t.kind ∧ t.kind ≤ 3) := by unfold isK; rw [decide_eq_false_iff_not]; omega
  unfold storeC
  simp only [hk, inc_one]

set_option maxHeartbeats 32000000 in
set_option maxRecDepth 20000 in
theorem rtab_any (t : TabD) (wq : QSl) (wl : List Int) (aq : QSl) (al : List ActD) (w : World) (hw : Has .i64 w wq.a wq.n wl) (ht : Has .i64 w t.acts.a t.acts.n t.al) (hz : Has .u64 w t.args.a t.args.n t.zs) (ha : QRow 2 ActD.lie w aq al) (hpw : ∀ x ∈ al, ∀ y ∈ x.ws, 1 ≤ y ∧ y ≤ 64) (hpn : ∀ x ∈ al, x.w.n ≤ 100000) (htn : t.acts.n ≤ 100000) :
    Calls Tryz.prog 92 #[t.v', .slice wq.a wq.n wq.c, .slice aq.a aq.n aq.c] w fun e w' => e = .returned (.int .i64 (storeC t.p wl (al.map ActD.p))) ∧ Below w.heap.size w w' := by
  have HRES : Hid (storeC t.p wl (al.map ActD.p) = if ¬ (1 ≤ t.kind ∧ t.kind ≤ 3) then 5 else if ¬ (1 ≤ (wq.n : Int) ∧ (wq.n : Int) ≤ mostK t.kind) ∨ ¬ (1 ≤ (t.acts.n : Int) ∧ (t.acts.n : Int) ≤ 4) then 2 else if ¬ (0 ≤ t.cap ∧ t.cap ≤ 16) then 1 else if InC 1 48 wl = false then 6 else if InC 0 ((aq.n : Int) - 1) t.al = false then 1 else saysC (al.map ActD.p) t.al t.dflt t.zs) := by
    show storeC t.p wl (al.map ActD.p) = _
    rw [store_plain, hw.1, List.length_map, ha.1, show t.p.al.length = t.acts.n from ht.1]
    rfl
  have HSA : Hid (InC 0 ((aq.n : Int) - 1) t.al = true → ∀ w', Below w.heap.size w w' → Calls Tryz.prog 57 #[t.v', .slice aq.a aq.n aq.c, .agg #[.int .i64 t.dflt, .slice t.args.a t.args.n t.args.c]] w' fun e w'' => e = .returned (.int .i64 (saysC (al.map ActD.p) t.al t.dflt t.zs)) ∧ Below w'.heap.size w' w'') := fun hin w' h =>
    rsays_any t aq al t.dflt t.args.a t.args.n t.args.c t.zs w' (ht.step h) htn (ha.step ActD.keeps h) (fun i hi => by
      have := List.all_eq_true.1 hin i hi
      have := of_decide_eq_true this
      omega) hpw hpn (hz.step h)
  have HW := hid hw
  have HT := hid ht
  have HWL := hid hw.1
  have HTL := hid ht.1
  obtain ⟨wa, ewa⟩ : ∃ wa, wq.a = wa := ⟨_, rfl⟩
  rw [ewa]
  have EWA := hid ewa
  clear hw ht hz ha hpw hpn htn ewa
  by_cases kA : t.kind < 1
  · have dkA := decide_eq_true kA
    have HG : Hid (storeC t.p wl (al.map ActD.p) = 5) := by show _ = _; rw [HRES.out]; exact if_pos (by omega)
    clear HSA
    go_enter Tryz.func92, Tryz.ntmps92
    go_wp2
    go_ret
    exact ⟨by rw [HG.out]; rfl, bl_alloc (Below.refl _ _)⟩
  have dkA := decide_eq_false kA
  by_cases kB : 3 < t.kind
  · have dkB := decide_eq_true kB
    have HG : Hid (storeC t.p wl (al.map ActD.p) = 5) := by show _ = _; rw [HRES.out]; exact if_pos (by omega)
    clear HSA
    go_enter Tryz.func92, Tryz.ntmps92
    go_wp2
    go_ret
    exact ⟨by rw [HG.out]; rfl, bl_alloc (Below.refl _ _)⟩
  have dkB := decide_eq_false kB
  have KK : Hid (¬ ¬ (1 ≤ t.kind ∧ t.kind ≤ 3)) := by show ¬ ¬ (1 ≤ t.kind ∧ t.kind ≤ 3); omega
  by_cases nA : (wq.n : Int) < 1
  · have dnA := decide_eq_true nA
    have HG : Hid (storeC t.p wl (al.map ActD.p) = 2) := by show _ = _; rw [HRES.out]; rw [if_neg KK.out]; exact if_pos (.inl (by omega))
    clear HSA
    go_enter Tryz.func92, Tryz.ntmps92
    go_wp2
    go_ret
    exact ⟨by rw [HG.out]; rfl, bl_alloc (Below.refl _ _)⟩
  have dnA := decide_eq_false nA
  by_cases nB : (3 : Int) < (wq.n : Int)
  · have dnB := decide_eq_true nB
    have HG : Hid (storeC t.p wl (al.map ActD.p) = 2) := by show _ = _; rw [HRES.out]; rw [if_neg KK.out]; exact if_pos (.inl (by have := most_le t.kind; omega))
    clear HSA
    go_enter Tryz.func92, Tryz.ntmps92
    go_wp2
    go_ret
    exact ⟨by rw [HG.out]; rfl, bl_alloc (Below.refl _ _)⟩
  have dnB := decide_eq_false nB
  by_cases k2 : t.kind = 2
  · have e2 : (t.kind == 2) = true := by simpa using k2
    have MK : Hid (mostK t.kind = 1) := if_pos k2
    clear k2
    by_cases nC : (1 : Int) < (wq.n : Int)
    · have dnC := decide_eq_true nC
      have HG : Hid (storeC t.p wl (al.map ActD.p) = 2) := by show _ = _; rw [HRES.out]; rw [if_neg KK.out]; exact if_pos (.inl (by rw [MK.out]; omega))
      clear HSA
      go_enter Tryz.func92, Tryz.ntmps92
      go_wp2
      go_ret
      exact ⟨by rw [HG.out]; rfl, bl_alloc (Below.refl _ _)⟩
    have dnC := decide_eq_false nC
    by_cases aA : (t.acts.n : Int) < 1
    · have daA := decide_eq_true aA
      have HG : Hid (storeC t.p wl (al.map ActD.p) = 2) := by show _ = _; rw [HRES.out]; rw [if_neg KK.out]; exact if_pos (.inr (by omega))
      clear HSA
      go_enter Tryz.func92, Tryz.ntmps92
      go_wp2
      go_ret
      exact ⟨by rw [HG.out]; rfl, bl_alloc (Below.refl _ _)⟩
    have daA := decide_eq_false aA
    by_cases aB : (4 : Int) < (t.acts.n : Int)
    · have daB := decide_eq_true aB
      have HG : Hid (storeC t.p wl (al.map ActD.p) = 2) := by show _ = _; rw [HRES.out]; rw [if_neg KK.out]; exact if_pos (.inr (by omega))
      clear HSA
      go_enter Tryz.func92, Tryz.ntmps92
      go_wp2
      go_ret
      exact ⟨by rw [HG.out]; rfl, bl_alloc (Below.refl _ _)⟩
    have daB := decide_eq_false aB
    have NN : Hid (¬ (¬ (1 ≤ (wq.n : Int) ∧ (wq.n : Int) ≤ mostK t.kind) ∨ ¬ (1 ≤ (t.acts.n : Int) ∧ (t.acts.n : Int) ≤ 4))) := by show ¬ (¬ (1 ≤ (wq.n : Int) ∧ (wq.n : Int) ≤ mostK t.kind) ∨ ¬ (1 ≤ (t.acts.n : Int) ∧ (t.acts.n : Int) ≤ 4)); rw [MK.out]; omega
    by_cases cA : t.cap < 0
    · have dcA := decide_eq_true cA
      have HG : Hid (storeC t.p wl (al.map ActD.p) = 1) := by show _ = _; rw [HRES.out]; rw [if_neg KK.out, if_neg NN.out]; exact if_pos (by omega)
      clear HSA
      go_enter Tryz.func92, Tryz.ntmps92
      go_wp2
      go_ret
      exact ⟨by rw [HG.out]; rfl, bl_alloc (Below.refl _ _)⟩
    have dcA := decide_eq_false cA
    by_cases cB : 16 < t.cap
    · have dcB := decide_eq_true cB
      have HG : Hid (storeC t.p wl (al.map ActD.p) = 1) := by show _ = _; rw [HRES.out]; rw [if_neg KK.out, if_neg NN.out]; exact if_pos (by omega)
      clear HSA
      go_enter Tryz.func92, Tryz.ntmps92
      go_wp2
      go_ret
      exact ⟨by rw [HG.out]; rfl, bl_alloc (Below.refl _ _)⟩
    have dcB := decide_eq_false cB
    rw [if_neg KK.out, if_neg NN.out, if_neg (by omega)] at HRES
    clear KK NN
    have HB0 : Hid (Below w.heap.size w (w.alloc t.box')) := bl_alloc (Below.refl _ _)
    obtain ⟨W1, hW⟩ : ∃ W1, W1 = w.alloc t.box' := ⟨_, rfl⟩
    obtain ⟨b0, h0⟩ : ∃ b0, b0 = w.heap.size := ⟨_, rfl⟩
    have z : ∀ i, W1.cell? ⟨b0, i, none⟩ = (#[.int .i64 t.kind, .slice t.keys.a t.keys.n t.keys.c, .slice t.acts.a t.acts.n t.acts.c, .int .i64 t.cap, .int .i64 t.dflt, .slice t.args.a t.args.n t.args.c] : Array Value)[i]? := fun i => by rw [hW, h0]; exact World.cell?_alloc_at _ _ _ _ rfl
    have z0 : W1.cell? ⟨b0, 0, none⟩ = some (.int .i64 t.kind) := z 0
    have z1 : W1.cell? ⟨b0, 1, none⟩ = some (.slice t.keys.a t.keys.n t.keys.c) := z 1
    have z2 : W1.cell? ⟨b0, 2, none⟩ = some (.slice t.acts.a t.acts.n t.acts.c) := z 2
    have z3 : W1.cell? ⟨b0, 3, none⟩ = some (.int .i64 t.cap) := z 3
    have z4 : W1.cell? ⟨b0, 4, none⟩ = some (.int .i64 t.dflt) := z 4
    have z5 : W1.cell? ⟨b0, 5, none⟩ = some (.slice t.args.a t.args.n t.args.c) := z 5
    have HB : Hid (Below w.heap.size w W1) := by rw [hW]; exact bl_alloc (Below.refl _ _)
    have EW := hid hW
    have E0 := hid h0
    clear hW h0 z HB0
    go_enter Tryz.func92, Tryz.ntmps92
    go_wp2
    rw [← EW.out, ← E0.out]
    clear EW E0
    go_loopw [7] (fun q wr => ∃ k : Nat, k ≤ wq.n ∧ q = .int .i64 k ∧ Hid (InC 1 48 wl = InC 1 48 (wl.drop k)) ∧ Hid (W1 = wr)) (fun q _ => wq.n - (intOf q).toNat)
    case atStart => exact ⟨0, Nat.zero_le _, rfl, rfl, rfl⟩
    case round =>
      obtain ⟨k, hk, rfl, hgo, hWr⟩ := hrel
      obtain rfl := hWr.out
      clear hWr
      by_cases hlt : k < wq.n
      · obtain ⟨g, off, u, eu, hu, r0⟩ := int_at' (HW.out.step HB.out) hlt
        obtain rfl : wa = some ⟨g, off, none⟩ := by rw [← EWA.out]; exact eu
        have hki : (k : Int) < (wq.n : Int) := by omega
        have hst := inc_drop (lo := 1) (hi := 48) hu
        clear eu hu
        by_cases g1 : u < 1
        · have f1 := decide_eq_true g1
          have HG : Hid (storeC t.p wl (al.map ActD.p) = 6) := by show _ = _; rw [HRES.out]; exact if_pos (by rw [hgo.out, hst, decide_eq_false (by omega)]; rfl)
          clear hst hgo g1
          go_wp2
          go_ret
          exact ⟨by rw [HG.out]; rfl, HB.out⟩
        have f1 := decide_eq_false g1
        by_cases g2 : 48 < u
        · have f2 := decide_eq_true g2
          have HG : Hid (storeC t.p wl (al.map ActD.p) = 6) := by show _ = _; rw [HRES.out]; exact if_pos (by rw [hgo.out, hst, decide_eq_false (by omega)]; rfl)
          clear hst hgo g1 g2
          go_wp2
          go_ret
          exact ⟨by rw [HG.out]; rfl, HB.out⟩
        · have f2 := decide_eq_false g2
          have HG : Hid (InC 1 48 wl = InC 1 48 (wl.drop (k + 1))) := by show _ = _; rw [hgo.out, hst, decide_eq_true (by omega)]; rfl
          clear hst hgo g1 g2
          go_wp2
          go_roundw
          case rel => exact ⟨k + 1, by omega, by go_num, HG, trivial⟩
          case measure => simp [intOf]; omega
      · have ek : k = wq.n := by omega
        have hki : ¬ (k : Int) < (wq.n : Int) := by omega
        have hall : InC 1 48 wl = true := by rw [hgo.out, ek, ← HWL.out, List.drop_length]; rfl
        have HR2 : Hid (storeC t.p wl (al.map ActD.p) = if InC 0 ((aq.n : Int) - 1) t.al = false then 1 else saysC (al.map ActD.p) t.al t.dflt t.zs) := by show _ = _; rw [HRES.out, if_neg (by rw [hall]; decide)]
        clear hgo ek hall HRES
        go_wp2
        go_loopw [8] (fun q wr => ∃ j : Nat, j ≤ t.acts.n ∧ q = .int .i64 j ∧ Hid (InC 0 ((aq.n : Int) - 1) t.al = InC 0 ((aq.n : Int) - 1) (t.al.drop j)) ∧ Hid (W1 = wr)) (fun q _ => t.acts.n - (intOf q).toNat)
        case atStart => exact ⟨0, Nat.zero_le _, rfl, rfl, rfl⟩
        case round =>
          obtain ⟨j, hj, rfl, hgo, hWr⟩ := hrel
          obtain rfl := hWr.out
          clear hWr
          by_cases hlj : j < t.acts.n
          · obtain ⟨g, off, u, eu, hu, r0⟩ := int_at' (HT.out.step HB.out) hlj
            have hji : (j : Int) < (t.acts.n : Int) := by omega
            have hst := inc_drop (lo := 0) (hi := (aq.n : Int) - 1) hu
            clear hu
            by_cases g1 : u < 0
            · have f1 := decide_eq_true g1
              have HG : Hid (storeC t.p wl (al.map ActD.p) = 1) := by show _ = _; rw [HR2.out]; exact if_pos (by rw [hgo.out, hst, decide_eq_false (by omega)]; rfl)
              clear hst hgo g1
              go_wp2
              go_ret
              exact ⟨by rw [HG.out]; rfl, HB.out⟩
            have f1 := decide_eq_false g1
            by_cases g2 : (aq.n : Int) ≤ u
            · have f2 := decide_eq_true g2
              have HG : Hid (storeC t.p wl (al.map ActD.p) = 1) := by show _ = _; rw [HR2.out]; exact if_pos (by rw [hgo.out, hst, decide_eq_false (by omega)]; rfl)
              clear hst hgo g1 g2
              go_wp2
              go_ret
              exact ⟨by rw [HG.out]; rfl, HB.out⟩
            · have f2 := decide_eq_false g2
              have HG : Hid (InC 0 ((aq.n : Int) - 1) t.al = InC 0 ((aq.n : Int) - 1) (t.al.drop (j + 1))) := by show _ = _; rw [hgo.out, hst, decide_eq_true (by omega)]; rfl
              clear hst hgo g1 g2
              go_wp2
              go_roundw
              case rel => exact ⟨j + 1, by omega, by go_num, HG, trivial⟩
              case measure => simp [intOf]; omega
          · have ej : j = t.acts.n := by omega
            have hji : ¬ (j : Int) < (t.acts.n : Int) := by omega
            have hall : InC 0 ((aq.n : Int) - 1) t.al = true := by rw [hgo.out, ej, ← HTL.out, List.drop_length]; rfl
            have HG : Hid (storeC t.p wl (al.map ActD.p) = saysC (al.map ActD.p) t.al t.dflt t.zs) := by show _ = _; rw [HR2.out, if_neg (by rw [hall]; decide)]
            have HS2 := hid (HSA.out hall W1 HB.out)
            clear hgo ej hall HSA HR2
            go_wp2_with fail
            refine HS2.out.mono ?_
            rintro e w2 ⟨rfl, hb2⟩
            have HE := hid (bl_step HB.out hb2)
            clear HS2 hb2 HB
            go_wp2
            go_ret
            exact ⟨by rw [HG.out]; rfl, HE.out⟩
  · have e2 : (t.kind == 2) = false := by simpa using k2
    have MK : Hid (mostK t.kind = 3) := if_neg k2
    clear k2
    by_cases aA : (t.acts.n : Int) < 1
    · have daA := decide_eq_true aA
      have HG : Hid (storeC t.p wl (al.map ActD.p) = 2) := by show _ = _; rw [HRES.out]; rw [if_neg KK.out]; exact if_pos (.inr (by omega))
      clear HSA
      go_enter Tryz.func92, Tryz.ntmps92
      go_wp2
      go_ret
      exact ⟨by rw [HG.out]; rfl, bl_alloc (Below.refl _ _)⟩
    have daA := decide_eq_false aA
    by_cases aB : (4 : Int) < (t.acts.n : Int)
    · have daB := decide_eq_true aB
      have HG : Hid (storeC t.p wl (al.map ActD.p) = 2) := by show _ = _; rw [HRES.out]; rw [if_neg KK.out]; exact if_pos (.inr (by omega))
      clear HSA
      go_enter Tryz.func92, Tryz.ntmps92
      go_wp2
      go_ret
      exact ⟨by rw [HG.out]; rfl, bl_alloc (Below.refl _ _)⟩
    have daB := decide_eq_false aB
    have NN : Hid (¬ (¬ (1 ≤ (wq.n : Int) ∧ (wq.n : Int) ≤ mostK t.kind) ∨ ¬ (1 ≤ (t.acts.n : Int) ∧ (t.acts.n : Int) ≤ 4))) := by show ¬ (¬ (1 ≤ (wq.n : Int) ∧ (wq.n : Int) ≤ mostK t.kind) ∨ ¬ (1 ≤ (t.acts.n : Int) ∧ (t.acts.n : Int) ≤ 4)); rw [MK.out]; omega
    by_cases cA : t.cap < 0
    · have dcA := decide_eq_true cA
      have HG : Hid (storeC t.p wl (al.map ActD.p) = 1) := by show _ = _; rw [HRES.out]; rw [if_neg KK.out, if_neg NN.out]; exact if_pos (by omega)
      clear HSA
      go_enter Tryz.func92, Tryz.ntmps92
      go_wp2
      go_ret
      exact ⟨by rw [HG.out]; rfl, bl_alloc (Below.refl _ _)⟩
    have dcA := decide_eq_false cA
    by_cases cB : 16 < t.cap
    · have dcB := decide_eq_true cB
      have HG : Hid (storeC t.p wl (al.map ActD.p) = 1) := by show _ = _; rw [HRES.out]; rw [if_neg KK.out, if_neg NN.out]; exact if_pos (by omega)
      clear HSA
      go_enter Tryz.func92, Tryz.ntmps92
      go_wp2
      go_ret
      exact ⟨by rw [HG.out]; rfl, bl_alloc (Below.refl _ _)⟩
    have dcB := decide_eq_false cB
    rw [if_neg KK.out, if_neg NN.out, if_neg (by omega)] at HRES
    clear KK NN
    have HB0 : Hid (Below w.heap.size w (w.alloc t.box')) := bl_alloc (Below.refl _ _)
    obtain ⟨W1, hW⟩ : ∃ W1, W1 = w.alloc t.box' := ⟨_, rfl⟩
    obtain ⟨b0, h0⟩ : ∃ b0, b0 = w.heap.size := ⟨_, rfl⟩
    have z : ∀ i, W1.cell? ⟨b0, i, none⟩ = (#[.int .i64 t.kind, .slice t.keys.a t.keys.n t.keys.c, .slice t.acts.a t.acts.n t.acts.c, .int .i64 t.cap, .int .i64 t.dflt, .slice t.args.a t.args.n t.args.c] : Array Value)[i]? := fun i => by rw [hW, h0]; exact World.cell?_alloc_at _ _ _ _ rfl
    have z0 : W1.cell? ⟨b0, 0, none⟩ = some (.int .i64 t.kind) := z 0
    have z1 : W1.cell? ⟨b0, 1, none⟩ = some (.slice t.keys.a t.keys.n t.keys.c) := z 1
    have z2 : W1.cell? ⟨b0, 2, none⟩ = some (.slice t.acts.a t.acts.n t.acts.c) := z 2
    have z3 : W1.cell? ⟨b0, 3, none⟩ = some (.int .i64 t.cap) := z 3
    have z4 : W1.cell? ⟨b0, 4, none⟩ = some (.int .i64 t.dflt) := z 4
    have z5 : W1.cell? ⟨b0, 5, none⟩ = some (.slice t.args.a t.args.n t.args.c) := z 5
    have HB : Hid (Below w.heap.size w W1) := by rw [hW]; exact bl_alloc (Below.refl _ _)
    have EW := hid hW
    have E0 := hid h0
    clear hW h0 z HB0
    go_enter Tryz.func92, Tryz.ntmps92
    go_wp2
    rw [← EW.out, ← E0.out]
    clear EW E0
    go_loopw [7] (fun q wr => ∃ k : Nat, k ≤ wq.n ∧ q = .int .i64 k ∧ Hid (InC 1 48 wl = InC 1 48 (wl.drop k)) ∧ Hid (W1 = wr)) (fun q _ => wq.n - (intOf q).toNat)
    case atStart => exact ⟨0, Nat.zero_le _, rfl, rfl, rfl⟩
    case round =>
      obtain ⟨k, hk, rfl, hgo, hWr⟩ := hrel
      obtain rfl := hWr.out
      clear hWr
      by_cases hlt : k < wq.n
      · obtain ⟨g, off, u, eu, hu, r0⟩ := int_at' (HW.out.step HB.out) hlt
        obtain rfl : wa = some ⟨g, off, none⟩ := by rw [← EWA.out]; exact eu
        have hki : (k : Int) < (wq.n : Int) := by omega
        have hst := inc_drop (lo := 1) (hi := 48) hu
        clear eu hu
        by_cases g1 : u < 1
        · have f1 := decide_eq_true g1
          have HG : Hid (storeC t.p wl (al.map ActD.p) = 6) := by show _ = _; rw [HRES.out]; exact if_pos (by rw [hgo.out, hst, decide_eq_false (by omega)]; rfl)
          clear hst hgo g1
          go_wp2
          go_ret
          exact ⟨by rw [HG.out]; rfl, HB.out⟩
        have f1 := decide_eq_false g1
        by_cases g2 : 48 < u
        · have f2 := decide_eq_true g2
          have HG : Hid (storeC t.p wl (al.map ActD.p) = 6) := by show _ = _; rw [HRES.out]; exact if_pos (by rw [hgo.out, hst, decide_eq_false (by omega)]; rfl)
          clear hst hgo g1 g2
          go_wp2
          go_ret
          exact ⟨by rw [HG.out]; rfl, HB.out⟩
        · have f2 := decide_eq_false g2
          have HG : Hid (InC 1 48 wl = InC 1 48 (wl.drop (k + 1))) := by show _ = _; rw [hgo.out, hst, decide_eq_true (by omega)]; rfl
          clear hst hgo g1 g2
          go_wp2
          go_roundw
          case rel => exact ⟨k + 1, by omega, by go_num, HG, trivial⟩
          case measure => simp [intOf]; omega
      · have ek : k = wq.n := by omega
        have hki : ¬ (k : Int) < (wq.n : Int) := by omega
        have hall : InC 1 48 wl = true := by rw [hgo.out, ek, ← HWL.out, List.drop_length]; rfl
        have HR2 : Hid (storeC t.p wl (al.map ActD.p) = if InC 0 ((aq.n : Int) - 1) t.al = false then 1 else saysC (al.map ActD.p) t.al t.dflt t.zs) := by show _ = _; rw [HRES.out, if_neg (by rw [hall]; decide)]
        clear hgo ek hall HRES
        go_wp2
        go_loopw [8] (fun q wr => ∃ j : Nat, j ≤ t.acts.n ∧ q = .int .i64 j ∧ Hid (InC 0 ((aq.n : Int) - 1) t.al = InC 0 ((aq.n : Int) - 1) (t.al.drop j)) ∧ Hid (W1 = wr)) (fun q _ => t.acts.n - (intOf q).toNat)
        case atStart => exact ⟨0, Nat.zero_le _, rfl, rfl, rfl⟩
        case round =>
          obtain ⟨j, hj, rfl, hgo, hWr⟩ := hrel
          obtain rfl := hWr.out
          clear hWr
          by_cases hlj : j < t.acts.n
          · obtain ⟨g, off, u, eu, hu, r0⟩ := int_at' (HT.out.step HB.out) hlj
            have hji : (j : Int) < (t.acts.n : Int) := by omega
            have hst := inc_drop (lo := 0) (hi := (aq.n : Int) - 1) hu
            clear hu
            by_cases g1 : u < 0
            · have f1 := decide_eq_true g1
              have HG : Hid (storeC t.p wl (al.map ActD.p) = 1) := by show _ = _; rw [HR2.out]; exact if_pos (by rw [hgo.out, hst, decide_eq_false (by omega)]; rfl)
              clear hst hgo g1
              go_wp2
              go_ret
              exact ⟨by rw [HG.out]; rfl, HB.out⟩
            have f1 := decide_eq_false g1
            by_cases g2 : (aq.n : Int) ≤ u
            · have f2 := decide_eq_true g2
              have HG : Hid (storeC t.p wl (al.map ActD.p) = 1) := by show _ = _; rw [HR2.out]; exact if_pos (by rw [hgo.out, hst, decide_eq_false (by omega)]; rfl)
              clear hst hgo g1 g2
              go_wp2
              go_ret
              exact ⟨by rw [HG.out]; rfl, HB.out⟩
            · have f2 := decide_eq_false g2
              have HG : Hid (InC 0 ((aq.n : Int) - 1) t.al = InC 0 ((aq.n : Int) - 1) (t.al.drop (j + 1))) := by show _ = _; rw [hgo.out, hst, decide_eq_true (by omega)]; rfl
              clear hst hgo g1 g2
              go_wp2
              go_roundw
              case rel => exact ⟨j + 1, by omega, by go_num, HG, trivial⟩
              case measure => simp [intOf]; omega
          · have ej : j = t.acts.n := by omega
            have hji : ¬ (j : Int) < (t.acts.n : Int) := by omega
            have hall : InC 0 ((aq.n : Int) - 1) t.al = true := by rw [hgo.out, ej, ← HTL.out, List.drop_length]; rfl
            have HG : Hid (storeC t.p wl (al.map ActD.p) = saysC (al.map ActD.p) t.al t.dflt t.zs) := by show _ = _; rw [HR2.out, if_neg (by rw [hall]; decide)]
            have HS2 := hid (HSA.out hall W1 HB.out)
            clear hgo ej hall HSA HR2
            go_wp2_with fail
            refine HS2.out.mono ?_
            rintro e w2 ⟨rfl, hb2⟩
            have HE := hid (bl_step HB.out hb2)
            clear HS2 hb2 HB
            go_wp2
            go_ret
            exact ⟨by rw [HG.out]; rfl, HE.out⟩
end Go.Proofs.YtkggocdannkdmaaGreat
