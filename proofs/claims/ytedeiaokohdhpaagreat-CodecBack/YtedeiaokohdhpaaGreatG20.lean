/- Texts of one chain, joined: QJ2, QTree, QDeed. -/
import Derived.Test.YtedeiaokohdhpaaGreatG17
import Derived.Test.YtedeiaokohdhpaaGreatG19
import Derived.Test.YtedeiaokohdhpaaGreatG16
import Derived.Deep.RegionHeld3
namespace Go.Proofs.YtedeiaokohdhpaaGreat
open Go.RowKit
set_option maxHeartbeats 1000000 in
set_option maxRecDepth 20000 in
theorem isOfT_any (a : Option Addr) (n c : Nat) (k : Int) (w : World) : Calls Tryz.prog 160 #[.slice a n c, .int .i64 k] w fun e w' => e = .returned (.bool (decide (0 ≤ k ∧ k < (n : Int)))) ∧ w' = w := by
  by_cases h0 : 0 ≤ k
  · have d0 := decide_eq_true h0
    by_cases h1 : k < (n : Int)
    · have d1 := decide_eq_true h1
      have hr := hid (decide_eq_true (⟨h0, h1⟩ : 0 ≤ k ∧ k < (n : Int)))
      go_enter Tryz.func160, Tryz.ntmps160
      go_wp2
      go_ret
      exact ⟨by first | rfl | (rw [hr.out]; rfl), rfl⟩
    · have d1 := decide_eq_false h1
      have hr := hid (decide_eq_false (fun h => h1 h.2 : ¬ (0 ≤ k ∧ k < (n : Int))))
      go_enter Tryz.func160, Tryz.ntmps160
      go_wp2
      go_ret
      exact ⟨by first | rfl | (rw [hr.out]; rfl), rfl⟩
  · have d0 := decide_eq_false h0
    have hr := hid (decide_eq_false (fun h => h0 h.1 : ¬ (0 ≤ k ∧ k < (n : Int))))
    go_enter Tryz.func160, Tryz.ntmps160
    go_wp2
    go_ret
    exact ⟨by first | rfl | (rw [hr.out]; rfl), rfl⟩
set_option maxHeartbeats 1000000 in
set_option maxRecDepth 20000 in
theorem isOfA_any (a : Option Addr) (n c : Nat) (k : Int) (w : World) : Calls Tryz.prog 161 #[.slice a n c, .int .i64 k] w fun e w' => e = .returned (.bool (decide (0 ≤ k ∧ k < (n : Int)))) ∧ w' = w := by
  by_cases h0 : 0 ≤ k
  · have d0 := decide_eq_true h0
    by_cases h1 : k < (n : Int)
    · have d1 := decide_eq_true h1
      have hr := hid (decide_eq_true (⟨h0, h1⟩ : 0 ≤ k ∧ k < (n : Int)))
      go_enter Tryz.func161, Tryz.ntmps161
      go_wp2
      go_ret
      exact ⟨by first | rfl | (rw [hr.out]; rfl), rfl⟩
    · have d1 := decide_eq_false h1
      have hr := hid (decide_eq_false (fun h => h1 h.2 : ¬ (0 ≤ k ∧ k < (n : Int))))
      go_enter Tryz.func161, Tryz.ntmps161
      go_wp2
      go_ret
      exact ⟨by first | rfl | (rw [hr.out]; rfl), rfl⟩
  · have d0 := decide_eq_false h0
    have hr := hid (decide_eq_false (fun h => h0 h.1 : ¬ (0 ≤ k ∧ k < (n : Int))))
    go_enter Tryz.func161, Tryz.ntmps161
    go_wp2
    go_ret
    exact ⟨by first | rfl | (rw [hr.out]; rfl), rfl⟩
set_option maxHeartbeats 1000000 in
set_option maxRecDepth 20000 in
theorem numH_any (a : Option Addr) (n c : Nat) (k : Int) (w : World) : Calls Tryz.prog 135 #[.slice a n c, .int .i64 k] w fun e w' => e = .returned (.int .i64 (numC n k)) ∧ w' = w := by
  have HC : Hid (∀ w', Calls Tryz.prog 87 #[.slice a n c, .int .i64 k] w' fun e w'' => e = .returned (.bool (decide (0 ≤ k ∧ k < (n : Int)))) ∧ w'' = w') := fun w' => isOfH_any a n c k w'
  by_cases h : 0 ≤ k ∧ k < (n : Int)
  · have hr : Hid (numC n k = 0) := by simp only [Hid, numC, if_pos h]
    rw [decide_eq_true h] at HC
    clear h
    go_enter Tryz.func135, Tryz.ntmps135
    go_wp2_with fail
    refine (HC.out _).mono ?_
    rintro e w1 ⟨rfl, rfl⟩
    clear HC
    go_wp2
    go_ret
    exact ⟨by rw [hr.out]; rfl, rfl⟩
  · have hr : Hid (numC n k = 1) := by simp only [Hid, numC, if_neg h]
    rw [decide_eq_false h] at HC
    clear h
    go_enter Tryz.func135, Tryz.ntmps135
    go_wp2_with fail
    refine (HC.out _).mono ?_
    rintro e w1 ⟨rfl, rfl⟩
    clear HC
    go_wp2
    go_ret
    exact ⟨by rw [hr.out]; rfl, rfl⟩
set_option maxHeartbeats 1000000 in
set_option maxRecDepth 20000 in
theorem numT_any (a : Option Addr) (n c : Nat) (k : Int) (w : World) : Calls Tryz.prog 142 #[.slice a n c, .int .i64 k] w fun e w' => e = .returned (.int .i64 (numC n k)) ∧ w' = w := by
  have HC : Hid (∀ w', Calls Tryz.prog 160 #[.slice a n c, .int .i64 k] w' fun e w'' => e = .returned (.bool (decide (0 ≤ k ∧ k < (n : Int)))) ∧ w'' = w') := fun w' => isOfT_any a n c k w'
  by_cases h : 0 ≤ k ∧ k < (n : Int)
  · have hr : Hid (numC n k = 0) := by simp only [Hid, numC, if_pos h]
    rw [decide_eq_true h] at HC
    clear h
    go_enter Tryz.func142, Tryz.ntmps142
    go_wp2_with fail
    refine (HC.out _).mono ?_
    rintro e w1 ⟨rfl, rfl⟩
    clear HC
    go_wp2
    go_ret
    exact ⟨by rw [hr.out]; rfl, rfl⟩
  · have hr : Hid (numC n k = 1) := by simp only [Hid, numC, if_neg h]
    rw [decide_eq_false h] at HC
    clear h
    go_enter Tryz.func142, Tryz.ntmps142
    go_wp2_with fail
    refine (HC.out _).mono ?_
    rintro e w1 ⟨rfl, rfl⟩
    clear HC
    go_wp2
    go_ret
    exact ⟨by rw [hr.out]; rfl, rfl⟩
set_option maxHeartbeats 1000000 in
set_option maxRecDepth 20000 in
theorem wid_any (x : Int) (w : World) : Calls Tryz.prog 86 #[.int .i64 x] w fun e w' => e = .returned (.int .i64 (widC x)) ∧ w' = w := by
  by_cases h : x < 1
  · have hr : Hid (widC x = 6) := by simp only [Hid, widC, if_pos (show x < 1 ∨ 48 < x from .inl h)]
    have d1 := decide_eq_true h
    go_enter Tryz.func86, Tryz.ntmps86
    go_wp2
    go_ret
    exact ⟨by rw [hr.out]; rfl, rfl⟩
  have d1 := decide_eq_false h
  by_cases h2 : 48 < x
  · have hr : Hid (widC x = 6) := by simp only [Hid, widC, if_pos (show x < 1 ∨ 48 < x from .inr h2)]
    have d2 := decide_eq_true h2
    go_enter Tryz.func86, Tryz.ntmps86
    go_wp2
    go_ret
    exact ⟨by rw [hr.out]; rfl, rfl⟩
  · have hr : Hid (widC x = 0) := by simp only [Hid, widC, if_neg (show ¬ (x < 1 ∨ 48 < x) by omega)]
    have d2 := decide_eq_false h2
    go_enter Tryz.func86, Tryz.ntmps86
    go_wp2
    go_ret
    exact ⟨by rw [hr.out]; rfl, rfl⟩
set_option maxHeartbeats 1000000 in
set_option maxRecDepth 20000 in
theorem field_any (d : PlanD) (r : RefD) (aa : Option Addr) (an ac : Nat) (zs : List Int) (w : World) (hl : d.lie w) (hz : Has .i64 w aa an zs) :
    Calls Tryz.prog 88 #[d.v, .agg #[.int .i64 r.h, .int .i64 r.f], .slice aa an ac] w fun e w' => e = .returned (.bool (d.p.width r zs != 0)) ∧ Below w.heap.size w w' := by
  have bw2 : ∀ o o', Below w.heap.size w ((w.alloc o).alloc o') := fun o o' => bl_alloc (bl_alloc (Below.refl _ _))
  have HC : Hid (∀ o o', Calls Tryz.prog 130 #[d.v, .agg #[.int .i64 r.h, .int .i64 r.f], .slice aa an ac] ((w.alloc o).alloc o') fun e w' => e = .returned (.int .i64 (d.p.width r zs)) ∧ Below ((w.alloc o).alloc o').heap.size ((w.alloc o).alloc o') w') := fun o o' => by
    rw [← width_p hl]
    exact width_any d r.h r.f aa an ac zs _ (hl.step (bw2 o o')) (hz.step (bw2 o o'))
  have HB := hid bw2
  clear hl hz bw2
  go_enter Tryz.func88, Tryz.ntmps88
  go_wp2_with fail
  refine (HC.out _ _).mono ?_
  rintro e w1 ⟨rfl, hb⟩
  have HE := hid (bl_step (HB.out _ _) hb)
  clear HC HB hb
  go_wp2
  go_ret
  exact ⟨rfl, HE.out⟩
set_option maxHeartbeats 1000000 in
set_option maxRecDepth 20000 in
theorem target_any (d : PlanD) (r : RefD) (w : World) (hl : d.lie w) :
    Calls Tryz.prog 133 #[d.v, .agg #[.int .i64 r.h, .int .i64 r.f]] w fun e w' => e = .returned (.int .i64 (targetC d.p r)) ∧ Below w.heap.size w w' := by
  have bw2 : ∀ o o', Below w.heap.size w ((w.alloc o).alloc o') := fun o o' => bl_alloc (bl_alloc (Below.refl _ _))
  have HC : Hid (∀ o o', Calls Tryz.prog 88 #[d.v, .agg #[.int .i64 r.h, .int .i64 r.f], .slice none 0 0] ((w.alloc o).alloc o') fun e w' => e = .returned (.bool (d.p.width r [] != 0)) ∧ Below ((w.alloc o).alloc o').heap.size ((w.alloc o).alloc o') w') := fun o o' => field_any d r none 0 0 [] _ (hl.step (bw2 o o')) (has_nil _ _)
  clear hl
  by_cases h3 : r.h = -3
  · have hr : Hid (targetC d.p r = 1) := by simp only [Hid, targetC, if_pos (show r.h = -3 ∨ d.p.width r [] = 0 from .inl h3)]
    have b3 : (r.h == -3) = true := by simpa using h3
    clear HC h3
    go_enter Tryz.func133, Tryz.ntmps133
    go_wp2
    go_ret
    exact ⟨by rw [hr.out]; rfl, bw2 _ _⟩
  have b3 : (r.h == -3) = false := by simpa using h3
  by_cases h0 : d.p.width r [] = 0
  · have hr : Hid (targetC d.p r = 1) := by simp only [Hid, targetC, if_pos (show r.h = -3 ∨ d.p.width r [] = 0 from .inr h0)]
    rw [h0] at HC
    have HB := hid bw2
    clear h0 h3 bw2
    go_enter Tryz.func133, Tryz.ntmps133
    go_wp2_with fail
    refine (HC.out _ _).mono ?_
    rintro e w1 ⟨rfl, hb⟩
    have HE := hid (bl_step (HB.out _ _) hb)
    clear HC HB hb
    go_wp2
    go_ret
    exact ⟨by rw [hr.out]; rfl, HE.out⟩
  · have hr : Hid (targetC d.p r = 0) := by simp only [Hid, targetC, if_neg (show ¬ (r.h = -3 ∨ d.p.width r [] = 0) from fun h => h.elim h3 h0)]
    have hx : (d.p.width r [] != 0) = true := by simpa using h0
    rw [hx] at HC
    have HB := hid bw2
    clear h0 h3 bw2 hx
    go_enter Tryz.func133, Tryz.ntmps133
    go_wp2_with fail
    refine (HC.out _ _).mono ?_
    rintro e w1 ⟨rfl, hb⟩
    have HE := hid (bl_step (HB.out _ _) hb)
    clear HC HB hb
    go_wp2
    go_ret
    exact ⟨by rw [hr.out]; rfl, HE.out⟩
end Go.Proofs.YtedeiaokohdhpaaGreat

namespace Go.Proofs.YtedeiaokohdhpaaGreat
open Go.RowKit
theorem takes_range (op : Int) : -1 ≤ takesC op ∧ takesC op ≤ 2 := by
  unfold takesC
  split
  · omega
  split
  · omega
  split <;> omega
theorem tree_drop {p : PPlan} {zs : List Int} {es : List PushD} {k : Nat} {x : PushD} (h : es[k]? = some x) (left : Int) :
    treeGo p zs (es.drop k) left = (if takesC x.op < 0 ∨ left < takesC x.op then 13 else if x.op = 2 ∧ p.width x.r zs = 0 then 1 else treeGo p zs (es.drop (k + 1)) (left + (1 - takesC x.op))) := by
  obtain ⟨hk, e⟩ := List.getElem?_eq_some_iff.1 h
  rw [List.drop_eq_getElem_cons hk, e]
  rfl
def TreeDone (p : PPlan) (es : List PushD) (zs : List Int) (w : World) (e : Ending) (w' : World) : Prop := e = .returned (.int .i64 (treeC p es zs)) ∧ Below w.heap.size w w'
abbrev JO (d : PlanD) : Obj := .cells #[.slice d.heads.a d.heads.n d.heads.c, .slice d.mta.a d.mta.n d.mta.c, .slice d.states.a d.states.n d.states.c, .slice d.acts.a d.acts.n d.acts.c, .slice d.tabs.a d.tabs.n d.tabs.c, .slice d.nodes.a d.nodes.n d.nodes.c, .slice d.out.a d.out.n d.out.c] 102
theorem jbox_cells {d : PlanD} {w wr : World} (hb : Below (w.heap.size + 1) (w.alloc (JO d)) wr) (i : Nat) : wr.cell? ⟨w.heap.size, i, none⟩ = (#[.slice d.heads.a d.heads.n d.heads.c, .slice d.mta.a d.mta.n d.mta.c, .slice d.states.a d.states.n d.states.c, .slice d.acts.a d.acts.n d.acts.c, .slice d.tabs.a d.tabs.n d.tabs.c, .slice d.nodes.a d.nodes.n d.nodes.c, .slice d.out.a d.out.n d.out.c] : Array Value)[i]? :=
  (hb.cell (p := ⟨w.heap.size, i, none⟩) (by simp)).trans (World.cell?_alloc_at _ _ _ _ rfl)
set_option maxHeartbeats 4000000 in
set_option maxRecDepth 20000 in
theorem tree_any (d : PlanD) (e : QSl) (es : List PushD) (aa : Option Addr) (an ac : Nat) (zs : List Int) (w : World) (hl : d.lie w) (he : QRow 4 PushD.lie w e es) (hz : Has .i64 w aa an zs) :
    Calls Tryz.prog 134 #[d.v, .slice e.a e.n e.c, .slice aa an ac] w (TreeDone d.p es zs w) := by
  have hlen := he.1
  by_cases h8 : (8 : Int) < (e.n : Int)
  · have HE : Hid (∀ w', Below w.heap.size w w' → TreeDone d.p es zs w (.returned (.int .i64 2)) w') := fun w' hb => ⟨by rw [treeC, if_pos (by omega)], hb⟩
    have d8 := decide_eq_true h8
    clear hl he hz hlen
    go_enter Tryz.func134, Tryz.ntmps134
    go_wp2
    go_ret
    exact HE.out _ (bl_alloc (Below.refl _ _))
  have d8 := decide_eq_false h8
  have HX : Hid (treeC d.p es zs = treeGo d.p zs es 0) := by show treeC d.p es zs = _; rw [treeC, if_neg (by omega)]
  have HD : Hid (∀ w' R, treeGo d.p zs es 0 = R → Below w.heap.size w w' → TreeDone d.p es zs w (.returned (.int .i64 R)) w') := fun w' R h hb => ⟨by rw [HX.out, h], hb⟩
  obtain ⟨ea, ee⟩ : ∃ ea, e.a = ea := ⟨_, rfl⟩
  have HL := hid hl
  have HE := hid he
  have HZ := hid hz
  have HN := hid hlen
  have HB0 : Hid (Below (w.heap.size + 1) (w.alloc (JO d)) (w.alloc (JO d))) := Below.refl _ _
  rw [ee]
  have EE := hid ee
  clear hl he hz hlen HX ee
  go_enter Tryz.func134, Tryz.ntmps134
  go_wp2
  go_loopw [16, 7, 9, 10] (fun q l _ _ wr => ∃ k : Nat, ∃ left : Int, k ≤ e.n ∧ q = .int .i64 k ∧ l = .int .i64 left ∧ 0 ≤ left ∧ left ≤ k ∧ Hid (treeGo d.p zs es 0 = treeGo d.p zs (es.drop k) left) ∧ Hid (Below (w.heap.size + 1) (w.alloc (JO d)) wr)) (fun q _ _ _ _ => e.n - (intOf q).toNat)
  case atStart => exact ⟨0, 0, Nat.zero_le _, rfl, rfl, Int.le_refl _, by simp, rfl, HB0⟩
  case round =>
    obtain ⟨k, left, hk, rfl, rfl, hl0, hl1, hgo, hb⟩ := hrel
    clear HB0
    have B0 : Hid (Below w.heap.size w wr) := (bl_alloc (Below.refl w.heap.size w)).trans (hb.out.mono (by omega))
    by_cases hlt : k < e.n
    · obtain ⟨g, off, x, ea', hx, ⟨r0, _⟩, ⟨r1, _⟩, ⟨r2, _⟩, ⟨r3, _⟩⟩ := row_at (HE.out.step PushD.keeps B0.out) hlt
      obtain rfl : ea = some ⟨g, off, none⟩ := by rw [← EE.out]; exact ea'
      have hki : (k : Int) < (e.n : Int) := by omega
      have hst := tree_drop (p := d.p) (zs := zs) hx left
      have hcs := jbox_cells hb.out
      have bo : ∀ o, Below wr.heap.size wr (wr.alloc o) := fun o => bl_alloc (Below.refl _ _)
      have p0 : ∀ o, (wr.alloc o).cell? ⟨w.heap.size, 0, none⟩ = some (.slice d.heads.a d.heads.n d.heads.c) := fun o => cell_keep (hcs 0) (bo o)
      have p1 : ∀ o, (wr.alloc o).cell? ⟨w.heap.size, 1, none⟩ = some (.slice d.mta.a d.mta.n d.mta.c) := fun o => cell_keep (hcs 1) (bo o)
      have p2 : ∀ o, (wr.alloc o).cell? ⟨w.heap.size, 2, none⟩ = some (.slice d.states.a d.states.n d.states.c) := fun o => cell_keep (hcs 2) (bo o)
      have p3 : ∀ o, (wr.alloc o).cell? ⟨w.heap.size, 3, none⟩ = some (.slice d.acts.a d.acts.n d.acts.c) := fun o => cell_keep (hcs 3) (bo o)
      have p4 : ∀ o, (wr.alloc o).cell? ⟨w.heap.size, 4, none⟩ = some (.slice d.tabs.a d.tabs.n d.tabs.c) := fun o => cell_keep (hcs 4) (bo o)
      have p5 : ∀ o, (wr.alloc o).cell? ⟨w.heap.size, 5, none⟩ = some (.slice d.nodes.a d.nodes.n d.nodes.c) := fun o => cell_keep (hcs 5) (bo o)
      have p6 : ∀ o, (wr.alloc o).cell? ⟨w.heap.size, 6, none⟩ = some (.slice d.out.a d.out.n d.out.c) := fun o => cell_keep (hcs 6) (bo o)
      have HTK : Hid (∀ w', Calls Tryz.prog 156 #[.int .i64 x.op] w' fun q w'' => q = .returned (.int .i64 (takesC x.op)) ∧ w'' = w') := fun w' => takes_any x.op w'
      have HFI : Hid (∀ o, Calls Tryz.prog 88 #[d.v, .agg #[.int .i64 x.r.h, .int .i64 x.r.f], .slice aa an ac] (wr.alloc o) fun q w' => q = .returned (.bool (d.p.width x.r zs != 0)) ∧ Below (wr.alloc o).heap.size (wr.alloc o) w') := fun o => field_any d x.r aa an ac zs _ ((HL.out.step B0.out).step (bo o)) ((HZ.out.step B0.out).step (bo o))
      have HBO : Hid (∀ o, Below (w.heap.size + 1) (w.alloc (JO d)) (wr.alloc o)) := fun o => hb.out.trans ((bo o).mono (by have := hb.out.size; simpa using this))
      have HBN : Hid (∀ w1, Below wr.heap.size wr w1 → Below (w.heap.size + 1) (w.alloc (JO d)) w1) := fun w1 h => hb.out.trans (h.mono (by have := hb.out.size; simpa using this))
      have BO := hid bo
      have hT := takes_range x.op
      clear hcs bo ea'
      generalize takesC x.op = T at *
      by_cases hT0 : T < 0
      · have f0 := decide_eq_true hT0
        have HF : Hid (treeGo d.p zs es 0 = 13) := by show treeGo d.p zs es 0 = 13; rw [hgo.out, hst, if_pos (.inl hT0)]
        clear hst HFI HBN HBO hgo
        go_wp2_with fail
        refine (HTK.out _).mono ?_
        rintro q w1 ⟨rfl, rfl⟩
        clear HTK
        go_wp2
        go_ret
        exact HD.out _ _ HF.out (bl_step B0.out (BO.out _))
      have f0 := decide_eq_false hT0
      by_cases hT1 : left < T
      · have f1 := decide_eq_true hT1
        have HF : Hid (treeGo d.p zs es 0 = 13) := by show treeGo d.p zs es 0 = 13; rw [hgo.out, hst, if_pos (.inr hT1)]
        clear hst HFI HBN HBO hgo
        go_wp2_with fail
        refine (HTK.out _).mono ?_
        rintro q w1 ⟨rfl, rfl⟩
        clear HTK
        go_wp2
        go_ret
        exact HD.out _ _ HF.out (bl_step B0.out (BO.out _))
      have f1 := decide_eq_false hT1
      rw [if_neg (show ¬ (T < 0 ∨ left < T) by omega)] at hst
      by_cases h2 : x.op = 2
      · have b2 : (x.op == 2) = true := by simpa using h2
        by_cases hw0 : d.p.width x.r zs = 0
        · have HF : Hid (treeGo d.p zs es 0 = 1) := by show treeGo d.p zs es 0 = 1; rw [hgo.out, hst, if_pos ⟨h2, hw0⟩]
          rw [hw0] at HFI
          clear hst HBN HBO hgo h2 hw0
          go_wp2_with fail
          refine (HTK.out _).mono ?_
          rintro q w1 ⟨rfl, rfl⟩
          clear HTK
          go_wp2_with fail
          refine (HFI.out _).mono ?_
          rintro q w1 ⟨rfl, hb1⟩
          have HE1 := hid (bl_step (bl_step B0.out (BO.out _)) hb1)
          clear HFI hb1
          go_wp2
          go_ret
          exact HD.out _ _ HF.out HE1.out
        · have HG : Hid (treeGo d.p zs es 0 = treeGo d.p zs (es.drop (k + 1)) (left + (1 - T))) := by show treeGo d.p zs es 0 = _; rw [hgo.out, hst, if_neg (fun h => hw0 h.2)]
          have bw0 : (d.p.width x.r zs != 0) = true := by simpa using hw0
          rw [bw0] at HFI
          clear hst HBO hgo h2 hw0 bw0
          go_wp2_with fail
          refine (HTK.out _).mono ?_
          rintro q w1 ⟨rfl, rfl⟩
          clear HTK
          go_wp2_with fail
          refine (HFI.out _).mono ?_
          rintro q w1 ⟨rfl, hb1⟩
          have HE1 := hid (HBN.out _ (bl_step (BO.out _) hb1))
          clear HFI hb1 HBN p0 p1 p2 p3 p4 p5 p6 r0 r1 r2 r3
          go_wp2
          go_roundw
          case rel => exact ⟨k + 1, left + (1 - T), by omega, by go_num, by go_num, by omega, by omega, HG, HE1⟩
          case measure => simp [intOf]; omega
      · have b2 : (x.op == 2) = false := by simpa using h2
        have HG : Hid (treeGo d.p zs es 0 = treeGo d.p zs (es.drop (k + 1)) (left + (1 - T))) := by show treeGo d.p zs es 0 = _; rw [hgo.out, hst, if_neg (fun h => h2 h.1)]
        clear hst HFI HBN hgo h2
        go_wp2_with fail
        refine (HTK.out _).mono ?_
        rintro q w1 ⟨rfl, rfl⟩
        clear HTK
        go_wp2
        go_roundw
        case rel => exact ⟨k + 1, left + (1 - T), by omega, by go_num, by go_num, by omega, by omega, HG, HBO.out _⟩
        case measure => simp [intOf]; omega
    · have ek : k = e.n := by omega
      have HF : Hid (treeGo d.p zs es 0 = if left ≠ 1 then 13 else 0) := by
        show treeGo d.p zs es 0 = _
        rw [hgo.out, ek, ← HN.out, List.drop_length]
        rfl
      clear hgo hb
      by_cases h1 : left = 1
      · subst h1
        subst ek
        rw [if_neg (by simp)] at HF
        go_wp2
        go_ret
        exact HD.out _ _ HF.out B0.out
      · rw [if_pos h1] at HF
        have b1 : (left != 1) = true := by simpa using h1
        subst ek
        go_wp2
        go_ret
        exact HD.out _ _ HF.out B0.out
end Go.Proofs.YtedeiaokohdhpaaGreat

namespace Go.Proofs.YtedeiaokohdhpaaGreat
open Go.RowKit
@[reducible] def DV (d : PlanD) (a : ActD) : Value := .agg #[.slice d.heads.a d.heads.n d.heads.c, .slice d.mta.a d.mta.n d.mta.c, .slice d.states.a d.states.n d.states.c, .slice d.acts.a d.acts.n d.acts.c, .slice d.tabs.a d.tabs.n d.tabs.c, .slice d.nodes.a d.nodes.n d.nodes.c, .slice d.out.a d.out.n d.out.c, .slice a.w.a a.w.n a.w.c, .slice a.ops.a a.ops.n a.ops.c]
@[reducible] def OpD.v (o : OpD) : Value := .agg #[.int .i64 o.kind, .int .i64 o.r.h, .int .i64 o.r.f, .int .i64 o.head, .slice o.e.a o.e.n o.e.c]
theorem keep14 {w w' : World} {b0 b1 : Nat} {v0 v1 v2 v3 v4 v5 v6 v7 v8 v9 v10 v11 v12 v13 : Value} (h : w.cell? ⟨b0, 0, none⟩ = some v0 ∧ w.cell? ⟨b0, 1, none⟩ = some v1 ∧ w.cell? ⟨b0, 2, none⟩ = some v2 ∧ w.cell? ⟨b0, 3, none⟩ = some v3 ∧ w.cell? ⟨b0, 4, none⟩ = some v4 ∧ w.cell? ⟨b0, 5, none⟩ = some v5 ∧ w.cell? ⟨b0, 6, none⟩ = some v6 ∧ w.cell? ⟨b0, 7, none⟩ = some v7 ∧ w.cell? ⟨b0, 8, none⟩ = some v8 ∧ w.cell? ⟨b1, 0, none⟩ = some v9 ∧ w.cell? ⟨b1, 1, none⟩ = some v10 ∧ w.cell? ⟨b1, 2, none⟩ = some v11 ∧ w.cell? ⟨b1, 3, none⟩ = some v12 ∧ w.cell? ⟨b1, 4, none⟩ = some v13) (b : Below w.heap.size w w') : w'.cell? ⟨b0, 0, none⟩ = some v0 ∧ w'.cell? ⟨b0, 1, none⟩ = some v1 ∧ w'.cell? ⟨b0, 2, none⟩ = some v2 ∧ w'.cell? ⟨b0, 3, none⟩ = some v3 ∧ w'.cell? ⟨b0, 4, none⟩ = some v4 ∧ w'.cell? ⟨b0, 5, none⟩ = some v5 ∧ w'.cell? ⟨b0, 6, none⟩ = some v6 ∧ w'.cell? ⟨b0, 7, none⟩ = some v7 ∧ w'.cell? ⟨b0, 8, none⟩ = some v8 ∧ w'.cell? ⟨b1, 0, none⟩ = some v9 ∧ w'.cell? ⟨b1, 1, none⟩ = some v10 ∧ w'.cell? ⟨b1, 2, none⟩ = some v11 ∧ w'.cell? ⟨b1, 3, none⟩ = some v12 ∧ w'.cell? ⟨b1, 4, none⟩ = some v13 :=
  ⟨cell_keep (h.1) b, cell_keep (h.2.1) b, cell_keep (h.2.2.1) b, cell_keep (h.2.2.2.1) b, cell_keep (h.2.2.2.2.1) b, cell_keep (h.2.2.2.2.2.1) b, cell_keep (h.2.2.2.2.2.2.1) b, cell_keep (h.2.2.2.2.2.2.2.1) b, cell_keep (h.2.2.2.2.2.2.2.2.1) b, cell_keep (h.2.2.2.2.2.2.2.2.2.1) b, cell_keep (h.2.2.2.2.2.2.2.2.2.2.1) b, cell_keep (h.2.2.2.2.2.2.2.2.2.2.2.1) b, cell_keep (h.2.2.2.2.2.2.2.2.2.2.2.2.1) b, cell_keep (h.2.2.2.2.2.2.2.2.2.2.2.2.2) b⟩
set_option maxHeartbeats 16000000 in
set_option maxRecDepth 20000 in
theorem deed_any (d : PlanD) (a : ActD) (o : OpD) (w : World) (hl : d.lie w) (ha : Has .i64 w a.w.a a.w.n a.ws) (he : QRow 4 PushD.lie w o.e o.es) :
    Calls Tryz.prog 95 #[DV d a, o.v] w fun e w' => e = .returned (.int .i64 (deedC d.p a.ws o.p)) ∧ Below w.heap.size w w' := by
  obtain ⟨W2, hW⟩ : ∃ W2, W2 = ((w.alloc (.cells #[.slice d.heads.a d.heads.n d.heads.c, .slice d.mta.a d.mta.n d.mta.c, .slice d.states.a d.states.n d.states.c, .slice d.acts.a d.acts.n d.acts.c, .slice d.tabs.a d.tabs.n d.tabs.c, .slice d.nodes.a d.nodes.n d.nodes.c, .slice d.out.a d.out.n d.out.c, .slice a.w.a a.w.n a.w.c, .slice a.ops.a a.ops.n a.ops.c] 156)).alloc (.cells #[.int .i64 o.kind, .int .i64 o.r.h, .int .i64 o.r.f, .int .i64 o.head, .slice o.e.a o.e.n o.e.c] 59)) := ⟨_, rfl⟩
  obtain ⟨b0, h0⟩ : ∃ b0, b0 = w.heap.size := ⟨_, rfl⟩
  obtain ⟨b1, h1⟩ : ∃ b1, b1 = w.heap.size + 1 := ⟨_, rfl⟩
  have z0 : W2.cell? ⟨b0, 0, none⟩ = some (.slice d.heads.a d.heads.n d.heads.c) := by rw [hW, h0]; exact (World.cell?_alloc_past _ _ _ (by simp)).trans ((World.cell?_alloc_at _ _ _ _ rfl).trans rfl)
  have z1 : W2.cell? ⟨b0, 1, none⟩ = some (.slice d.mta.a d.mta.n d.mta.c) := by rw [hW, h0]; exact (World.cell?_alloc_past _ _ _ (by simp)).trans ((World.cell?_alloc_at _ _ _ _ rfl).trans rfl)
  have z2 : W2.cell? ⟨b0, 2, none⟩ = some (.slice d.states.a d.states.n d.states.c) := by rw [hW, h0]; exact (World.cell?_alloc_past _ _ _ (by simp)).trans ((World.cell?_alloc_at _ _ _ _ rfl).trans rfl)
  have z3 : W2.cell? ⟨b0, 3, none⟩ = some (.slice d.acts.a d.acts.n d.acts.c) := by rw [hW, h0]; exact (World.cell?_alloc_past _ _ _ (by simp)).trans ((World.cell?_alloc_at _ _ _ _ rfl).trans rfl)
  have z4 : W2.cell? ⟨b0, 4, none⟩ = some (.slice d.tabs.a d.tabs.n d.tabs.c) := by rw [hW, h0]; exact (World.cell?_alloc_past _ _ _ (by simp)).trans ((World.cell?_alloc_at _ _ _ _ rfl).trans rfl)
  have z5 : W2.cell? ⟨b0, 5, none⟩ = some (.slice d.nodes.a d.nodes.n d.nodes.c) := by rw [hW, h0]; exact (World.cell?_alloc_past _ _ _ (by simp)).trans ((World.cell?_alloc_at _ _ _ _ rfl).trans rfl)
  have z6 : W2.cell? ⟨b0, 6, none⟩ = some (.slice d.out.a d.out.n d.out.c) := by rw [hW, h0]; exact (World.cell?_alloc_past _ _ _ (by simp)).trans ((World.cell?_alloc_at _ _ _ _ rfl).trans rfl)
  have z7 : W2.cell? ⟨b0, 7, none⟩ = some (.slice a.w.a a.w.n a.w.c) := by rw [hW, h0]; exact (World.cell?_alloc_past _ _ _ (by simp)).trans ((World.cell?_alloc_at _ _ _ _ rfl).trans rfl)
  have z8 : W2.cell? ⟨b0, 8, none⟩ = some (.slice a.ops.a a.ops.n a.ops.c) := by rw [hW, h0]; exact (World.cell?_alloc_past _ _ _ (by simp)).trans ((World.cell?_alloc_at _ _ _ _ rfl).trans rfl)
  have y0 : W2.cell? ⟨b1, 0, none⟩ = some (.int .i64 o.kind) := by rw [hW, h1]; exact (World.cell?_alloc_at _ _ _ _ (by simp)).trans rfl
  have y1 : W2.cell? ⟨b1, 1, none⟩ = some (.int .i64 o.r.h) := by rw [hW, h1]; exact (World.cell?_alloc_at _ _ _ _ (by simp)).trans rfl
  have y2 : W2.cell? ⟨b1, 2, none⟩ = some (.int .i64 o.r.f) := by rw [hW, h1]; exact (World.cell?_alloc_at _ _ _ _ (by simp)).trans rfl
  have y3 : W2.cell? ⟨b1, 3, none⟩ = some (.int .i64 o.head) := by rw [hW, h1]; exact (World.cell?_alloc_at _ _ _ _ (by simp)).trans rfl
  have y4 : W2.cell? ⟨b1, 4, none⟩ = some (.slice o.e.a o.e.n o.e.c) := by rw [hW, h1]; exact (World.cell?_alloc_at _ _ _ _ (by simp)).trans rfl
  have HB : Hid (Below w.heap.size w W2) := by rw [hW]; exact bl_alloc (bl_alloc (Below.refl _ _))
  have E3 := hid hW
  have E0 := hid h0
  have E1 := hid h1
  clear hW h0 h1
  have HTA : Hid (∀ w', Below w.heap.size w w' → Calls Tryz.prog 133 #[d.v, .agg #[.int .i64 o.r.h, .int .i64 o.r.f]] w' fun e w'' => e = .returned (.int .i64 (targetC d.p o.r)) ∧ Below w'.heap.size w' w'') := fun w' h => target_any d o.r w' (hl.step h)
  have HTR : Hid (∀ w', Below w.heap.size w w' → Calls Tryz.prog 134 #[d.v, .slice o.e.a o.e.n o.e.c, .slice a.w.a a.w.n a.w.c] w' fun e w'' => e = .returned (.int .i64 (treeC d.p o.es a.ws)) ∧ Below w'.heap.size w' w'') := fun w' h => tree_any d o.e o.es a.w.a a.w.n a.w.c a.ws w' (hl.step h) (he.step PushD.keeps h) (ha.step h)
  have ehs : d.p.hs.length = d.heads.n := by simp [PlanD.p, hl.hs.1]
  have HNU : Hid (∀ w', Calls Tryz.prog 135 #[.slice d.heads.a d.heads.n d.heads.c, .int .i64 o.head] w' fun e w'' => e = .returned (.int .i64 (numC d.p.hs.length o.head)) ∧ w'' = w') := fun w' => by
    rw [ehs]
    exact numH_any _ _ _ _ w'
  have HOR : Hid (∀ (w' : World) (x y : Int), Calls Tryz.prog 89 #[.slice (some ⟨w'.heap.size, 0, none⟩) 2 2] (w'.alloc (.cells #[.int .i64 x, .int .i64 y] 3)) fun e w'' => e = .returned (.int .i64 (or2 x y)) ∧ w'' = w'.alloc (.cells #[.int .i64 x, .int .i64 y] 3)) := fun w' x y => qor2_any (b := w'.heap.size) (x := x) (y := y) (or2 x y) rfl (by simp) (by simp)
  clear hl ha he ehs
  generalize hTA : targetC d.p o.r = TA at *
  generalize hTR : treeC d.p o.es a.ws = TR at *
  generalize hNU : numC d.p.hs.length o.head = NU at *
  have HTAE := hid hTA
  have HTRE := hid hTR
  have HNUE := hid hNU
  clear hTA hTR hNU
  by_cases k1 : o.kind = 1
  · have e1 : (o.kind == 1) = true := by simpa using k1
    have HR : Hid (deedC d.p a.ws o.p = or2 TA TR) := by show deedC d.p a.ws o.p = _; unfold deedC; rw [if_pos (show o.p.kind = 1 from k1)]; rw [← HTAE.out, ← HTRE.out]; rfl
    clear k1 HNU
    go_enter Tryz.func95, Tryz.ntmps95
    go_wp2_with fail
    rw [← E3.out, ← E1.out, ← E0.out]
    clear E3 E1 E0
    go_region_held3 (fun w' => w'.cell? ⟨b0, 0, none⟩ = some (.slice d.heads.a d.heads.n d.heads.c) ∧ w'.cell? ⟨b0, 1, none⟩ = some (.slice d.mta.a d.mta.n d.mta.c) ∧ w'.cell? ⟨b0, 2, none⟩ = some (.slice d.states.a d.states.n d.states.c) ∧ w'.cell? ⟨b0, 3, none⟩ = some (.slice d.acts.a d.acts.n d.acts.c) ∧ w'.cell? ⟨b0, 4, none⟩ = some (.slice d.tabs.a d.tabs.n d.tabs.c) ∧ w'.cell? ⟨b0, 5, none⟩ = some (.slice d.nodes.a d.nodes.n d.nodes.c) ∧ w'.cell? ⟨b0, 6, none⟩ = some (.slice d.out.a d.out.n d.out.c) ∧ w'.cell? ⟨b0, 7, none⟩ = some (.slice a.w.a a.w.n a.w.c) ∧ w'.cell? ⟨b0, 8, none⟩ = some (.slice a.ops.a a.ops.n a.ops.c) ∧ w'.cell? ⟨b1, 0, none⟩ = some (.int .i64 o.kind) ∧ w'.cell? ⟨b1, 1, none⟩ = some (.int .i64 o.r.h) ∧ w'.cell? ⟨b1, 2, none⟩ = some (.int .i64 o.r.f) ∧ w'.cell? ⟨b1, 3, none⟩ = some (.int .i64 o.head) ∧ w'.cell? ⟨b1, 4, none⟩ = some (.slice o.e.a o.e.n o.e.c))
      (first
        | go_keep
        | (go_split_ands
           exact keep14 ⟨by assumption, by assumption, by assumption, by assumption, by assumption, by assumption, by assumption, by assumption, by assumption, by assumption, by assumption, by assumption, by assumption, by assumption⟩ hbx))
      (first
        | (go_at_call 133; refine (HTA.out _ (bl_step HB.out (Below.refl W2.heap.size W2).drew)).mono ?_; rintro e wx ⟨rfl, hbx⟩; have HBX := hid hbx)
        | (go_at_call 134; refine (HTR.out _ (bl_step (bl_step HB.out (Below.refl W2.heap.size W2).drew) HBX.out)).mono ?_; rintro e wx ⟨rfl, hbx⟩; have HBY := hid hbx)
        | (go_at_call 89; refine (HOR.out _ _ _).mono ?_; rintro e wz ⟨rfl, rfl⟩))
    all_goals
      have HE := hid (bl_alloc (o := .cells #[.int .i64 TA, .int .i64 TR] 3) (bl_step (bl_step (bl_step HB.out (Below.refl W2.heap.size W2).drew) HBX.out) HBY.out))
      clear HB HBX HBY
      go_wp2
      go_ret
      exact ⟨by rw [HR.out]; rfl, HE.out⟩
  have e1 : (o.kind == 1) = false := by simpa using k1
  by_cases k2 : o.kind = 2
  · have e2 : (o.kind == 2) = true := by simpa using k2
    have HR : Hid (deedC d.p a.ws o.p = NU) := by show deedC d.p a.ws o.p = _; unfold deedC; rw [if_neg (show ¬ o.p.kind = 1 from k1), if_pos (show o.p.kind = 2 ∨ o.p.kind = 3 from .inl k2)]; exact HNUE.out
    clear k1 k2 HTA HTR HOR
    go_enter Tryz.func95, Tryz.ntmps95
    go_wp2_with fail
    rw [← E3.out, ← E1.out, ← E0.out]
    clear E3 E1 E0
    refine (HNU.out _).mono ?_
    rintro e wx ⟨rfl, rfl⟩
    clear HNU
    go_wp2
    go_ret
    exact ⟨by rw [HR.out]; rfl, HB.out⟩
  have e2 : (o.kind == 2) = false := by simpa using k2
  by_cases k3 : o.kind = 3
  · have e3 : (o.kind == 3) = true := by simpa using k3
    have HR : Hid (deedC d.p a.ws o.p = NU) := by show deedC d.p a.ws o.p = _; unfold deedC; rw [if_neg (show ¬ o.p.kind = 1 from k1), if_pos (show o.p.kind = 2 ∨ o.p.kind = 3 from .inr k3)]; exact HNUE.out
    clear k1 k2 HTA HTR HOR k3
    go_enter Tryz.func95, Tryz.ntmps95
    go_wp2_with fail
    rw [← E3.out, ← E1.out, ← E0.out]
    clear E3 E1 E0
    refine (HNU.out _).mono ?_
    rintro e wx ⟨rfl, rfl⟩
    clear HNU
    go_wp2
    go_ret
    exact ⟨by rw [HR.out]; rfl, HB.out⟩
  have e3 : (o.kind == 3) = false := by simpa using k3
  have n23 : ¬ (o.p.kind = 2 ∨ o.p.kind = 3) := fun h => h.elim k2 k3
  by_cases k4 : o.kind = 4
  · have e4 : (o.kind == 4) = true := by simpa using k4
    have HR : Hid (deedC d.p a.ws o.p = 0) := by show deedC d.p a.ws o.p = _; unfold deedC; rw [if_neg (show ¬ o.p.kind = 1 from k1), if_neg n23, if_pos (show o.p.kind = 4 from k4)]
    clear k1 k2 k3 k4 HTA HTR HOR HNU n23
    go_enter Tryz.func95, Tryz.ntmps95
    go_wp2
    go_ret
    exact ⟨by rw [HR.out]; rfl, by rw [E3.out] at HB; exact HB.out⟩
  have e4 : (o.kind == 4) = false := by simpa using k4
  by_cases k5 : o.kind = 5
  · have e5 : (o.kind == 5) = true := by simpa using k5
    have HR : Hid (deedC d.p a.ws o.p = TR) := by show deedC d.p a.ws o.p = _; unfold deedC; rw [if_neg (show ¬ o.p.kind = 1 from k1), if_neg n23, if_neg (show ¬ o.p.kind = 4 from k4), if_pos (show o.p.kind = 5 from k5)]; exact HTRE.out
    clear k1 k2 k3 k4 k5 HTA HOR HNU n23
    go_enter Tryz.func95, Tryz.ntmps95
    go_wp2_with fail
    rw [← E3.out, ← E1.out, ← E0.out]
    clear E3 E1 E0
    refine (HTR.out _ HB.out).mono ?_
    rintro e wx ⟨rfl, hbx⟩
    have HE := hid (bl_step HB.out hbx)
    clear HTR hbx HB
    go_wp2
    go_ret
    exact ⟨by rw [HR.out]; rfl, HE.out⟩
  have e5 : (o.kind == 5) = false := by simpa using k5
  by_cases k6 : o.kind = 6
  · have e6 : (o.kind == 6) = true := by simpa using k6
    have HR : Hid (deedC d.p a.ws o.p = or2 TA NU) := by show deedC d.p a.ws o.p = _; unfold deedC; rw [if_neg (show ¬ o.p.kind = 1 from k1), if_neg n23, if_neg (show ¬ o.p.kind = 4 from k4), if_neg (show ¬ o.p.kind = 5 from k5), if_pos (show o.p.kind = 6 from k6)]; rw [← HTAE.out, ← HNUE.out]; rfl
    clear k1 k2 k3 k4 k5 k6 HTR n23
    go_enter Tryz.func95, Tryz.ntmps95
    go_wp2_with fail
    rw [← E3.out, ← E1.out, ← E0.out]
    clear E3 E1 E0
    go_region_held3 (fun w' => w'.cell? ⟨b0, 0, none⟩ = some (.slice d.heads.a d.heads.n d.heads.c) ∧ w'.cell? ⟨b0, 1, none⟩ = some (.slice d.mta.a d.mta.n d.mta.c) ∧ w'.cell? ⟨b0, 2, none⟩ = some (.slice d.states.a d.states.n d.states.c) ∧ w'.cell? ⟨b0, 3, none⟩ = some (.slice d.acts.a d.acts.n d.acts.c) ∧ w'.cell? ⟨b0, 4, none⟩ = some (.slice d.tabs.a d.tabs.n d.tabs.c) ∧ w'.cell? ⟨b0, 5, none⟩ = some (.slice d.nodes.a d.nodes.n d.nodes.c) ∧ w'.cell? ⟨b0, 6, none⟩ = some (.slice d.out.a d.out.n d.out.c) ∧ w'.cell? ⟨b0, 7, none⟩ = some (.slice a.w.a a.w.n a.w.c) ∧ w'.cell? ⟨b0, 8, none⟩ = some (.slice a.ops.a a.ops.n a.ops.c) ∧ w'.cell? ⟨b1, 0, none⟩ = some (.int .i64 o.kind) ∧ w'.cell? ⟨b1, 1, none⟩ = some (.int .i64 o.r.h) ∧ w'.cell? ⟨b1, 2, none⟩ = some (.int .i64 o.r.f) ∧ w'.cell? ⟨b1, 3, none⟩ = some (.int .i64 o.head) ∧ w'.cell? ⟨b1, 4, none⟩ = some (.slice o.e.a o.e.n o.e.c))
      (first
        | go_keep
        | (go_split_ands
           exact keep14 ⟨by assumption, by assumption, by assumption, by assumption, by assumption, by assumption, by assumption, by assumption, by assumption, by assumption, by assumption, by assumption, by assumption, by assumption⟩ hbx))
      (first
        | (go_at_call 133; refine (HTA.out _ (bl_step HB.out (Below.refl W2.heap.size W2).drew)).mono ?_; rintro e wx ⟨rfl, hbx⟩; have HBX := hid hbx)
        | (go_at_call 135; refine (HNU.out _).mono ?_; rintro e wx ⟨rfl, rfl⟩)
        | (go_at_call 89; refine (HOR.out _ _ _).mono ?_; rintro e wz ⟨rfl, rfl⟩))
    all_goals
      have HE := hid (bl_alloc (o := .cells #[.int .i64 TA, .int .i64 NU] 3) (bl_step (bl_step HB.out (Below.refl W2.heap.size W2).drew) HBX.out))
      clear HB HBX
      go_wp2
      go_ret
      exact ⟨by rw [HR.out]; rfl, HE.out⟩
  · have e6 : (o.kind == 6) = false := by simpa using k6
    have HR : Hid (deedC d.p a.ws o.p = 5) := by show deedC d.p a.ws o.p = _; unfold deedC; rw [if_neg (show ¬ o.p.kind = 1 from k1), if_neg n23, if_neg (show ¬ o.p.kind = 4 from k4), if_neg (show ¬ o.p.kind = 5 from k5), if_neg (show ¬ o.p.kind = 6 from k6)]
    clear k1 k2 k3 k4 k5 k6 HTA HTR HOR HNU n23
    go_enter Tryz.func95, Tryz.ntmps95
    go_wp2
    go_ret
    exact ⟨by rw [HR.out]; rfl, by rw [E3.out] at HB; exact HB.out⟩
end Go.Proofs.YtedeiaokohdhpaaGreat
