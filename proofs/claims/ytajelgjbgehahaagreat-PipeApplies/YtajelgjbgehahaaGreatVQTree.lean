/- Expressions of a plan: wrongTree. -/
import Derived.Test.YtajelgjbgehahaaGreatVQJ2
namespace Go.Proofs.YtajelgjbgehahaaGreat
open Go.RowKit

theorem takes_range (op : Int) : -1 ≤ takesC op ∧ takesC op ≤ 2 := by
  unfold takesC
  split
  · omega
  split
  · omega
  split <;> omega

theorem tree_drop {p : PPlan} {zs : List Int} {es : List PushD} {k : Nat} {x : PushD} (h : es[k]? = some x) (left : Int) :
    treeGo p zs (es.drop k) left = (if takesC x.op < 0 ∨ left < takesC x.op then 13 else if x.op = 2 ∧ p.width x.r zs = 0 then 1 else treeGo p zs (es.drop (k + 1)) (left + (1 - takesC x.op))) := by
  obtain ⟨hk, e⟩ := List.getElem?_eq_some_iff.1 h
  rw [List.drop_eq_getElem_cons hk, e]
  rfl

def TreeDone (p : PPlan) (es : List PushD) (zs : List Int) (w : World) (e : Ending) (w' : World) : Prop := e = .returned (.int .i64 (treeC p es zs)) ∧ Below w.heap.size w w'

abbrev JO (d : PlanD) : Obj := .cells #[.slice d.heads.a d.heads.n d.heads.c, .slice d.mta.a d.mta.n d.mta.c, .slice d.states.a d.states.n d.states.c, .slice d.acts.a d.acts.n d.acts.c, .slice d.tabs.a d.tabs.n d.tabs.c, .slice d.nodes.a d.nodes.n d.nodes.c, .slice d.out.a d.out.n d.out.c] 209

theorem jbox_cells {d : PlanD} {w wr : World} (hb : Below (w.heap.size + 1) (w.alloc (JO d)) wr) (i : Nat) : wr.cell? ⟨w.heap.size, i, none⟩ = (#[.slice d.heads.a d.heads.n d.heads.c, .slice d.mta.a d.mta.n d.mta.c, .slice d.states.a d.states.n d.states.c, .slice d.acts.a d.acts.n d.acts.c, .slice d.tabs.a d.tabs.n d.tabs.c, .slice d.nodes.a d.nodes.n d.nodes.c, .slice d.out.a d.out.n d.out.c] : Array Value)[i]? :=
  (hb.cell (p := ⟨w.heap.size, i, none⟩) (by simp)).trans (World.cell?_alloc_at _ _ _ _ rfl)

set_option maxHeartbeats 4000000 in
set_option maxRecDepth 20000 in
theorem tree_any (d : PlanD) (e : QSl) (es : List PushD) (aa : Option Addr) (an ac : Nat) (zs : List Int) (w : World) (hl : d.lie w) (he : QRow 4 PushD.lie w e es) (hz : Has .i64 w aa an zs) :
    Calls Tryz.prog 142 #[d.v, .slice e.a e.n e.c, .slice aa an ac] w (TreeDone d.p es zs w) := by
  have hlen := he.1
  by_cases h8 : (8 : Int) < (e.n : Int)
  · have HE : Hid (∀ w', Below w.heap.size w w' → TreeDone d.p es zs w (.returned (.int .i64 2)) w') := fun w' hb => ⟨by rw [treeC, if_pos (by omega)], hb⟩
    have d8 := decide_eq_true h8
    clear hl he hz hlen
    go_enter Tryz.func142, Tryz.ntmps142
    go_wp2
    go_ret
    exact HE.out _ (bl_alloc (Below.refl _ _))
  have d8 := decide_eq_false h8
  have HX : Hid (treeC d.p es zs = treeGo d.p zs es 0) := by show treeC d.p es zs = _; rw [treeC, if_neg (by omega)]
  have HD : Hid (∀ w' R, treeGo d.p zs es 0 = R → Below w.heap.size w w' → TreeDone d.p es zs w (.returned (.int .i64 R)) w') := fun w' R h hb => ⟨by rw [HX.out, h], hb⟩
  obtain ⟨ea, ee⟩ : ∃ ea, e.a = ea := ⟨_, rfl⟩
  have HL := hid hl
  have HE := hid he
  have HZ := hid hz
  have HN := hid hlen
  have HB0 : Hid (Below (w.heap.size + 1) (w.alloc (JO d)) (w.alloc (JO d))) := Below.refl _ _
  rw [ee]
  have EE := hid ee
  clear hl he hz hlen HX ee
  go_enter Tryz.func142, Tryz.ntmps142
  go_wp2
  go_loopw [16, 7, 9, 10] (fun q l _ _ wr => ∃ k : Nat, ∃ left : Int, k ≤ e.n ∧ q = .int .i64 k ∧ l = .int .i64 left ∧ 0 ≤ left ∧ left ≤ k ∧ Hid (treeGo d.p zs es 0 = treeGo d.p zs (es.drop k) left) ∧ Hid (Below (w.heap.size + 1) (w.alloc (JO d)) wr)) (fun q _ _ _ _ => e.n - (intOf q).toNat)
  case atStart => exact ⟨0, 0, Nat.zero_le _, rfl, rfl, Int.le_refl _, by simp, rfl, HB0⟩
  case round =>
    obtain ⟨k, left, hk, rfl, rfl, hl0, hl1, hgo, hb⟩ := hrel
    clear HB0
    have B0 : Hid (Below w.heap.size w wr) := (bl_alloc (Below.refl w.heap.size w)).trans (hb.out.mono (by omega))
    by_cases hlt : k < e.n
    · obtain ⟨g, off, x, ea', hx, ⟨r0, _⟩, ⟨r1, _⟩, ⟨r2, _⟩, ⟨r3, _⟩⟩ := row_at (HE.out.step PushD.keeps B0.out) hlt
      obtain rfl : ea = some ⟨g, off, none⟩ := by rw [← EE.out]; exact ea'
      have hki : (k : Int) < (e.n : Int) := by omega
      have hst := tree_drop (p := d.p) (zs := zs) hx left
      have hcs := jbox_cells hb.out
      have bo : ∀ o, Below wr.heap.size wr (wr.alloc o) := fun o => bl_alloc (Below.refl _ _)
      have p0 : ∀ o, (wr.alloc o).cell? ⟨w.heap.size, 0, none⟩ = some (.slice d.heads.a d.heads.n d.heads.c) := fun o => cell_keep (hcs 0) (bo o)
      have p1 : ∀ o, (wr.alloc o).cell? ⟨w.heap.size, 1, none⟩ = some (.slice d.mta.a d.mta.n d.mta.c) := fun o => cell_keep (hcs 1) (bo o)
      have p2 : ∀ o, (wr.alloc o).cell? ⟨w.heap.size, 2, none⟩ = some (.slice d.states.a d.states.n d.states.c) := fun o => cell_keep (hcs 2) (bo o)
      have p3 : ∀ o, (wr.alloc o).cell? ⟨w.heap.size, 3, none⟩ = some (.slice d.acts.a d.acts.n d.acts.c) := fun o => cell_keep (hcs 3) (bo o)
      have p4 : ∀ o, (wr.alloc o).cell? ⟨w.heap.size, 4, none⟩ = some (.slice d.tabs.a d.tabs.n d.tabs.c) := fun o => cell_keep (hcs 4) (bo o)
      have p5 : ∀ o, (wr.alloc o).cell? ⟨w.heap.size, 5, none⟩ = some (.slice d.nodes.a d.nodes.n d.nodes.c) := fun o => cell_keep (hcs 5) (bo o)
      have p6 : ∀ o, (wr.alloc o).cell? ⟨w.heap.size, 6, none⟩ = some (.slice d.out.a d.out.n d.out.c) := fun o => cell_keep (hcs 6) (bo o)
      have HTK : Hid (∀ w', Calls Tryz.prog 89 #[.int .i64 x.op] w' fun q w'' => q = .returned (.int .i64 (takesC x.op)) ∧ w'' = w') := fun w' => takes_any x.op w'
      have HFI : Hid (∀ o, Calls Tryz.prog 122 #[d.v, .agg #[.int .i64 x.r.h, .int .i64 x.r.f], .slice aa an ac] (wr.alloc o) fun q w' => q = .returned (.bool (d.p.width x.r zs != 0)) ∧ Below (wr.alloc o).heap.size (wr.alloc o) w') := fun o => field_any d x.r aa an ac zs _ ((HL.out.step B0.out).step (bo o)) ((HZ.out.step B0.out).step (bo o))
      have HBO : Hid (∀ o, Below (w.heap.size + 1) (w.alloc (JO d)) (wr.alloc o)) := fun o => hb.out.trans ((bo o).mono (by have := hb.out.size; simpa using this))
      have HBN : Hid (∀ w1, Below wr.heap.size wr w1 → Below (w.heap.size + 1) (w.alloc (JO d)) w1) := fun w1 h => hb.out.trans (h.mono (by have := hb.out.size; simpa using this))
      have BO := hid bo
      have hT := takes_range x.op
      clear hcs bo ea'
      generalize takesC x.op = T at *
      by_cases hT0 : T < 0
      · have f0 := decide_eq_true hT0
        have HF : Hid (treeGo d.p zs es 0 = 13) := by show treeGo d.p zs es 0 = 13; rw [hgo.out, hst, if_pos (.inl hT0)]
        clear hst HFI HBN HBO hgo
        go_wp2_with fail
        refine (HTK.out _).mono ?_
        rintro q w1 ⟨rfl, rfl⟩
        clear HTK
        go_wp2
        go_ret
        exact HD.out _ _ HF.out (bl_step B0.out (BO.out _))
      have f0 := decide_eq_false hT0
      by_cases hT1 : left < T
      · have f1 := decide_eq_true hT1
        have HF : Hid (treeGo d.p zs es 0 = 13) := by show treeGo d.p zs es 0 = 13; rw [hgo.out, hst, if_pos (.inr hT1)]
        clear hst HFI HBN HBO hgo
        go_wp2_with fail
        refine (HTK.out _).mono ?_
        rintro q w1 ⟨rfl, rfl⟩
        clear HTK
        go_wp2
        go_ret
        exact HD.out _ _ HF.out (bl_step B0.out (BO.out _))
      have f1 := decide_eq_false hT1
      rw [if_neg (show ¬ (T < 0 ∨ left < T) by omega)] at hst
      by_cases h2 : x.op = 2
      · have b2 : (x.op == 2) = true := by simpa using h2
        by_cases hw0 : d.p.width x.r zs = 0
        · have HF : Hid (treeGo d.p zs es 0 = 1) := by show treeGo d.p zs es 0 = 1; rw [hgo.out, hst, if_pos ⟨h2, hw0⟩]
          rw [hw0] at HFI
          clear hst HBN HBO hgo h2 hw0
          go_wp2_with fail
          refine (HTK.out _).mono ?_
          rintro q w1 ⟨rfl, rfl⟩
          clear HTK
          go_wp2_with fail
          refine (HFI.out _).mono ?_
          rintro q w1 ⟨rfl, hb1⟩
          have HE1 := hid (bl_step (bl_step B0.out (BO.out _)) hb1)
          clear HFI hb1
          go_wp2
          go_ret
          exact HD.out _ _ HF.out HE1.out
        · have HG : Hid (treeGo d.p zs es 0 = treeGo d.p zs (es.drop (k + 1)) (left + (1 - T))) := by show treeGo d.p zs es 0 = _; rw [hgo.out, hst, if_neg (fun h => hw0 h.2)]
          have bw0 : (d.p.width x.r zs != 0) = true := by simpa using hw0
          rw [bw0] at HFI
          clear hst HBO hgo h2 hw0 bw0
          go_wp2_with fail
          refine (HTK.out _).mono ?_
          rintro q w1 ⟨rfl, rfl⟩
          clear HTK
          go_wp2_with fail
          refine (HFI.out _).mono ?_
          rintro q w1 ⟨rfl, hb1⟩
          have HE1 := hid (HBN.out _ (bl_step (BO.out _) hb1))
          clear HFI hb1 HBN p0 p1 p2 p3 p4 p5 p6 r0 r1 r2 r3
          go_wp2
          go_roundw
          case rel => exact ⟨k + 1, left + (1 - T), by omega, by go_num, by go_num, by omega, by omega, HG, HE1⟩
          case measure => simp [intOf]; omega
      · have b2 : (x.op == 2) = false := by simpa using h2
        have HG : Hid (treeGo d.p zs es 0 = treeGo d.p zs (es.drop (k + 1)) (left + (1 - T))) := by show treeGo d.p zs es 0 = _; rw [hgo.out, hst, if_neg (fun h => h2 h.1)]
        clear hst HFI HBN hgo h2
        go_wp2_with fail
        refine (HTK.out _).mono ?_
        rintro q w1 ⟨rfl, rfl⟩
        clear HTK
        go_wp2
        go_roundw
        case rel => exact ⟨k + 1, left + (1 - T), by omega, by go_num, by go_num, by omega, by omega, HG, HBO.out _⟩
        case measure => simp [intOf]; omega
    · have ek : k = e.n := by omega
      have HF : Hid (treeGo d.p zs es 0 = if left ≠ 1 then 13 else 0) := by
        show treeGo d.p zs es 0 = _
        rw [hgo.out, ek, ← HN.out, List.drop_length]
        rfl
      clear hgo hb
      by_cases h1 : left = 1
      · subst h1
        subst ek
        rw [if_neg (by simp)] at HF
        go_wp2
        go_ret
        exact HD.out _ _ HF.out B0.out
      · rw [if_pos h1] at HF
        have b1 : (left != 1) = true := by simpa using h1
        subst ek
        go_wp2
        go_ret
        exact HD.out _ _ HF.out B0.out
end Go.Proofs.YtajelgjbgehahaaGreat
