/- The writer of plans: fields, steps, expressions. -/
import Derived.Test.YthekochmeihdfaaGreatVZWr2
import Derived.Laws.EntriesVeiled
namespace Go.Proofs.YthekochmeihdfaaGreat
open Go.RowKit

theorem box_cell {w : World} {b : Nat} {cs : Array Value} {T : TypeId} {f : Nat × Nat} (h : w.heap[b]? = some (.cells cs T f)) (i : Nat) : w.cell? ⟨b, i, none⟩ = cs[i]? := by simp [World.cell?, h]

theorem alloc_at (w : World) (cs : Array Value) (T : TypeId) : (w.alloc (.cells cs T)).heap[w.heap.size]? = some (.cells cs T (0, 0)) := heap_alloc_new w _

theorem Wr.pl {B p : Nat} {bs : List Int} {w : World} (h : Wr B p bs w) : p < w.heap.size := h.at.elim fun _ ⟨_, _, _, h, _⟩ => h
theorem Wr.bl {B p : Nat} {bs : List Int} {w : World} (h : Wr B p bs w) : B ≤ w.heap.size := by have := h.pl; have := h.low; omega

def refL (x : RefD) : List Int := numL x.h ++ numL x.f
def stepL (x : PushD) : List Int := numL x.op ++ (if x.op = 1 then plainL x.n.toNat else if x.op = 2 then refL x.r else [])
def treeL (es : List PushD) : List Int := numL es.length ++ es.flatMap stepL

/-- two numbers, one behind the other -/
theorem two_any (B p b : Nat) (bs : List Int) (x y : Int) (w : World) (hb : b = w.heap.size) (hx : wfI x) (hy : wfI y) (h : Wr B p bs w) (hl : (bs ++ (numL x ++ numL y)).length ≤ 9000000) :
    Calls Tryz.prog 104 #[.pointer (some ⟨p, 0, none⟩), .slice (some ⟨b, 0, none⟩) 2 2] (w.alloc (.cells #[.int .i64 x, .int .i64 y] 3)) (WDone B p (bs ++ (numL x ++ numL y)) (w.alloc (.cells #[.int .i64 x, .int .i64 y] 3))) := by
  subst hb
  have e : ([x, y] : List Int).flatMap numL = numL x ++ numL y := by simp
  have := numbers_any B p w.heap.size 2 bs [x, y] (w.alloc (.cells #[.int .i64 x, .int .i64 y] 3)) (h.step (bl_alloc (Below.refl _ _))) (alloc_at _ _ _) (by have := h.pl; omega) (by intro n hn; simp only [List.mem_cons, List.not_mem_nil, or_false] at hn; rcases hn with rfl | rfl; exact hx; exact hy) (by simp) (by rw [e]; exact hl)
  rw [e] at this
  exact this

set_option maxHeartbeats 2000000 in
set_option maxRecDepth 20000 in
theorem field_wr (B p : Nat) (bs : List Int) (x : RefD) (w : World) (hx : wfI x.h ∧ wfI x.f) (h : Wr B p bs w) (hl : (bs ++ refL x).length ≤ 9000000) :
    Calls Tryz.prog 105 #[.pointer (some ⟨p, 0, none⟩), .agg #[.int .i64 x.h, .int .i64 x.f]] w (WDone B p (bs ++ refL x) w) := by
  have hb1 : Below w.heap.size w (w.alloc (.cells #[.int .i64 x.h, .int .i64 x.f] 50)) := bl_alloc (Below.refl _ _)
  have HC := hid (two_any B p (w.heap.size + 1) bs x.h x.f (w.alloc (.cells #[.int .i64 x.h, .int .i64 x.f] 50)) (by simp) hx.1 hx.2 (h.step hb1) hl)
  have HD : Hid (∀ w', Wr B p (bs ++ refL x) w' → Below B ((w.alloc (.cells #[.int .i64 x.h, .int .i64 x.f] 50)).alloc (.cells #[.int .i64 x.h, .int .i64 x.f] 3)) w' → Fram p ((w.alloc (.cells #[.int .i64 x.h, .int .i64 x.f] 50)).alloc (.cells #[.int .i64 x.h, .int .i64 x.f] 3)) w' → WDone B p (bs ++ refL x) w (.returned (.tuple #[])) w') := fun w' h1 h2 h3 => ⟨rfl, h1, (((bl_alloc hb1).mono h.bl).trans h2), (Fram.below (bl_alloc hb1)).trans h3⟩
  clear h hl hx hb1
  go_enter Tryz.func105, Tryz.ntmps105
  go_wp2_with fail
  refine HC.out.mono ?_
  rintro e w1 ⟨rfl, h1, h2, h3⟩
  have HE := hid (HD.out w1 h1 h2 h3)
  clear h1 h2 h3 HC HD
  go_wp2
  go_end0
  exact HE.out

set_option maxHeartbeats 4000000 in
set_option maxRecDepth 20000 in
theorem step_wr (B p : Nat) (bs : List Int) (x : PushD) (w : World) (hx : wfI x.op ∧ wfI x.r.h ∧ wfI x.r.f ∧ wfU x.n) (h : Wr B p bs w) (hl : (bs ++ stepL x).length ≤ 9000000) :
    Calls Tryz.prog 146 #[.pointer (some ⟨p, 0, none⟩), .agg #[.int .i64 x.op, .int .i64 x.r.h, .int .i64 x.r.f, .int .u64 x.n]] w (WDone B p (bs ++ stepL x) w) := by
  have hb1 : Below w.heap.size w (w.alloc (.cells #[.int .i64 x.op, .int .i64 x.r.h, .int .i64 x.r.f, .int .u64 x.n] 145)) := bl_alloc (Below.refl _ _)
  have hun := bounds_u64 hx.2.2.2
  obtain ⟨N, hN0⟩ : ∃ N : Nat, x.n = N := ⟨x.n.toNat, by omega⟩
  have hN := hid hN0
  have hNb : N < 18446744073709551616 := by omega
  clear hN0
  have HC := hid (number_any B p bs x.op _ hx.1 (h.step hb1) (by rw [stepL, ← List.append_assoc, List.length_append] at hl; omega))
  have hat := alloc_at w #[.int .i64 x.op, .int .i64 x.r.h, .int .i64 x.r.f, .int .u64 x.n] 145
  have hbp : w.heap.size ≠ p := by have := h.pl; omega
  have HD : Hid (∀ w1, Wr B p (bs ++ numL x.op) w1 → Below B (w.alloc (.cells #[.int .i64 x.op, .int .i64 x.r.h, .int .i64 x.r.f, .int .u64 x.n] 145)) w1 → Fram p (w.alloc (.cells #[.int .i64 x.op, .int .i64 x.r.h, .int .i64 x.r.f, .int .u64 x.n] 145)) w1 → Below B w w1 ∧ Fram p w w1 ∧ w1.cell? ⟨w.heap.size, 0, none⟩ = some (.int .i64 x.op) ∧ w1.cell? ⟨w.heap.size, 1, none⟩ = some (.int .i64 x.r.h) ∧ w1.cell? ⟨w.heap.size, 2, none⟩ = some (.int .i64 x.r.f) ∧ w1.cell? ⟨w.heap.size, 3, none⟩ = some (.int .u64 x.n)) := fun w1 h1 h2 h3 => by
    have hc := box_cell (h3.2 _ _ _ _ hbp (by decide) hat)
    exact ⟨(hb1.mono h.bl).trans h2, (Fram.below hb1).trans h3, hc 0, hc 1, hc 2, hc 3⟩
  have HL := hid hl
  have HX := hid hx
  clear h hl hx hb1 hat
  by_cases k1 : x.op = 1
  · have e1 : (x.op == 1) = true := by simpa using k1
    have es : stepL x = numL x.op ++ plainL N := by unfold stepL; rw [if_pos k1, hN.out, Int.toNat_natCast]
    rw [es] at HL ⊢
    clear k1 es
    go_enter Tryz.func146, Tryz.ntmps146
    go_wp2_with fail
    refine HC.out.mono ?_
    rintro e w1 ⟨rfl, h1, h2, h3⟩
    obtain ⟨b1, f1, c0, c1, c2, c3⟩ := HD.out w1 h1 h2 h3
    rw [hN.out] at c3
    have HP := hid (plain_any B p _ N w1 hNb h1 (by rw [List.append_assoc]; exact HL.out))
    have B1 := hid b1
    have F1 := hid f1
    clear h1 h2 h3 b1 f1 HC HD
    go_wp2_with fail
    refine HP.out.mono ?_
    rintro e w2 ⟨rfl, g1, g2, g3⟩
    rw [List.append_assoc] at g1
    have HE : Hid (WDone B p (bs ++ (numL x.op ++ plainL N)) w (.returned (.tuple #[])) w2) := ⟨rfl, g1, B1.out.trans g2, F1.out.trans g3⟩
    clear g1 g2 g3 HP
    go_wp2
    go_end0
    exact HE.out
  have e1 : (x.op == 1) = false := by simpa using k1
  by_cases k2 : x.op = 2
  · have e2 : (x.op == 2) = true := by simpa using k2
    have es : stepL x = numL x.op ++ refL x.r := by unfold stepL; rw [if_neg k1, if_pos k2]
    rw [es] at HL ⊢
    clear k1 k2 es
    go_enter Tryz.func146, Tryz.ntmps146
    go_wp2_with fail
    refine HC.out.mono ?_
    rintro e w1 ⟨rfl, h1, h2, h3⟩
    obtain ⟨b1, f1, c0, c1, c2, c3⟩ := HD.out w1 h1 h2 h3
    have HP := hid (field_wr B p _ x.r w1 ⟨HX.out.2.1, HX.out.2.2.1⟩ h1 (by rw [List.append_assoc]; exact HL.out))
    have B1 := hid b1
    have F1 := hid f1
    clear h1 h2 h3 b1 f1 HC HD
    go_wp2_with fail
    refine HP.out.mono ?_
    rintro e w2 ⟨rfl, g1, g2, g3⟩
    rw [List.append_assoc] at g1
    have HE : Hid (WDone B p (bs ++ (numL x.op ++ refL x.r)) w (.returned (.tuple #[])) w2) := ⟨rfl, g1, B1.out.trans g2, F1.out.trans g3⟩
    clear g1 g2 g3 HP
    go_wp2
    go_end0
    exact HE.out
  · have e2 : (x.op == 2) = false := by simpa using k2
    have es : stepL x = numL x.op := by unfold stepL; rw [if_neg k1, if_neg k2, List.append_nil]
    rw [es]
    clear k1 k2 es
    go_enter Tryz.func146, Tryz.ntmps146
    go_wp2_with fail
    refine HC.out.mono ?_
    rintro e w1 ⟨rfl, h1, h2, h3⟩
    obtain ⟨b1, f1, c0, c1, c2, c3⟩ := HD.out w1 h1 h2 h3
    have HE : Hid (WDone B p (bs ++ numL x.op) w (.returned (.tuple #[])) w1) := ⟨rfl, h1, b1, f1⟩
    clear h1 h2 h3 b1 f1 HC HD
    go_wp2
    go_end0
    exact HE.out

set_option maxHeartbeats 2000000 in
set_option maxRecDepth 20000 in
theorem tree_wr (W0 : World) (p : Nat) (bs : List Int) (s : QSl) (es : List PushD) (w : World) (h : Wr W0.heap.size p bs w) (hw0 : Below W0.heap.size W0 w) (hr : QRow 4 PushD.lie W0 s es) (hn : s.n ≤ 100000) (hl : (bs ++ treeL es).length ≤ 9000000) :
    Calls Tryz.prog 110 #[.pointer (some ⟨p, 0, none⟩), .slice s.a s.n s.c] w (WDone W0.heap.size p (bs ++ treeL es) w) := by
  have e : treeL es = numL (s.n : Int) ++ es.flatMap stepL := by unfold treeL; rw [hr.1]
  rw [e] at hl ⊢
  have HC := hid (writeList_push W0 p _ bs s es stepL w rfl h hw0 hr hn hl (fun x hx cs w' h1 _ h3 => step_wr _ p cs x w' (kPush.inns hr x hx) h1 h3))
  have hmf : ∀ (fn : Fn) (first cap : Array Value) (w : World), (Instr.makeFunc fn first cap).run Tryz.prog w = .ok (.func fn first cap) w := fun _ _ _ _ => rfl
  clear h hw0 hr hl e
  go_enter Tryz.func110, Tryz.ntmps110
  go_wp2_with fail
  refine HC.out.mono ?_
  rintro e w1 hd
  have HE := hid hd
  have he := hd.1
  subst he
  clear hd HC
  go_wp2
  go_end0
  exact HE.out
end Go.Proofs.YthekochmeihdfaaGreat
