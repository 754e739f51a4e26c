/- Texts of one chain, joined: QEq, QSame, QLaw0. -/
import Derived.Test.YtedeiaokohdhpaaGreatG17
import Derived.Test.YtedeiaokohdhpaaGreatG19
import Derived.Test.YtedeiaokohdhpaaGreatG2
import Derived.Deep.RegionHeld3
import Derived.Test.YtedeiaokohdhpaaGreatG32
import Derived.Test.YtedeiaokohdhpaaGreatG15
namespace Go.Proofs.YtedeiaokohdhpaaGreat
open Go.RowKit
def EqL {α : Type} (R : α → α → Prop) (S T : List α) : Prop := S.length = T.length ∧ ∀ (i : Nat) (x y : α), S[i]? = some x → T[i]? = some y → R x y
def EqPush (c : Bool) (x y : PushD) : Prop := x.op = y.op ∧ ((c = false ∨ x.op = 1) → x.n = y.n) ∧ ((c = false ∨ x.op = 2) → x.r = y.r)
def EqState (c : Bool) (x y : PState) : Prop := x.head = y.head ∧ x.els = y.els ∧ x.cs = y.cs ∧ ((c = false ∨ 0 < x.cs.length) → x.r = y.r)
def EqOp (c : Bool) (x y : POp) : Prop := x.kind = y.kind ∧ ((c = false ∨ x.kind = 1 ∨ x.kind = 6) → x.r = y.r) ∧ ((c = false ∨ x.kind = 2 ∨ x.kind = 3 ∨ x.kind = 6) → x.head = y.head) ∧ ((c = false ∨ x.kind = 1 ∨ x.kind = 5) → EqL (EqPush c) x.es y.es)
def EqAct (c : Bool) (x y : PAct) : Prop := x.ws = y.ws ∧ EqL (EqOp c) x.os y.os
def EqNode (c : Bool) (x y : PNode) : Prop := x.kind = y.kind ∧ x.yes = y.yes ∧ ((c = false ∨ x.kind ≠ 3) → x.n = y.n) ∧ ((c = false ∨ x.kind = 3) → EqL (EqPush c) x.es y.es) ∧ ((c = false ∨ x.kind = 3 ∨ x.kind = 4) → x.no = y.no)
structure EqPlan (c : Bool) (p q : PPlan) : Prop where
  hs : p.hs = q.hs
  ms : p.ms = q.ms
  ss : EqL (EqState c) p.ss q.ss
  al : EqL (EqAct c) p.al q.al
  ts : p.ts = q.ts
  ns : EqL (EqNode c) p.ns q.ns
  os : p.os = q.os
theorem eql_refl {α : Type} {R : α → α → Prop} (h : ∀ x, R x x) (S : List α) : EqL R S S := ⟨rfl, fun i x y hx hy => by rw [hx] at hy; cases hy; exact h x⟩
theorem eqpush_refl (c : Bool) (x : PushD) : EqPush c x x := ⟨rfl, fun _ => rfl, fun _ => rfl⟩
theorem eqplan_refl (c : Bool) (p : PPlan) : EqPlan c p p :=
  ⟨rfl, rfl, eql_refl (fun _ => ⟨rfl, rfl, rfl, fun _ => rfl⟩) _, eql_refl (fun _ => ⟨rfl, eql_refl (fun _ => ⟨rfl, fun _ => rfl, fun _ => rfl, fun _ => eql_refl (eqpush_refl c) _⟩) _⟩) _, rfl, eql_refl (fun _ => ⟨rfl, rfl, fun _ => rfl, fun _ => eql_refl (eqpush_refl c) _, fun _ => rfl⟩) _, rfl⟩
theorem EqL.at {α β : Type} {R : β → β → Prop} {f : α → β} {S T : List α} (h : EqL R (S.map f) (T.map f)) {i : Nat} {x y : α} (hx : S[i]? = some x) (hy : T[i]? = some y) : R (f x) (f y) :=
  h.2 i _ _ (by rw [List.getElem?_map, hx]; rfl) (by rw [List.getElem?_map, hy]; rfl)
end Go.Proofs.YtedeiaokohdhpaaGreat

namespace Go.Proofs.YtedeiaokohdhpaaGreat
open Go.RowKit
def Yes (w : World) (e : Ending) (w' : World) : Prop := e = .returned (.bool true) ∧ Below w.heap.size w w'
set_option maxHeartbeats 4000000 in
set_option maxRecDepth 20000 in
theorem sameTree_any (c : Bool) (s t : QSl) (S T : List PushD) (w : World) (hs : QRow 4 PushD.lie w s S) (ht : QRow 4 PushD.lie w t T) (he : EqL (EqPush c) S T) (hm : s.n ≤ 100000) :
    Calls Tryz.prog 82 #[.slice s.a s.n s.c, .slice t.a t.n t.c, .bool c] w (Yes w) := by
  have hn : t.n = s.n := by rw [← hs.1, ← ht.1]; exact he.1.symm
  rw [hn]
  have HS := hid hs
  have HT := hid ht
  have HN := hid hn
  have HE := hid he
  have hne : ((s.n : Int) != (s.n : Int)) = false := by simp
  obtain ⟨sa, esa⟩ : ∃ sa, s.a = sa := ⟨_, rfl⟩
  obtain ⟨ta, eta⟩ : ∃ ta, t.a = ta := ⟨_, rfl⟩
  rw [esa, eta]
  have ESA := hid esa
  have ETA := hid eta
  clear hs ht hn he esa eta
  go_enter Tryz.func82, Tryz.ntmps82
  go_wp2
  go_loopw [7, 8, 9] (fun q _ _ wr => ∃ k : Nat, k ≤ s.n ∧ q = .int .i64 k ∧ Hid (Below w.heap.size w wr)) (fun q _ _ _ => s.n - (intOf q).toNat)
  case atStart => exact ⟨0, Nat.zero_le _, rfl, Below.refl _ _⟩
  case round =>
    obtain ⟨k, hk, rfl, hb⟩ := hrel
    by_cases hlt : k < s.n
    · have hki : (k : Int) < (s.n : Int) := by omega
      obtain ⟨g1, o1, x, e1, hx, ⟨x0, _⟩, ⟨x1, _⟩, ⟨x2, _⟩, ⟨x3, _⟩⟩ := row_at (HS.out.step PushD.keeps hb.out) hlt
      obtain ⟨g2, o2, y, e2, hy, ⟨y0, _⟩, ⟨y1, _⟩, ⟨y2, _⟩, ⟨y3, _⟩⟩ := row_at (HT.out.step PushD.keeps hb.out) (show k < t.n by rw [HN.out]; exact hlt)
      obtain rfl : sa = some ⟨g1, o1, none⟩ := by rw [← ESA.out]; exact e1
      obtain rfl : ta = some ⟨g2, o2, none⟩ := by rw [← ETA.out]; exact e2
      obtain ⟨q0, q1, q2⟩ := HE.out.2 k x y hx hy
      rw [← q0] at y0
      have Q1 := hid q1
      have Q2 := hid q2
      clear e1 e2 hx hy q0 q1 q2
      go_wp2_with fail
      go_region_held3 (fun w' => w'.cell? ⟨g1, o1 + k * 4, none⟩ = some (.int .i64 x.op) ∧ w'.cell? ⟨g1, o1 + k * 4 + 1, none⟩ = some (.int .i64 x.r.h) ∧ w'.cell? ⟨g1, o1 + k * 4 + 2, none⟩ = some (.int .i64 x.r.f) ∧ w'.cell? ⟨g1, o1 + k * 4 + 3, none⟩ = some (.int .u64 x.n) ∧ w'.cell? ⟨g2, o2 + k * 4, none⟩ = some (.int .i64 x.op) ∧ w'.cell? ⟨g2, o2 + k * 4 + 1, none⟩ = some (.int .i64 y.r.h) ∧ w'.cell? ⟨g2, o2 + k * 4 + 2, none⟩ = some (.int .i64 y.r.f) ∧ w'.cell? ⟨g2, o2 + k * 4 + 3, none⟩ = some (.int .u64 y.n)) (go_keep) (fail)
      all_goals
        clear x0 x1 x2 x3 y0 y1 y2 y3 hne
        cases c with
        | false =>
          have r1 := Q1.out (.inl rfl)
          have r2 := Q2.out (.inl rfl)
          rw [← r1, ← r2]
          clear Q1 Q2 r1 r2
          go_wp2
          go_roundw
          case rel => exact ⟨k + 1, by omega, by go_num, (bl_alloc (bl_alloc hb.out)).drew⟩
          case measure => simp [intOf]; omega
        | true =>
          by_cases p1 : x.op = 1
          · have e1 : (x.op == 1) = true := by simpa using p1
            have e2 : (x.op == 2) = false := by rw [p1]; rfl
            have r1 := Q1.out (.inr p1)
            rw [← r1]
            clear Q1 Q2 r1 p1
            go_wp2
            go_roundw
            case rel => exact ⟨k + 1, by omega, by go_num, (bl_alloc (bl_alloc hb.out)).drew⟩
            case measure => simp [intOf]; omega
          · have e1 : (x.op == 1) = false := by simpa using p1
            by_cases p2 : x.op = 2
            · have e2 : (x.op == 2) = true := by simpa using p2
              have r2 := Q2.out (.inr p2)
              rw [← r2]
              clear Q1 Q2 r2 p1 p2
              go_wp2
              go_roundw
              case rel => exact ⟨k + 1, by omega, by go_num, (bl_alloc (bl_alloc hb.out)).drew⟩
              case measure => simp [intOf]; omega
            · have e2 : (x.op == 2) = false := by simpa using p2
              clear Q1 Q2 p1 p2
              go_wp2
              go_roundw
              case rel => exact ⟨k + 1, by omega, by go_num, (bl_alloc (bl_alloc hb.out)).drew⟩
              case measure => simp [intOf]; omega
    · have hki : ¬ (k : Int) < (s.n : Int) := by omega
      go_wp2
      go_ret
      exact ⟨rfl, hb.out⟩
end Go.Proofs.YtedeiaokohdhpaaGreat

namespace Go.Proofs.YtedeiaokohdhpaaGreat
open Go.RowKit
set_option maxHeartbeats 1000000 in
set_option maxRecDepth 20000 in
theorem qsame_ints {w : World} {a b : Option Addr} {m : Nat} {ps : List Int} (c d : Nat) (hm : m ≤ 1000) (ha : Has .i64 w a m ps) (hb : Has .i64 w b m ps) :
    Calls Tryz.prog 35 #[.slice a m c, .slice b m d] w fun e w' => e = .returned (.bool true) ∧ ∃ s, w' = w.drewN s := by
  have hne : ((m : Int) != (m : Int)) = false := by simp
  go_enter Tryz.func35, Tryz.ntmps35
  go_wp2
  go_loopw [5] (fun q wr => ∃ k : Nat, k ≤ m ∧ q = .int .i64 k ∧ Hid (∃ s, wr = w.drewN s)) (fun q _ => m - (intOf q).toNat)
  case atStart => exact ⟨0, Nat.zero_le _, rfl, 0, rfl⟩
  case round =>
    obtain ⟨k, hk, rfl, hq⟩ := hrel
    by_cases hlt : k < m
    · obtain ⟨p1, o1, rfl, hp1, hc1⟩ := ha.some (by omega)
      obtain ⟨p2, o2, rfl, hp2, hc2⟩ := hb.some (by omega)
      have q1 : wr.cell? ⟨p1, o1 + k, none⟩ = some (.int .i64 (ps.getD k 0)) := by obtain ⟨s, e⟩ := hq; rw [e]; exact hc1 k hlt
      have q2 : wr.cell? ⟨p2, o2 + k, none⟩ = some (.int .i64 (ps.getD k 0)) := by obtain ⟨s, e⟩ := hq; rw [e]; exact hc2 k hlt
      clear hc1 hc2 hp1 hp2 ha hb
      have hki : (k : Int) < (m : Int) := by omega
      simp only [List.getD_eq_getElem?_getD] at q1 q2
      generalize ps[k]?.getD 0 = x at *
      have hx : (x != x) = false := by simp
      go_wp2
      go_big_quiet (fail)
      go_wp2
      go_roundw
      case rel => exact ⟨k + 1, by omega, by go_num, by obtain ⟨s, e⟩ := hq; rw [e]; exact ⟨_, World.drewN_drewN _ _ _⟩⟩
      case measure => simp [intOf]; omega
    · go_wp2
      go_ret
      exact ⟨rfl, hq⟩
theorem qsame_below {w : World} {a b : Option Addr} {m : Nat} {ps : List Int} (c d : Nat) (hm : m ≤ 1000) (ha : Has .i64 w a m ps) (hb : Has .i64 w b m ps) :
    Calls Tryz.prog 35 #[.slice a m c, .slice b m d] w fun e w' => e = .returned (.bool true) ∧ Below w.heap.size w w' :=
  (qsame_ints c d hm ha hb).mono fun _ _ ⟨h1, s, h2⟩ => ⟨h1, by rw [h2]; exact ⟨rfl, rfl, rfl, Nat.le_refl _, fun _ _ => rfl⟩⟩
end Go.Proofs.YtedeiaokohdhpaaGreat
