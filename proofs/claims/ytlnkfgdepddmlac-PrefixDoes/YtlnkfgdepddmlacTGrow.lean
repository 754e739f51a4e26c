/- What grown does. -/
import Derived.Test.YtlnkfgdepddmlacTEntry
namespace Go.Proofs.Ytlnkfgdepddmlac
open Go.RowKit Mth

/-- the head of a table: its width, how many it may have, how many it has -/
structure Head (w : World) (p : Nat) (wd most many : Int) : Prop where
  c0 : w.cell? ⟨p, 0, none⟩ = some (.int .i64 wd)
  c1 : w.cell? ⟨p, 1, none⟩ = some (.int .i64 most)
  c2 : w.cell? ⟨p, 2, none⟩ = some (.int .i64 many)
  f2 : w.frozen? ⟨p, 2, none⟩ = false

theorem Head.step {w w' : World} {p : Nat} {wd most many : Int} (h : Head w p wd most many) (hb : Below w.heap.size w w') : Head w' p wd most many := by
  have hp := World.block_lt_of_cell? w _ h.c0
  exact ⟨(hb.cell (p := ⟨p, 0, none⟩) hp).trans h.c0, (hb.cell (p := ⟨p, 1, none⟩) hp).trans h.c1, (hb.cell (p := ⟨p, 2, none⟩) hp).trans h.c2, (hb.frozen (p := ⟨p, 2, none⟩) hp).trans h.f2⟩

theorem Head.drewN {w : World} {p : Nat} {wd most many : Int} (h : Head w p wd most many) (s : Nat) : Head (w.drewN s) p wd most many := h.step ⟨rfl, rfl, rfl, Nat.le_refl _, fun _ _ => rfl⟩

/-- a node's cell is none of the head -/
theorem Trie.apart {w : World} {B p W : Nat} {N : Ways} {C : Told2} (t : Trie w B p W N C) {n v : Nat} {a : Loc} (ha : N n v = some a) (o j : Nat) (hj : j < 3) : (⟨a.1, a.2 + o, none⟩ : Addr) ≠ ⟨p, j, none⟩ := by
  intro e
  have e1 : a.1 = p := congrArg Addr.block e
  have e2 : a.2 + o = j := congrArg Addr.off e
  obtain ⟨rfl, rfl⟩ := t.inj n v 0 0 a (p, 3) ha t.root e1
  rw [t.root] at ha
  have := Option.some.inj ha
  rw [← this] at e2
  simp only at e2
  omega

theorem Trie.head {w w1 : World} {B p W : Nat} {N : Ways} {C : Told2} {wd most many : Int} (t : Trie w B p W N C) {n v : Nat} {a : Loc} (ha : N n v = some a) (h : Head w1 p wd most many) (o : Nat) (x : Value) : Head (w1.setCell ⟨a.1, a.2 + o, none⟩ x) p wd most many :=
  ⟨(World.cell?_setCell_other _ _ _ _ (t.apart ha o 0 (by omega))).trans h.c0, (World.cell?_setCell_other _ _ _ _ (t.apart ha o 1 (by omega))).trans h.c1, (World.cell?_setCell_other _ _ _ _ (t.apart ha o 2 (by omega))).trans h.c2, by simpa using h.f2⟩

/-- on the way to a node that may have to be made -/
def GrowAt (w wr : World) (B p W : Nat) (C : Told2) (wd most many : Int) (key i : Nat) (x : Value) : Prop :=
  ∃ N a, Trie wr B p W N C ∧ N i (key / 2 ^ (W - i)) = some a ∧ x = ptr (some a) ∧ Head wr p wd most many ∧ Below B w wr ∧ Moved w wr

theorem Trie.small {w : World} {B p W : Nat} {N : Ways} {C : Told2} (t : Trie w B p W N C) : B ≤ w.heap.size :=
  Nat.le_of_lt (Nat.lt_of_le_of_lt (t.base 0 0 _ t.root) (t.node 0 0 _ t.root).lt)

/-- a node more on the way -/
theorem grow_new {w wr : World} {B p W : Nat} {C : Told2} {wd most many : Int} {key i : Nat} {N : Ways} {a : Loc} (t : Trie wr B p W N C) (hi : i < W) (ha : N i (key / 2 ^ (W - i)) = some a) (hn : N (i + 1) (key / 2 ^ (W - (i + 1))) = none) (hd : Head wr p wd most many) (hb : Below B w wr) (hm : Moved w wr) :
    GrowAt w ((wr.alloc NewNode).setCell ⟨a.1, a.2 + bitAt W key i, none⟩ (.pointer (some ⟨wr.heap.size, 0, none⟩))) B p W C wd most many key (i + 1) (.pointer (some ⟨wr.heap.size, 0, none⟩)) := by
  have t1 := t.step (bl_alloc (o := NewNode) (Below.refl wr.heap.size wr))
  have hbit := bitAt_lt W key i
  rw [way_next W key i hi] at hn
  refine ⟨_, (wr.heap.size, 0), t.link hbit hi ha hn t.small, ?_, rfl, t1.head ha (hd.step (bl_alloc (Below.refl _ _))) _ _, (hb.alloc t.small _).setCell (t.base _ _ _ ha) _, ?_⟩
  · rw [way_next W key i hi, upN_same]
  · exact (hm.trans (moved_alloc wr _)).trans (moved_set (t1.node _ _ _ ha).lo _)

set_option maxHeartbeats 1000000 in
set_option maxRecDepth 20000 in
theorem grown_any {w : World} {B p W key n : Nat} {N : Ways} {C : Told2} {most many : Int} (t : Trie w B p W N C) (hd : Head w p W most many) (hW : W ≤ 64) (hk : key < 2 ^ W) (hn : n ≤ W) :
    Calls Try.prog 39 #[.pointer (some ⟨p, 0, none⟩), .int .u64 key, .int .i64 n] w fun e w' => ∃ x, e = .returned x ∧ GrowAt w w' B p W C W most many key n x := by
  have G0 : GrowAt w w B p W C W most many key 0 (.pointer (some ⟨p, 3, none⟩)) := ⟨N, (p, 3), t, by rw [way_zero W key hk]; exact t.root, rfl, hd, Below.refl _ _, Moved.refl _⟩
  clear t hd hk
  go_enter Try.func39, Try.ntmps39
  go_wp2
  go_loopw [7, 14] (fun x q wr => ∃ i : Nat, i ≤ n ∧ q = .int .i64 i ∧ GrowAt w wr B p W C W most many key i x) (fun _ q _ => n - (intOf q).toNat)
  case atStart => exact ⟨0, Nat.zero_le _, rfl, G0⟩
  case round =>
    obtain ⟨i, hi, rfl, hG⟩ := hrel
    clear G0
    by_cases hlt : (i : Int) < (n : Int)
    · obtain ⟨N', a, t, ha, rfl, hd, hb, hm⟩ := hG
      obtain ⟨b, o⟩ := a
      have hc := t.on (key := key) (i := i) (by omega) ha
      have hf := ((t.node _ _ _ ha).child (N := N') _ (bitAt_lt W key i)).2
      have hbit := bitAt_lt W key i
      have c0 := hd.c0
      have hiW : i < W := by omega
      have HB := hid (bit_any (key := key) c0 hW hiW)
      simp only [ptr]
      cases hN : N' (i + 1) (key / 2 ^ (W - (i + 1))) with
      | none =>
        have hG := grow_new t hiW ha hN hd hb hm
        rw [hN] at hc
        simp only [ptr] at hc
        have hlt2 := World.block_lt_of_cell? wr _ hc
        rw [World.setCell_alloc_past _ _ _ _ hlt2] at hG
        have HG := hid hG
        clear hG
        have hc2 : (wr.alloc NewNode).cell? ⟨b, o + bitAt W key i, none⟩ = some (.pointer none) := (Below.cell (bl_alloc (Below.refl wr.heap.size wr)) (p := ⟨b, o + bitAt W key i, none⟩) hlt2).trans hc
        have hf2 : (wr.alloc NewNode).frozen? ⟨b, o + bitAt W key i, none⟩ = false := (Below.frozen (bl_alloc (Below.refl wr.heap.size wr)) (p := ⟨b, o + bitAt W key i, none⟩) hlt2).trans hf
        clear t ha hN hd hb hm c0 hf
        generalize bitAt W key i = β at *
        have hb0 : (β : Int) < 2 := by omega
        go_wp2_with (go_at_call 44; refine HB.out.mono ?_; rintro e w1 ⟨rfl, rfl⟩)
        go_roundw
        case rel => exact ⟨i + 1, by omega, by go_num, HG.out⟩
        case measure => simp [intOf]; omega
      | some d =>
        obtain ⟨b', o'⟩ := d
        have HG : Hid (GrowAt w wr B p W C W most many key (i + 1) (.pointer (some ⟨b', o', none⟩))) := ⟨N', (b', o'), t, hN, rfl, hd, hb, hm⟩
        rw [hN] at hc
        simp only [ptr] at hc
        clear t ha hN hd hb hm c0 hf
        generalize bitAt W key i = β at *
        have hb0 : (β : Int) < 2 := by omega
        go_wp2_with (go_at_call 44; refine HB.out.mono ?_; rintro e w1 ⟨rfl, rfl⟩)
        go_roundw
        case rel => exact ⟨i + 1, by omega, by go_num, HG.out⟩
        case measure => simp [intOf]; omega
    · have ei : i = n := by omega
      subst ei
      go_wp2
      go_ret
      exact ⟨_, rfl, hG⟩
end Go.Proofs.Ytlnkfgdepddmlac
