/- What LessNums and ahead do, of entries with one key, no masks and rank 0. -/
import Derived.Test.YtlnkfgdepddmlacRFits
namespace Go.Proofs.Ytlnkfgdepddmlac
open Go.RowKit Mth

def lessOf (x y : Int) : Int := if x < y then -1 else if y < x then 1 else 0

structure NoLess (x y : Int) : Prop where
  a : ¬ x < y
  b : ¬ y < x

def LessDone (w w' : World) (x y : Int) (e : Ending) : Prop := e = .returned (.int .i64 (lessOf x y)) ∧ ∃ s, w' = w.drewN s

set_option maxHeartbeats 1000000 in
set_option maxRecDepth 20000 in
theorem less_one {w : World} {a b : Option Addr} {x y : Int} (c d : Nat) (ha : Has .u64 w a 1 [x]) (hb : Has .u64 w b 1 [y]) :
    Calls Try.prog 66 #[.slice a 1 c, .slice b 1 d] w fun e w' => LessDone w w' x y e := by
  obtain ⟨p1, o1, rfl, hp1, hc1⟩ := ha.some (by omega)
  obtain ⟨p2, o2, rfl, hp2, hc2⟩ := hb.some (by omega)
  have q1 : w.cell? ⟨p1, o1, none⟩ = some (.int .u64 x) := hc1 0 (by omega)
  have q2 : w.cell? ⟨p2, o2, none⟩ = some (.int .u64 y) := hc2 0 (by omega)
  clear hc1 hc2 hp1 hp2 ha hb
  go_enter Try.func66, Try.ntmps66
  go_wp2
  go_loopw [5] (fun q wr => (q = .int .i64 0 ∧ wr = w) ∨ (q = .int .i64 1 ∧ NoLess x y ∧ Hid (∃ s, wr = w.drewN s))) (fun q _ => 1 - (intOf q).toNat)
  case atStart => exact .inl ⟨rfl, rfl⟩
  case round =>
    rcases hrel with ⟨rfl, rfl⟩ | ⟨rfl, hxy, hq⟩
    · by_cases h1 : x < y
      · have h1d : decide (x < y) = true := decide_eq_true h1
        go_wp2
        go_big_quiet (fail)
        go_wp2
        go_ret
        exact ⟨by unfold lessOf; rw [if_pos h1]; rfl, _, rfl⟩
      · have h1d : decide (x < y) = false := decide_eq_false h1
        go_wp2_with fail
        go_big_quiet (fail)
        go_wp2_with fail
        have q1' : (wr.drewN nq).cell? ⟨p1, o1, none⟩ = some (.int .u64 x) := q1
        have q2' : (wr.drewN nq).cell? ⟨p2, o2, none⟩ = some (.int .u64 y) := q2
        have HD : Hid (∀ s, ∃ s', (wr.drewN nq).drewN s = wr.drewN s') := fun s => ⟨_, World.drewN_drewN _ _ _⟩
        generalize wr.drewN nq = w1 at *
        by_cases h2 : y < x
        · have h2d : decide (y < x) = true := decide_eq_true h2
          go_big_quiet (fail)
          go_wp2
          go_ret
          exact ⟨by unfold lessOf; rw [if_neg (by omega : ¬ x < y), if_pos (by omega : y < x)]; rfl, HD.out _⟩
        · have h2d : decide (y < x) = false := decide_eq_false h2
          go_big_quiet (fail)
          go_wp2
          go_roundw
          case rel => exact .inr ⟨by go_num, ⟨by omega, by omega⟩, HD.out _⟩
          case measure => simp [intOf]
    · obtain ⟨h1, h2⟩ := hxy
      go_wp2
      go_ret
      exact ⟨by unfold lessOf; rw [if_neg (by omega : ¬ x < y), if_neg (by omega : ¬ y < x)]; rfl, hq⟩

set_option maxHeartbeats 1000000 in
set_option maxRecDepth 20000 in
theorem less_nil (w : World) : Calls Try.prog 66 #[.slice none 0 0, .slice none 0 0] w fun e w' => e = .returned (.int .i64 0) ∧ w' = w := by
  go_enter Try.func66, Try.ntmps66
  go_wp2
  go_loopw [5] (fun q wr => q = .int .i64 0 ∧ wr = w) (fun _ _ => 0)
  case atStart => exact ⟨rfl, rfl⟩
  case round =>
    obtain ⟨rfl, rfl⟩ := hrel
    go_wp2
    go_ret
    exact ⟨rfl, rfl⟩

/-- one stands ahead of another -/
abbrev Ahead (x la y lb : Int) : Prop := x < y ∨ (x = y ∧ la < lb)


theorem grow_two (w : World) (o o' : Obj) (s : Nat) : ((w.alloc o).alloc o').drewN s = Sort.grow (w.drewN s) #[o, o'] := by
  rw [Sort.alloc_eq_grow, Sort.alloc_eq_grow, Sort.grow_grow]; rfl

set_option maxHeartbeats 1000000 in
set_option maxRecDepth 20000 in
theorem ahead_any {w : World} {ka kb aa ab : Option Addr} {ca cb na nb da db : Nat} {la lb ra rb x y : Int} (ha : Has .u64 w ka 1 [x]) (hb : Has .u64 w kb 1 [y]) :
    Calls Try.prog 50 #[EV ka 1 ca none 0 0 la 0 ra aa na da, EV kb 1 cb none 0 0 lb 0 rb ab nb db] w fun e w' => GrowIs w w' (decide (Ahead x la y lb)) e := by
  have hb0 := bl_alloc (o := EC kb 1 cb none 0 0 lb 0 rb ab nb db) (bl_alloc (o := EC ka 1 ca none 0 0 la 0 ra aa na da) (Below.refl w.heap.size w))
  have HA := hid (ha.step hb0)
  have HB := hid (hb.step hb0)
  have HG : Hid (∀ s, ∃ q os, ((w.alloc (EC ka 1 ca none 0 0 la 0 ra aa na da)).alloc (EC kb 1 cb none 0 0 lb 0 rb ab nb db)).drewN s = Sort.grow (w.drewN q) os) := fun s => ⟨s, _, grow_two w _ _ s⟩
  clear ha hb hb0
  go_enter Try.func50, Try.ntmps50
  go_wp2_with fail
  refine (less_one _ _ HA.out HB.out).mono ?_
  rintro e w1 ⟨rfl, s, rfl⟩
  unfold lessOf
  have HGS := hid (HG.out s)
  by_cases h1 : x < y
  · rw [if_pos h1]
    have HE : decide (Ahead x la y lb) = true := decide_eq_true (.inl h1)
    clear HA HB HG h1
    go_wp2
    go_ret
    exact ⟨by rw [HE]; rfl, HGS.out⟩
  · rw [if_neg h1]
    by_cases h2 : y < x
    · rw [if_pos h2]
      have HE : decide (Ahead x la y lb) = false := decide_eq_false (by rintro (h | ⟨h, _⟩) <;> omega)
      clear HA HB HG h1 h2
      go_wp2
      go_ret
      exact ⟨by rw [HE]; rfl, HGS.out⟩
    · rw [if_neg h2]
      have hxy : x = y := by omega
      by_cases hl : la = lb
      · subst hl
        have HE : decide (Ahead x la y la) = false := decide_eq_false (by rintro (h | ⟨_, h⟩) <;> omega)
        have hll : (la != la) = false := by simp
        clear HA HB HG h1 h2 hxy
        go_wp2_with fail
        refine (less_nil _).mono ?_
        rintro e w2 ⟨rfl, rfl⟩
        go_wp2
        go_ret
        exact ⟨by rw [HE]; rfl, HGS.out⟩
      · have hll : (la != lb) = true := by simpa using hl
        have HE : decide (Ahead x la y lb) = decide (la < lb) := by rw [decide_eq_decide]; unfold Ahead; constructor <;> intro h <;> omega
        clear HA HB HG h1 h2 hxy hl
        go_wp2
        go_ret
        exact ⟨by rw [HE]; rfl, HGS.out⟩
end Go.Proofs.Ytlnkfgdepddmlac
