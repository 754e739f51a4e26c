/- (*machine).isReady. -/
import Derived.Test.YtmceifkjmknjcaaVSmall
import Derived.Deep.RegionHeld3
import Derived.Deep.RegionLaw
import Derived.Deep.AppendLies
import Derived.Deep.DeepCutAuto
namespace Go.Proofs.Ytmceifkjmknjcaa
open Go.RowKit

/-- whether all registers and slots that an instruction uses have something -/
def readyB (ts : List ShapeD) (m : MD) (x : InsD) : Bool :=
  if x.op = 2 ∨ x.op = 6 then m.rs x.s.toNat else if x.op = 3 ∨ x.op = 5 ∨ x.op = 10 ∨ x.op = 11 then m.rs x.r.toNat && m.rs x.s.toNat else if x.op = 4 ∨ x.op = 8 ∨ x.op = 9 ∨ x.op = 14 ∨ x.op = 15 ∨ x.op = 16 then m.rs x.r.toNat else if x.op = 7 then m.ss x.n.toNat else if x.op = 13 then (match ts[x.n.toNat]? with | none => true | some t => (List.range t.keys.toNat).all fun i => m.ss (x.s.toNat + i)) else true

/-- the registers and slots that it names are there -/
structure XOk (x : InsD) : Prop where
  r : 0 ≤ x.r ∧ x.r < 10
  s : x.op = 13 ∨ 0 ≤ x.s ∧ x.s < 10
  n : x.op = 7 ∨ x.op = 8 → 0 ≤ x.n ∧ x.n < 96
  op : 1 ≤ x.op ∧ x.op ≤ 18

theorem one_set (n : Int) (x : Bool) (w : World) : Calls Try.prog 34 #[.slice (some ⟨w.heap.size, 0, none⟩) 1 1] (w.alloc (.cells #[.int .u64 n, .bool x] 44)).drew (TellB x (w.alloc (.cells #[.int .u64 n, .bool x] 44)).drew) := by
  have h := vareSet (w := (w.alloc (.cells #[.int .u64 n, .bool x] 44)).drew) (a := some ⟨w.heap.size, 0, none⟩) (bs := [x]) 1 (fun i y hy => by
    cases i with
    | zero =>
      simp only [List.getElem?_cons_zero, Option.some.injEq] at hy
      subst hy
      exact ⟨w.heap.size, 0, n, rfl, by simp, by simp⟩
    | succ i => simp at hy) (by simp)
  simpa using h

theorem two_set (n : Int) (x : Bool) (n' : Int) (x' : Bool) (w : World) : Calls Try.prog 34 #[.slice (some ⟨w.heap.size, 0, none⟩) 2 2] (w.alloc (.cells #[.int .u64 n, .bool x, .int .u64 n', .bool x'] 44)).drew (TellB (x && x') (w.alloc (.cells #[.int .u64 n, .bool x, .int .u64 n', .bool x'] 44)).drew) := by
  have h := vareSet (w := (w.alloc (.cells #[.int .u64 n, .bool x, .int .u64 n', .bool x'] 44)).drew) (a := some ⟨w.heap.size, 0, none⟩) (bs := [x, x']) 2 (fun i y hy => by
    match i with
    | 0 =>
      simp only [List.getElem?_cons_zero, Option.some.injEq] at hy
      subst hy
      exact ⟨w.heap.size, 0, n, rfl, by simp, by simp⟩
    | 1 =>
      simp only [List.getElem?_cons_succ, List.getElem?_cons_zero, Option.some.injEq] at hy
      subst hy
      exact ⟨w.heap.size, 0, n', rfl, by simp, by simp⟩
    | i + 2 => simp at hy) (by simp)
  simpa using h

theorem vkeep3 {w w' : World} {a b c d e f : Nat} {x y z : Value} (h : w.cell? ⟨a, b, none⟩ = some x ∧ w.cell? ⟨c, d, none⟩ = some y ∧ w.cell? ⟨e, f, none⟩ = some z) (hb : Below w.heap.size w w') : w'.cell? ⟨a, b, none⟩ = some x ∧ w'.cell? ⟨c, d, none⟩ = some y ∧ w'.cell? ⟨e, f, none⟩ = some z := ⟨cell_keep h.1 hb, cell_keep h.2.1 hb, cell_keep h.2.2 hb⟩

theorem vkeep6 {w w' : World} {a b c d e f a' b' c' d' e' f' : Nat} {x y z x' y' z' : Value} (h : w.cell? ⟨a, b, none⟩ = some x ∧ w.cell? ⟨c, d, none⟩ = some y ∧ w.cell? ⟨e, f, none⟩ = some z ∧ w.cell? ⟨a', b', none⟩ = some x' ∧ w.cell? ⟨c', d', none⟩ = some y' ∧ w.cell? ⟨e', f', none⟩ = some z') (hb : Below w.heap.size w w') : w'.cell? ⟨a, b, none⟩ = some x ∧ w'.cell? ⟨c, d, none⟩ = some y ∧ w'.cell? ⟨e, f, none⟩ = some z ∧ w'.cell? ⟨a', b', none⟩ = some x' ∧ w'.cell? ⟨c', d', none⟩ = some y' ∧ w'.cell? ⟨e', f', none⟩ = some z' := ⟨cell_keep h.1 hb, cell_keep h.2.1 hb, cell_keep h.2.2.1 hb, cell_keep h.2.2.2.1 hb, cell_keep h.2.2.2.2.1 hb, cell_keep h.2.2.2.2.2 hb⟩

set_option maxHeartbeats 4000000 in
set_option maxRecDepth 20000 in
theorem vready {W : World} {b : Nat} {k : MK} {m : MD} {w : World} (ts : List ShapeD) (h : MAt W b k m w) (x : InsD) (hx : XOk x) (h13 : x.op ≠ 13) : Calls Try.prog 20 #[mptr b, x.v] w (TellB (readyB ts m x) w) := by
  obtain ⟨op, r, s, kk, tt, n⟩ := x
  obtain ⟨hr, hs, hn, hop⟩ := hx
  dsimp only at hr hs hn h13 hop
  replace hs := hs.resolve_left h13
  obtain ⟨r, rfl⟩ : ∃ i : Nat, r = i := ⟨r.toNat, by omega⟩
  obtain ⟨s, rfl⟩ : ∃ i : Nat, s = i := ⟨s.toNat, by omega⟩
  obtain ⟨W1, hW1⟩ : ∃ W1, W1 = w.alloc (.cells #[.int .i64 op, .int .i64 (r : Int), .int .i64 (s : Int), .int .i64 kk, .int .i64 tt, .int .u64 n] 40) := ⟨_, rfl⟩
  obtain ⟨ib, hib⟩ : ∃ b, b = w.heap.size := ⟨_, rfl⟩
  have b1 : Below w.heap.size w W1 := by rw [hW1]; exact bl_alloc (Below.refl _ _)
  have IB : IBox ⟨op, r, s, kk, tt, n⟩ W1 ib := by rw [hW1, hib]; exact ibox_new ⟨op, r, s, kk, tt, n⟩ w
  obtain ⟨i0, i1, i2, i3, i4, i5⟩ := IB
  dsimp only at i0 i1 i2 i3 i4 i5
  have h1 := h.step b1
  have r0 := h1.rn r (by omega)
  have r1 := h1.rs r (by omega)
  have s0 := h1.rn s (by omega)
  have s1 := h1.rs s (by omega)
  have hl := h1.lt
  have hil : ib < W1.heap.size := World.block_lt_of_cell? _ _ i0
  have hri : (r : Int) < 10 := by omega
  have hsi : (s : Int) < 10 := by omega
  have HO := hid (fun n x w => one_set n x w)
  have HTW := hid (fun n x n' x' w => two_set n x n' x' w)
  have HB := hid b1
  have EW := hid hW1
  have EB := hid hib
  have HT : Hid (∀ q w', q = readyB ts m ⟨op, r, s, kk, tt, n⟩ → Below w.heap.size w w' → TellB (readyB ts m ⟨op, r, s, kk, tt, n⟩) w (.returned (.bool q)) w') := fun q w' e h => ⟨by rw [e], h⟩
  dsimp only [InsD.v]
  by_cases q2 : op = 2 ∨ op = 6
  · have E : Hid (m.rs s = readyB ts m ⟨op, r, s, kk, tt, n⟩) := by
      show _ = _
      unfold readyB
      dsimp only
      rw [if_pos q2, Int.toNat_natCast]
    generalize m.rs s = X at *
    generalize m.rn s = Y at *
    clear hW1 hib b1 h h1 r0 r1 i1 i3 i4 i5 hn hr hs hop HTW
    rcases q2 with rfl | rfl
    all_goals
      go_enter Try.func20, Try.ntmps20
      go_upto_region 1 with fail
      rw [← EW.out, ← EB.out]
      clear EW EB
      go_wp2_with fail
      go_region_held3 (fun w' => w'.cell? ⟨ib, 2, none⟩ = some (.int .i64 (s : Int)) ∧ w'.cell? ⟨b, s * 2, none⟩ = some (.int .u64 (Y : Int)) ∧ w'.cell? ⟨b, s * 2 + 1, none⟩ = some (.bool X))
        (first
          | go_keep
          | (go_split_ands; with_reducible exact vkeep3 ⟨by assumption, by assumption, by assumption⟩ (bl_alloc (Below.refl _ _)).drew)
          | (go_split_ands; with_reducible exact vkeep3 ⟨by assumption, by assumption, by assumption⟩ hbx))
        (first | (go_at_call 34; refine (HO.out _ _ _).mono ?_; rintro e wx ⟨rfl, hbx⟩))
      all_goals
        have HE := hid (bl_step (bl_step HB.out (bl_alloc (Below.refl W1.heap.size W1)).drew) hbx)
        clear hbx
        go_wp2
        go_ret
        exact HT.out _ _ E.out HE.out
  by_cases q3 : op = 3 ∨ op = 5 ∨ op = 10 ∨ op = 11
  · have E : Hid ((m.rs r && m.rs s) = readyB ts m ⟨op, r, s, kk, tt, n⟩) := by
      show _ = _
      unfold readyB
      dsimp only
      rw [if_neg q2, if_pos q3, Int.toNat_natCast, Int.toNat_natCast]
    generalize m.rs s = X at *
    generalize m.rn s = Y at *
    generalize m.rs r = X2 at *
    generalize m.rn r = Y2 at *
    clear hW1 hib b1 h h1 i3 i4 i5 hn hr hs hop HO q2
    rcases q3 with rfl | rfl | rfl | rfl
    all_goals
      go_enter Try.func20, Try.ntmps20
      go_upto_region 1 with fail
      rw [← EW.out, ← EB.out]
      clear EW EB
      go_wp2_with fail
      go_region_held3 (fun w' => w'.cell? ⟨ib, 1, none⟩ = some (.int .i64 (r : Int)) ∧ w'.cell? ⟨ib, 2, none⟩ = some (.int .i64 (s : Int)) ∧ w'.cell? ⟨b, r * 2, none⟩ = some (.int .u64 (Y2 : Int)) ∧ w'.cell? ⟨b, r * 2 + 1, none⟩ = some (.bool X2) ∧ w'.cell? ⟨b, s * 2, none⟩ = some (.int .u64 (Y : Int)) ∧ w'.cell? ⟨b, s * 2 + 1, none⟩ = some (.bool X))
        (first
          | go_keep
          | (go_split_ands; with_reducible exact vkeep6 ⟨by assumption, by assumption, by assumption, by assumption, by assumption, by assumption⟩ (bl_alloc (Below.refl _ _)).drew)
          | (go_split_ands; with_reducible exact vkeep6 ⟨by assumption, by assumption, by assumption, by assumption, by assumption, by assumption⟩ hbx))
        (first | (go_at_call 34; refine (HTW.out _ _ _ _ _).mono ?_; rintro e wx ⟨rfl, hbx⟩))
      all_goals
        have HE := hid (bl_step (bl_step HB.out (bl_alloc (Below.refl W1.heap.size W1)).drew) hbx)
        clear hbx
        go_wp2
        go_ret
        exact HT.out _ _ E.out HE.out
  by_cases q4 : op = 4 ∨ op = 8 ∨ op = 9 ∨ op = 14 ∨ op = 15 ∨ op = 16
  · have E : Hid (m.rs r = readyB ts m ⟨op, r, s, kk, tt, n⟩) := by
      show _ = _
      unfold readyB
      dsimp only
      rw [if_neg q2, if_neg q3, if_pos q4, Int.toNat_natCast]
    generalize m.rs r = X at *
    generalize m.rn r = Y at *
    clear hW1 hib b1 h h1 s0 s1 i2 i3 i4 i5 hn hr hs hop HTW q2 q3
    rcases q4 with rfl | rfl | rfl | rfl | rfl | rfl
    all_goals
      go_enter Try.func20, Try.ntmps20
      go_upto_region 1 with fail
      rw [← EW.out, ← EB.out]
      clear EW EB
      go_wp2_with fail
      go_region_held3 (fun w' => w'.cell? ⟨ib, 1, none⟩ = some (.int .i64 (r : Int)) ∧ w'.cell? ⟨b, r * 2, none⟩ = some (.int .u64 (Y : Int)) ∧ w'.cell? ⟨b, r * 2 + 1, none⟩ = some (.bool X))
        (first
          | go_keep
          | (go_split_ands; with_reducible exact vkeep3 ⟨by assumption, by assumption, by assumption⟩ (bl_alloc (Below.refl _ _)).drew)
          | (go_split_ands; with_reducible exact vkeep3 ⟨by assumption, by assumption, by assumption⟩ hbx))
        (first | (go_at_call 34; refine (HO.out _ _ _).mono ?_; rintro e wx ⟨rfl, hbx⟩))
      all_goals
        have HE := hid (bl_step (bl_step HB.out (bl_alloc (Below.refl W1.heap.size W1)).drew) hbx)
        clear hbx
        go_wp2
        go_ret
        exact HT.out _ _ E.out HE.out
  by_cases q7 : op = 7
  · have hn7 := hn (.inl q7)
    obtain ⟨n, rfl⟩ : ∃ i : Nat, n = i := ⟨n.toNat, by omega⟩
    have n0 := h1.sn n (by omega)
    have n1 := h1.ss n (by omega)
    have hni : (n : Int) < 96 := by omega
    have E : Hid (m.ss n = readyB ts m ⟨op, r, s, kk, tt, n⟩) := by
      show _ = _
      unfold readyB
      dsimp only
      rw [if_neg q2, if_neg q3, if_neg q4, if_pos q7, Int.toNat_natCast]
    generalize m.ss n = X at *
    generalize m.sn n = Y at *
    clear hW1 hib b1 h h1 s0 s1 r0 r1 i1 i2 i3 i4 hn hr hs hop HTW q2 q3 q4 hn7 hri hsi
    subst q7
    go_enter Try.func20, Try.ntmps20
    go_upto_region 1 with fail
    rw [← EW.out, ← EB.out]
    clear EW EB
    go_wp2_with fail
    go_region_held3 (fun w' => w'.cell? ⟨ib, 5, none⟩ = some (.int .u64 (n : Int)) ∧ w'.cell? ⟨b, 20 + n * 2, none⟩ = some (.int .u64 (Y : Int)) ∧ w'.cell? ⟨b, 20 + n * 2 + 1, none⟩ = some (.bool X))
      (first
        | go_keep
        | (go_split_ands; with_reducible exact vkeep3 ⟨by assumption, by assumption, by assumption⟩ (bl_alloc (Below.refl _ _)).drew)
        | (go_split_ands; with_reducible exact vkeep3 ⟨by assumption, by assumption, by assumption⟩ hbx))
      (first | (go_at_call 34; refine (HO.out _ _ _).mono ?_; rintro e wx ⟨rfl, hbx⟩))
    all_goals
      have HE := hid (bl_step (bl_step HB.out (bl_alloc (Below.refl W1.heap.size W1)).drew) hbx)
      clear hbx
      go_wp2
      go_ret
      exact HT.out _ _ E.out HE.out
  have E : Hid (true = readyB ts m ⟨op, r, s, kk, tt, n⟩) := by
    show _ = _
    unfold readyB
    dsimp only
    rw [if_neg q2, if_neg q3, if_neg q4, if_neg q7, if_neg h13]
  have q : op = 1 ∨ op = 12 ∨ op = 17 ∨ op = 18 := by omega
  clear hW1 hib b1 h h1 s0 s1 r0 r1 i1 i2 i3 i4 i5 hn hr hs hop HTW HO q2 q3 q4 q7
  rcases q with rfl | rfl | rfl | rfl
  all_goals
    go_enter Try.func20, Try.ntmps20
    go_upto_region 1 with fail
    rw [← EW.out, ← EB.out]
    clear EW EB
    go_wp2
    go_ret
    exact HT.out _ _ E.out HB.out
end Go.Proofs.Ytmceifkjmknjcaa
