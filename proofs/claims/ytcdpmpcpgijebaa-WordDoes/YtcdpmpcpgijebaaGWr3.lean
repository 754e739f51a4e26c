/- The writer of programs: tables, instructions, all. -/
import Derived.Test.YtcdpmpcpgijebaaGWr2
import Derived.Test.YtcdpmpcpgijebaaGChk
namespace Go.Proofs.Ytcdpmpcpgijebaa
open Go.RowKit

theorem gbox_cell {w : World} {b : Nat} {cs : Array Value} {T : TypeId} {f : Nat × Nat} (h : w.heap[b]? = some (.cells cs T f)) (i : Nat) : w.cell? ⟨b, i, none⟩ = cs[i]? := by simp [World.cell?, h]
theorem galloc_at (w : World) (cs : Array Value) (T : TypeId) : (w.alloc (.cells cs T)).heap[w.heap.size]? = some (.cells cs T (0, 0)) := heap_alloc_new w _
theorem GWr.pl {B p : Nat} {bs : List Int} {w : World} (h : GWr B p bs w) : p < w.heap.size := h.at.elim fun _ ⟨_, _, _, h, _⟩ => h
theorem GWr.bl {B p : Nat} {bs : List Int} {w : World} (h : GWr B p bs w) : B ≤ w.heap.size := by have := h.pl; have := h.low; omega

set_option maxHeartbeats 1000000 in
set_option maxRecDepth 20000 in
theorem gnumber (B p : Nat) (bs : List Int) (n size : Nat) (w : World) (hn : n < 9223372036854775808) (h8 : size ≤ 8) (h : GWr B p bs w) (hl : bs.length + size ≤ 9000000) :
    Calls Try.prog 31 #[.pointer (some ⟨p, 0, none⟩), .int .i64 n, .int .i64 size] w (GWDone B p (bs ++ bigL size n) w) := by
  have HP := hid (gwhole B p bs n size w (by omega) h8 h hl)
  have hw := gwrap_u (n : Int) (by omega) (by omega)
  clear h hl hn h8
  go_enter Try.func31, Try.ntmps31
  go_wp2_with fail
  refine HP.out.mono ?_
  rintro e w1 ⟨rfl, h⟩
  have HE : Hid (GWDone B p (bs ++ bigL size n) w (.returned (.tuple #[])) w1) := ⟨rfl, h⟩
  clear HP h hw
  go_wp2
  go_end0
  exact HE.out

def tabL (t : ShapeD) : List Int := bigL 1 t.keys.toNat ++ bigL 1 t.acts.toNat ++ bigL 1 t.args.toNat
def insL (x : InsD) : List Int := bigL 1 x.op.toNat ++ bigL 1 x.r.toNat ++ bigL 1 x.s.toNat ++ bigL 1 x.k.toNat ++ bigL 2 x.to.toNat ++ bigL 8 x.n.toNat
theorem tabL_len (t : ShapeD) : (tabL t).length = 3 := by simp [tabL, bigL_len]
theorem insL_len (x : InsD) : (insL x).length = 14 := by simp [insL, bigL_len]
def progL (slots : Int) (ts : List ShapeD) (cs : List InsD) : List Int := bigL 1 slots.toNat ++ bigL 1 ts.length ++ ts.flatMap tabL ++ bigL 2 cs.length ++ cs.flatMap insL
def ShapeD.plus (t : ShapeD) : Prop := 0 ≤ t.keys ∧ 0 ≤ t.acts ∧ 0 ≤ t.args
def InsD.plus (x : InsD) : Prop := 0 ≤ x.op ∧ 0 ≤ x.r ∧ 0 ≤ x.s ∧ 0 ≤ x.k ∧ 0 ≤ x.to ∧ 0 ≤ x.n

set_option maxHeartbeats 2000000 in
set_option maxRecDepth 20000 in
theorem gwtable_n (B p : Nat) (bs : List Int) (z0 z1 z2 : Nat) (w : World) (h0 : z0 < 9223372036854775808) (h1 : z1 < 9223372036854775808) (h2 : z2 < 9223372036854775808) (h : GWr B p bs w) (hl : bs.length + 3 ≤ 9000000) :
    Calls Try.prog 32 #[.pointer (some ⟨p, 0, none⟩), .agg #[.int .i64 (z0 : Int), .int .i64 (z1 : Int), .int .i64 (z2 : Int)]] w (GWDone B p (bs ++ (bigL 1 z0 ++ bigL 1 z1 ++ bigL 1 z2)) w) := by
  obtain ⟨W1, hW1⟩ : ∃ W1, W1 = w.alloc (.cells #[.int .i64 (z0 : Int), .int .i64 (z1 : Int), .int .i64 (z2 : Int)] 50) := ⟨_, rfl⟩
  obtain ⟨bx, hbx⟩ : ∃ b, b = w.heap.size := ⟨_, rfl⟩
  have HX0 : Hid (W1.heap[bx]? = some (.cells #[.int .i64 (z0 : Int), .int .i64 (z1 : Int), .int .i64 (z2 : Int)] 50 (0, 0))) := by show _ = _; rw [hW1, hbx]; exact galloc_at _ _ _
  have b1 : Below w.heap.size w W1 := by rw [hW1]; exact bl_alloc (Below.refl _ _)
  have HW0 := hid (h.step b1)
  have HB0 := hid (b1.mono h.bl)
  have HF0 : Hid (GFram p w W1) := GFram.below b1
  have hne : bx ≠ p := by have := h.pl; omega
  have HNE := hid hne
  have EW := hid hW1
  have EX := hid hbx
  have HL := hid hl
  have HZ0 := hid h0
  have HZ1 := hid h1
  have HZ2 := hid h2
  clear h b1 hne hW1 hbx hl h0 h1 h2
  have HC0 := hid (gnumber B p _ z0 1 W1 HZ0.out (by decide) HW0.out (by have := HL.out; (try simp only [List.length_append, bigL_len]); omega))
  go_enter Try.func32, Try.ntmps32
  go_wp2_with fail
  rw [← EW.out, ← EX.out]
  clear EW EX
  refine HC0.out.mono ?_
  rintro e w2 ⟨rfl, r1, r2, r3⟩
  have HW1 := hid r1
  have HB1 := hid (HB0.out.trans r2)
  have HF1 := hid (HF0.out.trans r3)
  have HX1 : Hid (w2.heap[bx]? = some (.cells #[.int .i64 (z0 : Int), .int .i64 (z1 : Int), .int .i64 (z2 : Int)] 50 (0, 0))) := r3.2 bx _ _ _ HNE.out (by decide) HX0.out
  clear r1 r2 r3 HC0 HW0 HB0 HF0 HX0
  have HC1 := hid (gnumber B p _ z1 1 w2 HZ1.out (by decide) HW1.out (by have := HL.out; (try simp only [List.length_append, bigL_len]); omega))
  have c0 := gbox_cell HX1.out 0
  have c1 := gbox_cell HX1.out 1
  have c2 := gbox_cell HX1.out 2
  go_wp2_with fail
  clear c0 c1 c2
  refine HC1.out.mono ?_
  rintro e w3 ⟨rfl, r1, r2, r3⟩
  have HW2 := hid r1
  have HB2 := hid (HB1.out.trans r2)
  have HF2 := hid (HF1.out.trans r3)
  have HX2 : Hid (w3.heap[bx]? = some (.cells #[.int .i64 (z0 : Int), .int .i64 (z1 : Int), .int .i64 (z2 : Int)] 50 (0, 0))) := r3.2 bx _ _ _ HNE.out (by decide) HX1.out
  clear r1 r2 r3 HC1 HW1 HB1 HF1 HX1
  have HC2 := hid (gnumber B p _ z2 1 w3 HZ2.out (by decide) HW2.out (by have := HL.out; (try simp only [List.length_append, bigL_len]); omega))
  have c0 := gbox_cell HX2.out 0
  have c1 := gbox_cell HX2.out 1
  have c2 := gbox_cell HX2.out 2
  go_wp2_with fail
  clear c0 c1 c2
  refine HC2.out.mono ?_
  rintro e w4 ⟨rfl, r1, r2, r3⟩
  have HW3 := hid r1
  have HB3 := hid (HB2.out.trans r2)
  have HF3 := hid (HF2.out.trans r3)
  clear r1 r2 r3 HC2 HW2 HB2 HF2 HX2
  have HE : Hid (GWDone B p (bs ++ (bigL 1 z0 ++ bigL 1 z1 ++ bigL 1 z2)) w (.returned (.tuple #[])) w4) := ⟨rfl, by have := HW3.out; simpa only [List.append_assoc] using this, HB3.out, HF3.out⟩
  clear HW3 HB3 HF3
  go_wp2
  go_end0
  exact HE.out

theorem gwtable (B p : Nat) (bs : List Int) (x : ShapeD) (w : World) (hx : x.wf) (hp : x.plus) (h : GWr B p bs w) (hl : bs.length + 3 ≤ 9000000) : Calls Try.prog 32 #[.pointer (some ⟨p, 0, none⟩), x.v] w (GWDone B p (bs ++ tabL x) w) := by
  obtain ⟨y0, y1, y2⟩ := x
  obtain ⟨p0, p1, p2⟩ := hp
  obtain ⟨q0, q1, q2⟩ := hx
  dsimp only at p0 p1 p2 q0 q1 q2
  have t0 := bounds_i64 q0
  obtain ⟨z0, rfl⟩ : ∃ z : Nat, y0 = (z : Int) := ⟨y0.toNat, by omega⟩
  have t1 := bounds_i64 q1
  obtain ⟨z1, rfl⟩ : ∃ z : Nat, y1 = (z : Int) := ⟨y1.toNat, by omega⟩
  have t2 := bounds_i64 q2
  obtain ⟨z2, rfl⟩ : ∃ z : Nat, y2 = (z : Int) := ⟨y2.toNat, by omega⟩
  exact gwtable_n B p bs z0 z1 z2 w (by omega) (by omega) (by omega) h hl

set_option maxHeartbeats 2000000 in
set_option maxRecDepth 20000 in
theorem gwins_n (B p : Nat) (bs : List Int) (z0 z1 z2 z3 z4 z5 : Nat) (w : World) (h0 : z0 < 9223372036854775808) (h1 : z1 < 9223372036854775808) (h2 : z2 < 9223372036854775808) (h3 : z3 < 9223372036854775808) (h4 : z4 < 9223372036854775808) (h5 : z5 < 18446744073709551616) (h : GWr B p bs w) (hl : bs.length + 14 ≤ 9000000) :
    Calls Try.prog 33 #[.pointer (some ⟨p, 0, none⟩), .agg #[.int .i64 (z0 : Int), .int .i64 (z1 : Int), .int .i64 (z2 : Int), .int .i64 (z3 : Int), .int .i64 (z4 : Int), .int .u64 (z5 : Int)]] w (GWDone B p (bs ++ (bigL 1 z0 ++ bigL 1 z1 ++ bigL 1 z2 ++ bigL 1 z3 ++ bigL 2 z4 ++ bigL 8 z5)) w) := by
  obtain ⟨W1, hW1⟩ : ∃ W1, W1 = w.alloc (.cells #[.int .i64 (z0 : Int), .int .i64 (z1 : Int), .int .i64 (z2 : Int), .int .i64 (z3 : Int), .int .i64 (z4 : Int), .int .u64 (z5 : Int)] 47) := ⟨_, rfl⟩
  obtain ⟨bx, hbx⟩ : ∃ b, b = w.heap.size := ⟨_, rfl⟩
  have HX0 : Hid (W1.heap[bx]? = some (.cells #[.int .i64 (z0 : Int), .int .i64 (z1 : Int), .int .i64 (z2 : Int), .int .i64 (z3 : Int), .int .i64 (z4 : Int), .int .u64 (z5 : Int)] 47 (0, 0))) := by show _ = _; rw [hW1, hbx]; exact galloc_at _ _ _
  have b1 : Below w.heap.size w W1 := by rw [hW1]; exact bl_alloc (Below.refl _ _)
  have HW0 := hid (h.step b1)
  have HB0 := hid (b1.mono h.bl)
  have HF0 : Hid (GFram p w W1) := GFram.below b1
  have hne : bx ≠ p := by have := h.pl; omega
  have HNE := hid hne
  have EW := hid hW1
  have EX := hid hbx
  have HL := hid hl
  have HZ0 := hid h0
  have HZ1 := hid h1
  have HZ2 := hid h2
  have HZ3 := hid h3
  have HZ4 := hid h4
  have HZ5 := hid h5
  clear h b1 hne hW1 hbx hl h0 h1 h2 h3 h4 h5
  have HC0 := hid (gnumber B p _ z0 1 W1 HZ0.out (by decide) HW0.out (by have := HL.out; (try simp only [List.length_append, bigL_len]); omega))
  go_enter Try.func33, Try.ntmps33
  go_wp2_with fail
  rw [← EW.out, ← EX.out]
  clear EW EX
  refine HC0.out.mono ?_
  rintro e w2 ⟨rfl, r1, r2, r3⟩
  have HW1 := hid r1
  have HB1 := hid (HB0.out.trans r2)
  have HF1 := hid (HF0.out.trans r3)
  have HX1 : Hid (w2.heap[bx]? = some (.cells #[.int .i64 (z0 : Int), .int .i64 (z1 : Int), .int .i64 (z2 : Int), .int .i64 (z3 : Int), .int .i64 (z4 : Int), .int .u64 (z5 : Int)] 47 (0, 0))) := r3.2 bx _ _ _ HNE.out (by decide) HX0.out
  clear r1 r2 r3 HC0 HW0 HB0 HF0 HX0
  have HC1 := hid (gnumber B p _ z1 1 w2 HZ1.out (by decide) HW1.out (by have := HL.out; (try simp only [List.length_append, bigL_len]); omega))
  have c0 := gbox_cell HX1.out 0
  have c1 := gbox_cell HX1.out 1
  have c2 := gbox_cell HX1.out 2
  have c3 := gbox_cell HX1.out 3
  have c4 := gbox_cell HX1.out 4
  have c5 := gbox_cell HX1.out 5
  go_wp2_with fail
  clear c0 c1 c2 c3 c4 c5
  refine HC1.out.mono ?_
  rintro e w3 ⟨rfl, r1, r2, r3⟩
  have HW2 := hid r1
  have HB2 := hid (HB1.out.trans r2)
  have HF2 := hid (HF1.out.trans r3)
  have HX2 : Hid (w3.heap[bx]? = some (.cells #[.int .i64 (z0 : Int), .int .i64 (z1 : Int), .int .i64 (z2 : Int), .int .i64 (z3 : Int), .int .i64 (z4 : Int), .int .u64 (z5 : Int)] 47 (0, 0))) := r3.2 bx _ _ _ HNE.out (by decide) HX1.out
  clear r1 r2 r3 HC1 HW1 HB1 HF1 HX1
  have HC2 := hid (gnumber B p _ z2 1 w3 HZ2.out (by decide) HW2.out (by have := HL.out; (try simp only [List.length_append, bigL_len]); omega))
  have c0 := gbox_cell HX2.out 0
  have c1 := gbox_cell HX2.out 1
  have c2 := gbox_cell HX2.out 2
  have c3 := gbox_cell HX2.out 3
  have c4 := gbox_cell HX2.out 4
  have c5 := gbox_cell HX2.out 5
  go_wp2_with fail
  clear c0 c1 c2 c3 c4 c5
  refine HC2.out.mono ?_
  rintro e w4 ⟨rfl, r1, r2, r3⟩
  have HW3 := hid r1
  have HB3 := hid (HB2.out.trans r2)
  have HF3 := hid (HF2.out.trans r3)
  have HX3 : Hid (w4.heap[bx]? = some (.cells #[.int .i64 (z0 : Int), .int .i64 (z1 : Int), .int .i64 (z2 : Int), .int .i64 (z3 : Int), .int .i64 (z4 : Int), .int .u64 (z5 : Int)] 47 (0, 0))) := r3.2 bx _ _ _ HNE.out (by decide) HX2.out
  clear r1 r2 r3 HC2 HW2 HB2 HF2 HX2
  have HC3 := hid (gnumber B p _ z3 1 w4 HZ3.out (by decide) HW3.out (by have := HL.out; (try simp only [List.length_append, bigL_len]); omega))
  have c0 := gbox_cell HX3.out 0
  have c1 := gbox_cell HX3.out 1
  have c2 := gbox_cell HX3.out 2
  have c3 := gbox_cell HX3.out 3
  have c4 := gbox_cell HX3.out 4
  have c5 := gbox_cell HX3.out 5
  go_wp2_with fail
  clear c0 c1 c2 c3 c4 c5
  refine HC3.out.mono ?_
  rintro e w5 ⟨rfl, r1, r2, r3⟩
  have HW4 := hid r1
  have HB4 := hid (HB3.out.trans r2)
  have HF4 := hid (HF3.out.trans r3)
  have HX4 : Hid (w5.heap[bx]? = some (.cells #[.int .i64 (z0 : Int), .int .i64 (z1 : Int), .int .i64 (z2 : Int), .int .i64 (z3 : Int), .int .i64 (z4 : Int), .int .u64 (z5 : Int)] 47 (0, 0))) := r3.2 bx _ _ _ HNE.out (by decide) HX3.out
  clear r1 r2 r3 HC3 HW3 HB3 HF3 HX3
  have HC4 := hid (gnumber B p _ z4 2 w5 HZ4.out (by decide) HW4.out (by have := HL.out; (try simp only [List.length_append, bigL_len]); omega))
  have c0 := gbox_cell HX4.out 0
  have c1 := gbox_cell HX4.out 1
  have c2 := gbox_cell HX4.out 2
  have c3 := gbox_cell HX4.out 3
  have c4 := gbox_cell HX4.out 4
  have c5 := gbox_cell HX4.out 5
  go_wp2_with fail
  clear c0 c1 c2 c3 c4 c5
  refine HC4.out.mono ?_
  rintro e w6 ⟨rfl, r1, r2, r3⟩
  have HW5 := hid r1
  have HB5 := hid (HB4.out.trans r2)
  have HF5 := hid (HF4.out.trans r3)
  have HX5 : Hid (w6.heap[bx]? = some (.cells #[.int .i64 (z0 : Int), .int .i64 (z1 : Int), .int .i64 (z2 : Int), .int .i64 (z3 : Int), .int .i64 (z4 : Int), .int .u64 (z5 : Int)] 47 (0, 0))) := r3.2 bx _ _ _ HNE.out (by decide) HX4.out
  clear r1 r2 r3 HC4 HW4 HB4 HF4 HX4
  have HC5 := hid (gwhole B p _ z5 8 w6 HZ5.out (by decide) HW5.out (by have := HL.out; (try simp only [List.length_append, bigL_len]); omega))
  have c0 := gbox_cell HX5.out 0
  have c1 := gbox_cell HX5.out 1
  have c2 := gbox_cell HX5.out 2
  have c3 := gbox_cell HX5.out 3
  have c4 := gbox_cell HX5.out 4
  have c5 := gbox_cell HX5.out 5
  go_wp2_with fail
  clear c0 c1 c2 c3 c4 c5
  refine HC5.out.mono ?_
  rintro e w7 ⟨rfl, r1, r2, r3⟩
  have HW6 := hid r1
  have HB6 := hid (HB5.out.trans r2)
  have HF6 := hid (HF5.out.trans r3)
  clear r1 r2 r3 HC5 HW5 HB5 HF5 HX5
  have HE : Hid (GWDone B p (bs ++ (bigL 1 z0 ++ bigL 1 z1 ++ bigL 1 z2 ++ bigL 1 z3 ++ bigL 2 z4 ++ bigL 8 z5)) w (.returned (.tuple #[])) w7) := ⟨rfl, by have := HW6.out; simpa only [List.append_assoc] using this, HB6.out, HF6.out⟩
  clear HW6 HB6 HF6
  go_wp2
  go_end0
  exact HE.out

theorem gwins (B p : Nat) (bs : List Int) (x : InsD) (w : World) (hx : x.wf) (hp : x.plus) (h : GWr B p bs w) (hl : bs.length + 14 ≤ 9000000) : Calls Try.prog 33 #[.pointer (some ⟨p, 0, none⟩), x.v] w (GWDone B p (bs ++ insL x) w) := by
  obtain ⟨y0, y1, y2, y3, y4, y5⟩ := x
  obtain ⟨p0, p1, p2, p3, p4, p5⟩ := hp
  obtain ⟨q0, q1, q2, q3, q4, q5⟩ := hx
  dsimp only at p0 p1 p2 p3 p4 p5 q0 q1 q2 q3 q4 q5
  have t0 := bounds_i64 q0
  obtain ⟨z0, rfl⟩ : ∃ z : Nat, y0 = (z : Int) := ⟨y0.toNat, by omega⟩
  have t1 := bounds_i64 q1
  obtain ⟨z1, rfl⟩ : ∃ z : Nat, y1 = (z : Int) := ⟨y1.toNat, by omega⟩
  have t2 := bounds_i64 q2
  obtain ⟨z2, rfl⟩ : ∃ z : Nat, y2 = (z : Int) := ⟨y2.toNat, by omega⟩
  have t3 := bounds_i64 q3
  obtain ⟨z3, rfl⟩ : ∃ z : Nat, y3 = (z : Int) := ⟨y3.toNat, by omega⟩
  have t4 := bounds_i64 q4
  obtain ⟨z4, rfl⟩ : ∃ z : Nat, y4 = (z : Int) := ⟨y4.toNat, by omega⟩
  have t5 := bounds_u64 q5
  obtain ⟨z5, rfl⟩ : ∃ z : Nat, y5 = (z : Int) := ⟨y5.toNat, by omega⟩
  exact gwins_n B p bs z0 z1 z2 z3 z4 z5 w (by omega) (by omega) (by omega) (by omega) (by omega) (by omega) h hl


theorem gflat_take {α : Type} {f : α → List Int} {S : List α} {k : Nat} {x : α} (h : S[k]? = some x) : (S.take (k + 1)).flatMap f = (S.take k).flatMap f ++ f x := by
  rw [List.take_add_one, h]
  simp
theorem gflat_len {α : Type} (f : α → List Int) (m : Nat) (h : ∀ x, (f x).length = m) (S : List α) : (S.flatMap f).length = m * S.length := by
  induction S with
  | nil => simp
  | cons x S ih => rw [List.flatMap_cons, List.length_append, ih, h, List.length_cons, Nat.mul_succ, Nat.add_comm]

set_option maxHeartbeats 4000000 in
set_option maxRecDepth 20000 in
theorem gwprog (W0 : World) (p : Nat) (bs : List Int) (d : ProgD) (w : World) (h : GWr W0.heap.size p bs w) (hw0 : Below W0.heap.size W0 w) (hl : d.lie W0) (hm : d.small) (h0 : 0 ≤ d.slots) (hb : bs.length ≤ 1000) (hts : ∀ t ∈ d.ts, t.plus) (hcs : ∀ x ∈ d.cs, x.plus) :
    Calls Try.prog 21 #[.pointer (some ⟨p, 0, none⟩), d.v] w (GWDone W0.heap.size p (bs ++ progL d.slots d.ts d.cs) w) := by
  have e1 : d.ts.length = d.tabs.n := hl.t.1
  have e2 : d.cs.length = d.code.n := hl.c.1
  obtain ⟨hm1, hm2⟩ := hm
  have hsl := bounds_i64 hl.ws
  obtain ⟨z, hz⟩ : ∃ z : Nat, d.slots = (z : Int) := ⟨d.slots.toNat, by omega⟩
  have EL : progL d.slots d.ts d.cs = bigL 1 z ++ bigL 1 d.tabs.n ++ d.ts.flatMap tabL ++ bigL 2 d.code.n ++ d.cs.flatMap insL := by
    unfold progL
    rw [e1, e2, hz, Int.toNat_natCast]
  obtain ⟨W1, hW1⟩ : ∃ W1, W1 = w.alloc (.cells #[.int .i64 (z : Int), .slice d.tabs.a d.tabs.n d.tabs.c, .slice d.code.a d.code.n d.code.c] 25) := ⟨_, rfl⟩
  obtain ⟨bx, hbx⟩ : ∃ b, b = w.heap.size := ⟨_, rfl⟩
  have HX0 : Hid (W1.heap[bx]? = some (.cells #[.int .i64 (z : Int), .slice d.tabs.a d.tabs.n d.tabs.c, .slice d.code.a d.code.n d.code.c] 25 (0, 0))) := by show _ = _; rw [hW1, hbx]; exact galloc_at _ _ _
  have b1 : Below w.heap.size w W1 := by rw [hW1]; exact bl_alloc (Below.refl _ _)
  have HW0 := hid (h.step b1)
  have HB0 := hid (b1.mono h.bl)
  have HF0 : Hid (GFram p w W1) := GFram.below b1
  have HNE : Hid (bx ≠ p) := by have := h.pl; show bx ≠ p; omega
  have EW := hid hW1
  have EX := hid hbx
  have HL := hid hl
  have HW := hid hw0
  have HT := hid hts
  have HS := hid hcs
  have HBS := hid hb
  have E1 := hid e1
  have E2 := hid e2
  have HC0 := hid (gnumber W0.heap.size p bs z 1 W1 (by omega) (by decide) HW0.out (by omega))
  have M1 := hid hm1
  have M2 := hid hm2
  rw [EL]
  dsimp only [ProgD.v]
  rw [hz]
  clear h b1 hW1 hbx hl hw0 hts hcs hb e1 e2 h0 hsl EL hz
  go_enter Try.func21, Try.ntmps21
  go_wp2_with fail
  rw [← EW.out, ← EX.out]
  clear EW EX
  refine HC0.out.mono ?_
  rintro e w2 ⟨rfl, r1, r2, r3⟩
  have HW1 := hid r1
  have HB1 := hid (HB0.out.trans r2)
  have HF1 := hid (HF0.out.trans r3)
  have HX1 : Hid (w2.heap[bx]? = some (.cells #[.int .i64 (z : Int), .slice d.tabs.a d.tabs.n d.tabs.c, .slice d.code.a d.code.n d.code.c] 25 (0, 0))) := r3.2 bx _ _ _ HNE.out (by decide) HX0.out
  have HC1 := hid (gnumber W0.heap.size p _ d.tabs.n 1 w2 (by omega) (by decide) HW1.out (by have := HBS.out; simp only [List.length_append, bigL_len]; omega))
  clear r1 r2 r3 HC0 HW0 HB0 HF0 HX0
  have c0 := gbox_cell HX1.out 0
  have c1 := gbox_cell HX1.out 1
  have c2 := gbox_cell HX1.out 2
  go_wp2_with fail
  clear c0 c1 c2
  refine HC1.out.mono ?_
  rintro e w3 ⟨rfl, r1, r2, r3⟩
  have HW2 := hid r1
  have HB2 := hid (HB1.out.trans r2)
  have HF2 := hid (HF1.out.trans r3)
  have HX2 : Hid (w3.heap[bx]? = some (.cells #[.int .i64 (z : Int), .slice d.tabs.a d.tabs.n d.tabs.c, .slice d.code.a d.code.n d.code.c] 25 (0, 0))) := r3.2 bx _ _ _ HNE.out (by decide) HX1.out
  clear r1 r2 r3 HC1 HW1 HB1 HF1 HX1
  have c0 := gbox_cell HX2.out 0
  have c1 := gbox_cell HX2.out 1
  have c2 := gbox_cell HX2.out 2
  go_wp2
  clear c0 c1 c2
  go_loopw [20, 5] (fun q _ wr => ∃ i : Nat, i ≤ d.tabs.n ∧ q = .int .i64 i ∧ Hid (GWr W0.heap.size p (bs ++ bigL 1 z ++ bigL 1 d.tabs.n ++ (d.ts.take i).flatMap tabL) wr) ∧ Hid (Below W0.heap.size w wr) ∧ Hid (GFram p w wr) ∧ Hid (wr.heap[bx]? = some (.cells #[.int .i64 (z : Int), .slice d.tabs.a d.tabs.n d.tabs.c, .slice d.code.a d.code.n d.code.c] 25 (0, 0)))) (fun q _ _ => d.tabs.n - (intOf q).toNat)
  case atStart => exact ⟨0, Nat.zero_le _, rfl, by simpa using HW2, HB2, HF2, HX2⟩
  case round =>
    obtain ⟨i, hi, rfl, WR, HB, HF, HX⟩ := hrel
    clear HW2 HB2 HF2 HX2
    by_cases hlt : i < d.tabs.n
    · have hii : (i : Int) < (d.tabs.n : Int) := by omega
      obtain ⟨g, off, x, ea, hx, ⟨x0, y0⟩, ⟨x1, y1⟩, ⟨x2, y2⟩⟩ := grow_at (HL.out.t.step ShapeD.keeps (HW.out.trans HB.out)) hlt
      have FT := hid (gflat_take (f := tabL) hx)
      obtain ⟨W4, hW4⟩ : ∃ W4, W4 = wr.alloc (.cells #[.int .i64 x.keys, .int .i64 x.acts, .int .i64 x.args] 50) := ⟨_, rfl⟩
      have b4 : Below wr.heap.size wr W4 := by rw [hW4]; exact bl_alloc (Below.refl _ _)
      have HLE : Hid ((bs ++ bigL 1 z ++ bigL 1 d.tabs.n ++ (d.ts.take i).flatMap tabL).length + 3 ≤ 9000000) := by
        show _ ≤ _
        simp only [List.length_append, bigL_len, gflat_len tabL 3 tabL_len, List.length_take]
        have := HBS.out
        have := M1.out
        have := E1.out
        omega
      have HC := hid (gwtable W0.heap.size p _ x W4 ⟨y0, y1, y2⟩ (HT.out x (List.mem_of_getElem? hx)) (WR.out.step b4) HLE.out)
      dsimp only [ShapeD.v] at HC
      have EW4 := hid hW4
      have HB4 := hid (HB.out.trans (b4.mono WR.out.bl))
      have HF4 := hid (HF.out.trans (GFram.below b4))
      have HX4 : Hid (W4.heap[bx]? = _) := (b4.block bx (Array.getElem?_eq_some_iff.1 HX.out).1).trans HX.out
      rw [ea] at HX4 ⊢
      clear hx hW4 b4 WR HB HF HX HLE y0 y1 y2 ea
      go_wp2_with fail
      rw [← EW4.out]
      refine HC.out.mono ?_
      rintro e w5 ⟨rfl, r1, r2, r3⟩
      have R1 : Hid (GWr W0.heap.size p (bs ++ bigL 1 z ++ bigL 1 d.tabs.n ++ (d.ts.take (i + 1)).flatMap tabL) w5) := by show GWr _ _ _ _; rw [FT.out, ← List.append_assoc]; exact r1
      have R2 := hid (HB4.out.trans r2)
      have R3 := hid (HF4.out.trans r3)
      have R4 := hid (r3.2 bx _ _ _ HNE.out (by decide) HX4.out)
      clear r1 r2 r3 HC HB4 HF4 HX4 EW4 x0 x1 x2 FT
      go_wp2
      go_roundw
      case rel => exact ⟨i + 1, by omega, by go_num, R1, R2, R3, R4⟩
      case measure => simp [intOf]; omega
    · have hii : ¬ (i : Int) < (d.tabs.n : Int) := by omega
      have hfull : d.ts.take i = d.ts := List.take_of_length_le (by have := E1.out; omega)
      rw [hfull] at WR
      clear hfull
      have HLE : Hid ((bs ++ bigL 1 z ++ bigL 1 d.tabs.n ++ d.ts.flatMap tabL).length + 2 ≤ 9000000) := by
        show _ ≤ _
        simp only [List.length_append, bigL_len, gflat_len tabL 3 tabL_len]
        have := HBS.out
        have := M1.out
        have := E1.out
        omega
      have HC := hid (gnumber W0.heap.size p _ d.code.n 2 wr (by omega) (by decide) WR.out HLE.out)
      have c0 := gbox_cell HX.out 0
      have c1 := gbox_cell HX.out 1
      have c2 := gbox_cell HX.out 2
      go_wp2_with fail
      clear c0 c1 c2
      refine HC.out.mono ?_
      rintro e w6 ⟨rfl, r1, r2, r3⟩
      have HW6 := hid r1
      have HB6 := hid (HB.out.trans r2)
      have HF6 := hid (HF.out.trans r3)
      have HX6 : Hid (w6.heap[bx]? = some (.cells #[.int .i64 (z : Int), .slice d.tabs.a d.tabs.n d.tabs.c, .slice d.code.a d.code.n d.code.c] 25 (0, 0))) := r3.2 bx _ _ _ HNE.out (by decide) HX.out
      clear r1 r2 r3 HC WR HB HF HX HLE
      have c0 := gbox_cell HX6.out 0
      have c1 := gbox_cell HX6.out 1
      have c2 := gbox_cell HX6.out 2
      go_wp2
      clear c0 c1 c2
      go_loopw [36, 7] (fun q _ wr => ∃ i : Nat, i ≤ d.code.n ∧ q = .int .i64 i ∧ Hid (GWr W0.heap.size p (bs ++ bigL 1 z ++ bigL 1 d.tabs.n ++ d.ts.flatMap tabL ++ bigL 2 d.code.n ++ (d.cs.take i).flatMap insL) wr) ∧ Hid (Below W0.heap.size w wr) ∧ Hid (GFram p w wr)) (fun q _ _ => d.code.n - (intOf q).toNat)
      case atStart => exact ⟨0, Nat.zero_le _, rfl, by simpa using HW6, HB6, HF6⟩
      case round =>
        obtain ⟨i, hi, rfl, WR, HB, HF⟩ := hrel
        clear HW6 HB6 HF6 HX6
        by_cases hlt : i < d.code.n
        · have hii : (i : Int) < (d.code.n : Int) := by omega
          obtain ⟨g, off, x, ea, hx, ⟨x0, y0⟩, ⟨x1, y1⟩, ⟨x2, y2⟩, ⟨x3, y3⟩, ⟨x4, y4⟩, ⟨x5, y5⟩⟩ := grow_at (HL.out.c.step InsD.keeps (HW.out.trans HB.out)) hlt
          have FT := hid (gflat_take (f := insL) hx)
          obtain ⟨W4, hW4⟩ : ∃ W4, W4 = wr.alloc (.cells #[.int .i64 x.op, .int .i64 x.r, .int .i64 x.s, .int .i64 x.k, .int .i64 x.to, .int .u64 x.n] 47) := ⟨_, rfl⟩
          have b4 : Below wr.heap.size wr W4 := by rw [hW4]; exact bl_alloc (Below.refl _ _)
          have HLE : Hid ((bs ++ bigL 1 z ++ bigL 1 d.tabs.n ++ d.ts.flatMap tabL ++ bigL 2 d.code.n ++ (d.cs.take i).flatMap insL).length + 14 ≤ 9000000) := by
            show _ ≤ _
            simp only [List.length_append, bigL_len, gflat_len tabL 3 tabL_len, gflat_len insL 14 insL_len, List.length_take]
            have := HBS.out
            have := M1.out
            have := M2.out
            have := E1.out
            have := E2.out
            omega
          have HC := hid (gwins W0.heap.size p _ x W4 ⟨y0, y1, y2, y3, y4, y5⟩ (HS.out x (List.mem_of_getElem? hx)) (WR.out.step b4) HLE.out)
          dsimp only [InsD.v] at HC
          have EW4 := hid hW4
          have HB4 := hid (HB.out.trans (b4.mono WR.out.bl))
          have HF4 := hid (HF.out.trans (GFram.below b4))
          rw [ea]
          clear hx hW4 b4 WR HB HF HLE y0 y1 y2 y3 y4 y5 ea
          go_wp2_with fail
          rw [← EW4.out]
          refine HC.out.mono ?_
          rintro e w5 ⟨rfl, r1, r2, r3⟩
          have R1 : Hid (GWr W0.heap.size p (bs ++ bigL 1 z ++ bigL 1 d.tabs.n ++ d.ts.flatMap tabL ++ bigL 2 d.code.n ++ (d.cs.take (i + 1)).flatMap insL) w5) := by show GWr _ _ _ _; rw [FT.out, ← List.append_assoc]; exact r1
          have R2 := hid (HB4.out.trans r2)
          have R3 := hid (HF4.out.trans r3)
          clear r1 r2 r3 HC HB4 HF4 EW4 x0 x1 x2 x3 x4 x5 FT
          go_wp2
          go_roundw
          case rel => exact ⟨i + 1, by omega, by go_num, R1, R2, R3⟩
          case measure => simp [intOf]; omega
        · have hii : ¬ (i : Int) < (d.code.n : Int) := by omega
          have hfull : d.cs.take i = d.cs := List.take_of_length_le (by have := E2.out; omega)
          rw [hfull] at WR
          have HE : Hid (GWDone W0.heap.size p (bs ++ (bigL 1 z ++ bigL 1 d.tabs.n ++ d.ts.flatMap tabL ++ bigL 2 d.code.n ++ d.cs.flatMap insL)) w (.returned (.tuple #[])) wr) := ⟨rfl, by have := WR.out; simpa only [List.append_assoc] using this, HB.out, HF.out⟩
          clear hfull WR HB HF
          go_wp2
          go_end0
          simpa only [List.append_assoc] using HE.out

end Go.Proofs.Ytcdpmpcpgijebaa
