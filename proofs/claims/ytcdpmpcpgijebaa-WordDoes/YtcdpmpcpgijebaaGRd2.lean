/- The reader of programs: tables, instructions. -/
import Derived.Test.YtcdpmpcpgijebaaGRd
namespace Go.Proofs.Ytcdpmpcpgijebaa
open Go.RowKit

theorem GRd.pl {p : Nat} {zs : List Int} {w : World} (h : GRd p zs w) : p < w.heap.size := h.ex.elim fun _ ⟨_, h, _⟩ => (Array.getElem?_eq_some_iff.1 h).1

theorem GRd.step {p : Nat} {zs : List Int} {w w' : World} (h : GRd p zs w) (b : Below w.heap.size w w') : GRd p zs w' := by
  have hp := h.pl
  obtain ⟨a, c, h0, hz, r⟩ := h.ex
  exact ⟨⟨a, c, (b.block p hp).trans h0, hz.step b, r⟩, h.few⟩

theorem GRd.far {p : Nat} {zs : List Int} {w : World} (h : GRd p zs w) {g : Nat} (hg : p < g) (o : Nat) (v : Value) : GRd p zs (w.setCell ⟨g, o, none⟩ v) := by
  obtain ⟨a, c, h0, hz, h1, h2, h3⟩ := h.ex
  refine ⟨⟨a, c, (Below.heap_setCell _ _ _ _ (by show p ≠ g; omega)).trans h0, hz.blks (by simp [World.setCell]) (fun ad had => Below.heap_setCell _ _ _ _ (by have := h3 ad had; show ad.block ≠ g; omega)), h1, h2, h3⟩, h.few⟩

/-- a box of values in a block of its own -/
def GBoxAt (T : TypeId) (w : World) (bx : Nat) (vs : List Value) : Prop := w.heap[bx]? = some (.cells vs.toArray T (0, 0))

theorem GBoxAt.new (T : TypeId) (w : World) (vs : List Value) : GBoxAt T (w.alloc (.cells vs.toArray T)) w.heap.size vs := by
  unfold GBoxAt
  show (w.heap.push _)[w.heap.size]? = _
  rw [Array.getElem?_push_size]
theorem GBoxAt.cell {T : TypeId} {w : World} {bx : Nat} {vs : List Value} (h : GBoxAt T w bx vs) {i : Nat} {v : Value} (hv : vs[i]? = some v) : w.cell? ⟨bx, i, none⟩ = some v := by
  unfold GBoxAt at h
  simp [World.cell?, h, hv]
theorem GBoxAt.fz {T : TypeId} {w : World} {bx : Nat} {vs : List Value} (h : GBoxAt T w bx vs) (i : Nat) : w.frozen? ⟨bx, i, none⟩ = false := by
  unfold GBoxAt at h
  simp [World.frozen?, h]
theorem GBoxAt.lt {T : TypeId} {w : World} {bx : Nat} {vs : List Value} (h : GBoxAt T w bx vs) : bx < w.heap.size := (Array.getElem?_eq_some_iff.1 h).1
theorem GBoxAt.put {T : TypeId} {w : World} {bx : Nat} {vs : List Value} (h : GBoxAt T w bx vs) (i : Nat) (v : Value) : GBoxAt T (w.setCell ⟨bx, i, none⟩ v) bx (vs.set i v) := by
  unfold GBoxAt at h ⊢
  simp [World.setCell, Array.getElem?_modify, h]

/-- a reader on its way, with the box of its result -/
structure GSt (p : Nat) (T : TypeId) (bx : Nat) (w0 : World) (zs : List Int) (vs : List Value) (w : World) : Prop where
  rd : GRd p zs w
  rn : GRn p w0 w
  box : GBoxAt T w bx vs
  new : w0.heap.size ≤ bx
  ne : p < bx

theorem GSt.start {p : Nat} {zs : List Int} {w : World} (h : GRd p zs w) (T : TypeId) (vs : List Value) : GSt p T w.heap.size w zs vs (w.alloc (.cells vs.toArray T)) :=
  ⟨h.step (bl_alloc (Below.refl _ _)), GRn.of (bl_alloc (Below.refl _ _)), GBoxAt.new T w vs, Nat.le_refl _, h.pl⟩
theorem GSt.read {p : Nat} {T : TypeId} {bx : Nat} {w0 : World} {zs zs' : List Int} {vs : List Value} {w w' : World} (h : GSt p T bx w0 zs vs w) (r : GRn p w w') (d : GRd p zs' w') : GSt p T bx w0 zs' vs w' :=
  ⟨d, h.rn.trans r, (r.block bx h.box.lt (Nat.ne_of_gt h.ne)).trans h.box, h.new, h.ne⟩
theorem GSt.put {p : Nat} {T : TypeId} {bx : Nat} {w0 : World} {zs : List Int} {vs : List Value} {w : World} (h : GSt p T bx w0 zs vs w) (i : Nat) (v : Value) : GSt p T bx w0 zs (vs.set i v) (w.setCell ⟨bx, i, none⟩ v) :=
  ⟨h.rd.far h.ne i v, h.rn.put_new h.new i v, h.box.put i v, h.new, h.ne⟩

set_option maxHeartbeats 1000000 in
set_option maxRecDepth 20000 in
theorem grnumber (p size : Nat) (zs : List Int) (w : World) (h1 : 1 ≤ size) (h8 : size ≤ 7) (h : GRd p zs w) (hl : size ≤ zs.length) :
    Calls Try.prog 34 #[.pointer (some ⟨p, 0, none⟩), .int .i64 size] w fun e w' => e = .returned (.int .i64 ((numB (zs.take size) : Nat) : Int)) ∧ GRd p (zs.drop size) w' ∧ GRn p w w' := by
  have HP := hid (grwhole p size zs w h1 (by omega) h hl)
  have hsm : numB (zs.take size) < 256 ^ 7 := by
    obtain ⟨a, c, _, hz, _⟩ := h.ex
    exact numB_small (fun y hy => hz.byt y (List.mem_of_mem_take hy)) (by rw [List.length_take]; omega)
  have hw := gwrap_i ((numB (zs.take size) : Nat) : Int) (by omega) (by have : (256 : Nat) ^ 7 = 72057594037927936 := rfl; omega)
  clear h hl hsm
  go_enter Try.func34, Try.ntmps34
  go_wp2_with fail
  refine HP.out.mono ?_
  rintro e w1 ⟨rfl, h1, h2⟩
  have H1 := hid h1
  have H2 := hid h2
  clear h1 h2 HP
  go_wp2
  go_ret
  exact ⟨rfl, H1.out, H2.out⟩

def tabOf (zs : List Int) : ShapeD := ⟨((numB (zs.take 1) : Nat) : Int), ((numB ((zs.drop 1).take 1) : Nat) : Int), ((numB (((zs.drop 1).drop 1).take 1) : Nat) : Int)⟩

set_option maxHeartbeats 2000000 in
set_option maxRecDepth 20000 in
theorem grtab (p : Nat) (zs : List Int) (w : World) (h : GRd p zs w) (hl : 3 ≤ zs.length) :
    Calls Try.prog 35 #[.pointer (some ⟨p, 0, none⟩)] w fun e w' => e = .returned (tabOf zs).v ∧ GRd p (zs.drop 3) w' ∧ GRn p w w' := by
  obtain ⟨W1, eW⟩ : ∃ W1, W1 = w.alloc (.cells #[.int .i64 0, .int .i64 0, .int .i64 0] 50) := ⟨_, rfl⟩
  obtain ⟨bx, ebx⟩ : ∃ b, b = w.heap.size := ⟨_, rfl⟩
  have S0 : Hid (GSt p 50 bx w zs [.int .i64 0, .int .i64 0, .int .i64 0] W1) := by rw [eW, ebx]; exact GSt.start h _ _
  have ED : Hid ((((zs.drop 1).drop 1).drop 1) = zs.drop 3) := by show _ = _; simp only [List.drop_drop]
  have EV : Hid (∀ x0 x1 x2, x0 = ((numB (zs.take 1) : Nat) : Int) → x1 = ((numB ((zs.drop 1).take 1) : Nat) : Int) → x2 = ((numB (((zs.drop 1).drop 1).take 1) : Nat) : Int) → (tabOf zs).v = .agg #[.int .i64 x0, .int .i64 x1, .int .i64 x2]) := by
    intro x0 x1 x2 e0 e1 e2
    rw [e0, e1, e2]
    rfl
  obtain ⟨z1, hz1⟩ : ∃ z, z = zs.drop 1 := ⟨_, rfl⟩
  obtain ⟨z2, hz2⟩ : ∃ z, z = z1.drop 1 := ⟨_, rfl⟩
  obtain ⟨z3, hz3⟩ : ∃ z, z = z2.drop 1 := ⟨_, rfl⟩
  obtain ⟨x0, hx0⟩ : ∃ x : Int, x = ((numB (zs.take 1) : Nat) : Int) := ⟨_, rfl⟩
  obtain ⟨x1, hx1⟩ : ∃ x : Int, x = ((numB (z1.take 1) : Nat) : Int) := ⟨_, rfl⟩
  obtain ⟨x2, hx2⟩ : ∃ x : Int, x = ((numB (z2.take 1) : Nat) : Int) := ⟨_, rfl⟩
  have L1 : z1.length = zs.length - 1 := by rw [hz1, List.length_drop]
  have L2 : z2.length = zs.length - 2 := by rw [hz2, List.length_drop, L1]; omega
  have HEV : Hid ((tabOf zs).v = .agg #[.int .i64 x0, .int .i64 x1, .int .i64 x2]) := by
    refine EV.out _ _ _ ?_ ?_ ?_
    all_goals (simp only [hx0, hx1, hx2, hz1, hz2])
  have HED : Hid (z3 = zs.drop 3) := by show _ = _; rw [← ED.out, hz3, hz2, hz1]
  have EW := hid eW
  have EB := hid ebx
  have X0 := hid hx0
  have X1 := hid hx1
  have X2 := hid hx2
  have Z1 := hid hz1
  have Z2 := hid hz2
  have Z3 := hid hz3
  have HL := hid hl
  have LL1 := hid L1
  have LL2 := hid L2
  clear h eW ebx EV ED hl hx0 hx1 hx2 hz1 hz2 hz3 L1 L2
  rw [HEV.out]
  clear HEV
  have HF0 := hid (grnumber p 1 zs W1 (by decide) (by decide) S0.out.rd (by have := HL.out; omega))
  rw [← X0.out, ← Z1.out] at HF0
  go_enter Try.func35, Try.ntmps35
  go_wp2_with fail
  rw [← EW.out, ← EB.out]
  clear EW EB
  refine HF0.out.mono ?_
  rintro e w2 ⟨rfl, hr, hn⟩
  have T0 := S0.out.read hn hr
  have b0 := T0.box.cell (i := 0) rfl
  have f0 := T0.box.fz 0
  have l0 := T0.box.lt
  obtain ⟨V1, eV1⟩ : ∃ V, V = w2.setCell ⟨bx, 0, none⟩ (.int .i64 x0) := ⟨_, rfl⟩
  have S1 : Hid (GSt p 50 bx w z1 [.int .i64 x0, .int .i64 0, .int .i64 0] V1) := by rw [eV1]; exact T0.put 0 _
  have E1 := hid eV1
  clear HF0 hr hn S0 T0 eV1
  have HF1 := hid (grnumber p 1 z1 V1 (by decide) (by decide) S1.out.rd (by have := HL.out; have := LL1.out; omega))
  rw [← X1.out, ← Z2.out] at HF1
  go_wp2_with fail
  rw [← E1.out]
  clear E1 b0 f0 l0
  refine HF1.out.mono ?_
  rintro e w3 ⟨rfl, hr, hn⟩
  have T1 := S1.out.read hn hr
  have b1 := T1.box.cell (i := 1) rfl
  have f1 := T1.box.fz 1
  have l1 := T1.box.lt
  obtain ⟨V2, eV2⟩ : ∃ V, V = w3.setCell ⟨bx, 1, none⟩ (.int .i64 x1) := ⟨_, rfl⟩
  have S2 : Hid (GSt p 50 bx w z2 [.int .i64 x0, .int .i64 x1, .int .i64 0] V2) := by rw [eV2]; exact T1.put 1 _
  have E2 := hid eV2
  clear HF1 hr hn S1 T1 eV2
  have HF2 := hid (grnumber p 1 z2 V2 (by decide) (by decide) S2.out.rd (by have := HL.out; have := LL2.out; omega))
  rw [← X2.out, ← Z3.out] at HF2
  go_wp2_with fail
  rw [← E2.out]
  clear E2 b1 f1 l1
  refine HF2.out.mono ?_
  rintro e w4 ⟨rfl, hr, hn⟩
  have T2 := S2.out.read hn hr
  have b0 := T2.box.cell (i := 0) rfl
  have f0 := T2.box.fz 0
  have b1 := T2.box.cell (i := 1) rfl
  have f1 := T2.box.fz 1
  have b2 := T2.box.cell (i := 2) rfl
  have f2 := T2.box.fz 2
  have l2 := T2.box.lt
  have S3 := (((T2.put 2 (.int .i64 x2)).put 0 (.int .i64 x0)).put 1 (.int .i64 x1)).put 2 (.int .i64 x2)
  have HE : Hid (GRd p (zs.drop 3) ((((w4.setCell ⟨bx, 2, none⟩ (.int .i64 x2)).setCell ⟨bx, 0, none⟩ (.int .i64 x0)).setCell ⟨bx, 1, none⟩ (.int .i64 x1)).setCell ⟨bx, 2, none⟩ (.int .i64 x2)) ∧ GRn p w ((((w4.setCell ⟨bx, 2, none⟩ (.int .i64 x2)).setCell ⟨bx, 0, none⟩ (.int .i64 x0)).setCell ⟨bx, 1, none⟩ (.int .i64 x1)).setCell ⟨bx, 2, none⟩ (.int .i64 x2))) := ⟨by rw [← HED.out]; exact S3.rd, S3.rn⟩
  clear HF2 hr hn S2 S3 T2 HED
  go_wp2
  exact bodyPost_ret (v := .agg #[.int .i64 x0, .int .i64 x1, .int .i64 x2]) (by simp [results, Try.results35, go_sem, *]) rfl ⟨rfl, HE.out.1, HE.out.2⟩

def insOf (zs : List Int) : InsD := ⟨((numB (zs.take 1) : Nat) : Int), ((numB ((zs.drop 1).take 1) : Nat) : Int), ((numB (((zs.drop 1).drop 1).take 1) : Nat) : Int), ((numB ((((zs.drop 1).drop 1).drop 1).take 1) : Nat) : Int), ((numB (((((zs.drop 1).drop 1).drop 1).drop 1).take 2) : Nat) : Int), ((numB ((((((zs.drop 1).drop 1).drop 1).drop 1).drop 2).take 8) : Nat) : Int)⟩

set_option maxHeartbeats 2000000 in
set_option maxRecDepth 20000 in
theorem grins (p : Nat) (zs : List Int) (w : World) (h : GRd p zs w) (hl : 14 ≤ zs.length) :
    Calls Try.prog 36 #[.pointer (some ⟨p, 0, none⟩)] w fun e w' => e = .returned (insOf zs).v ∧ GRd p (zs.drop 14) w' ∧ GRn p w w' := by
  obtain ⟨W1, eW⟩ : ∃ W1, W1 = w.alloc (.cells #[.int .i64 0, .int .i64 0, .int .i64 0, .int .i64 0, .int .i64 0, .int .u64 0] 47) := ⟨_, rfl⟩
  obtain ⟨bx, ebx⟩ : ∃ b, b = w.heap.size := ⟨_, rfl⟩
  have S0 : Hid (GSt p 47 bx w zs [.int .i64 0, .int .i64 0, .int .i64 0, .int .i64 0, .int .i64 0, .int .u64 0] W1) := by rw [eW, ebx]; exact GSt.start h _ _
  have ED : Hid (((((((zs.drop 1).drop 1).drop 1).drop 1).drop 2).drop 8) = zs.drop 14) := by show _ = _; simp only [List.drop_drop]
  have EV : Hid (∀ x0 x1 x2 x3 x4 x5, x0 = ((numB (zs.take 1) : Nat) : Int) → x1 = ((numB ((zs.drop 1).take 1) : Nat) : Int) → x2 = ((numB (((zs.drop 1).drop 1).take 1) : Nat) : Int) → x3 = ((numB ((((zs.drop 1).drop 1).drop 1).take 1) : Nat) : Int) → x4 = ((numB (((((zs.drop 1).drop 1).drop 1).drop 1).take 2) : Nat) : Int) → x5 = ((numB ((((((zs.drop 1).drop 1).drop 1).drop 1).drop 2).take 8) : Nat) : Int) → (insOf zs).v = .agg #[.int .i64 x0, .int .i64 x1, .int .i64 x2, .int .i64 x3, .int .i64 x4, .int .u64 x5]) := by
    intro x0 x1 x2 x3 x4 x5 e0 e1 e2 e3 e4 e5
    rw [e0, e1, e2, e3, e4, e5]
    rfl
  obtain ⟨z1, hz1⟩ : ∃ z, z = zs.drop 1 := ⟨_, rfl⟩
  obtain ⟨z2, hz2⟩ : ∃ z, z = z1.drop 1 := ⟨_, rfl⟩
  obtain ⟨z3, hz3⟩ : ∃ z, z = z2.drop 1 := ⟨_, rfl⟩
  obtain ⟨z4, hz4⟩ : ∃ z, z = z3.drop 1 := ⟨_, rfl⟩
  obtain ⟨z5, hz5⟩ : ∃ z, z = z4.drop 2 := ⟨_, rfl⟩
  obtain ⟨z6, hz6⟩ : ∃ z, z = z5.drop 8 := ⟨_, rfl⟩
  obtain ⟨x0, hx0⟩ : ∃ x : Int, x = ((numB (zs.take 1) : Nat) : Int) := ⟨_, rfl⟩
  obtain ⟨x1, hx1⟩ : ∃ x : Int, x = ((numB (z1.take 1) : Nat) : Int) := ⟨_, rfl⟩
  obtain ⟨x2, hx2⟩ : ∃ x : Int, x = ((numB (z2.take 1) : Nat) : Int) := ⟨_, rfl⟩
  obtain ⟨x3, hx3⟩ : ∃ x : Int, x = ((numB (z3.take 1) : Nat) : Int) := ⟨_, rfl⟩
  obtain ⟨x4, hx4⟩ : ∃ x : Int, x = ((numB (z4.take 2) : Nat) : Int) := ⟨_, rfl⟩
  obtain ⟨x5, hx5⟩ : ∃ x : Int, x = ((numB (z5.take 8) : Nat) : Int) := ⟨_, rfl⟩
  have L1 : z1.length = zs.length - 1 := by rw [hz1, List.length_drop]
  have L2 : z2.length = zs.length - 2 := by rw [hz2, List.length_drop, L1]; omega
  have L3 : z3.length = zs.length - 3 := by rw [hz3, List.length_drop, L2]; omega
  have L4 : z4.length = zs.length - 4 := by rw [hz4, List.length_drop, L3]; omega
  have L5 : z5.length = zs.length - 6 := by rw [hz5, List.length_drop, L4]; omega
  have HEV : Hid ((insOf zs).v = .agg #[.int .i64 x0, .int .i64 x1, .int .i64 x2, .int .i64 x3, .int .i64 x4, .int .u64 x5]) := by
    refine EV.out _ _ _ _ _ _ ?_ ?_ ?_ ?_ ?_ ?_
    all_goals (simp only [hx0, hx1, hx2, hx3, hx4, hx5, hz1, hz2, hz3, hz4, hz5])
  have HED : Hid (z6 = zs.drop 14) := by show _ = _; rw [← ED.out, hz6, hz5, hz4, hz3, hz2, hz1]
  have EW := hid eW
  have EB := hid ebx
  have X0 := hid hx0
  have X1 := hid hx1
  have X2 := hid hx2
  have X3 := hid hx3
  have X4 := hid hx4
  have X5 := hid hx5
  have Z1 := hid hz1
  have Z2 := hid hz2
  have Z3 := hid hz3
  have Z4 := hid hz4
  have Z5 := hid hz5
  have Z6 := hid hz6
  have HL := hid hl
  have LL1 := hid L1
  have LL2 := hid L2
  have LL3 := hid L3
  have LL4 := hid L4
  have LL5 := hid L5
  clear h eW ebx EV ED hl hx0 hx1 hx2 hx3 hx4 hx5 hz1 hz2 hz3 hz4 hz5 hz6 L1 L2 L3 L4 L5
  rw [HEV.out]
  clear HEV
  have HF0 := hid (grnumber p 1 zs W1 (by decide) (by decide) S0.out.rd (by have := HL.out; omega))
  rw [← X0.out, ← Z1.out] at HF0
  go_enter Try.func36, Try.ntmps36
  go_wp2_with fail
  rw [← EW.out, ← EB.out]
  clear EW EB
  refine HF0.out.mono ?_
  rintro e w2 ⟨rfl, hr, hn⟩
  have T0 := S0.out.read hn hr
  have b0 := T0.box.cell (i := 0) rfl
  have f0 := T0.box.fz 0
  have l0 := T0.box.lt
  obtain ⟨V1, eV1⟩ : ∃ V, V = w2.setCell ⟨bx, 0, none⟩ (.int .i64 x0) := ⟨_, rfl⟩
  have S1 : Hid (GSt p 47 bx w z1 [.int .i64 x0, .int .i64 0, .int .i64 0, .int .i64 0, .int .i64 0, .int .u64 0] V1) := by rw [eV1]; exact T0.put 0 _
  have E1 := hid eV1
  clear HF0 hr hn S0 T0 eV1
  have HF1 := hid (grnumber p 1 z1 V1 (by decide) (by decide) S1.out.rd (by have := HL.out; have := LL1.out; omega))
  rw [← X1.out, ← Z2.out] at HF1
  go_wp2_with fail
  rw [← E1.out]
  clear E1 b0 f0 l0
  refine HF1.out.mono ?_
  rintro e w3 ⟨rfl, hr, hn⟩
  have T1 := S1.out.read hn hr
  have b1 := T1.box.cell (i := 1) rfl
  have f1 := T1.box.fz 1
  have l1 := T1.box.lt
  obtain ⟨V2, eV2⟩ : ∃ V, V = w3.setCell ⟨bx, 1, none⟩ (.int .i64 x1) := ⟨_, rfl⟩
  have S2 : Hid (GSt p 47 bx w z2 [.int .i64 x0, .int .i64 x1, .int .i64 0, .int .i64 0, .int .i64 0, .int .u64 0] V2) := by rw [eV2]; exact T1.put 1 _
  have E2 := hid eV2
  clear HF1 hr hn S1 T1 eV2
  have HF2 := hid (grnumber p 1 z2 V2 (by decide) (by decide) S2.out.rd (by have := HL.out; have := LL2.out; omega))
  rw [← X2.out, ← Z3.out] at HF2
  go_wp2_with fail
  rw [← E2.out]
  clear E2 b1 f1 l1
  refine HF2.out.mono ?_
  rintro e w4 ⟨rfl, hr, hn⟩
  have T2 := S2.out.read hn hr
  have b2 := T2.box.cell (i := 2) rfl
  have f2 := T2.box.fz 2
  have l2 := T2.box.lt
  obtain ⟨V3, eV3⟩ : ∃ V, V = w4.setCell ⟨bx, 2, none⟩ (.int .i64 x2) := ⟨_, rfl⟩
  have S3 : Hid (GSt p 47 bx w z3 [.int .i64 x0, .int .i64 x1, .int .i64 x2, .int .i64 0, .int .i64 0, .int .u64 0] V3) := by rw [eV3]; exact T2.put 2 _
  have E3 := hid eV3
  clear HF2 hr hn S2 T2 eV3
  have HF3 := hid (grnumber p 1 z3 V3 (by decide) (by decide) S3.out.rd (by have := HL.out; have := LL3.out; omega))
  rw [← X3.out, ← Z4.out] at HF3
  go_wp2_with fail
  rw [← E3.out]
  clear E3 b2 f2 l2
  refine HF3.out.mono ?_
  rintro e w5 ⟨rfl, hr, hn⟩
  have T3 := S3.out.read hn hr
  have b3 := T3.box.cell (i := 3) rfl
  have f3 := T3.box.fz 3
  have l3 := T3.box.lt
  obtain ⟨V4, eV4⟩ : ∃ V, V = w5.setCell ⟨bx, 3, none⟩ (.int .i64 x3) := ⟨_, rfl⟩
  have S4 : Hid (GSt p 47 bx w z4 [.int .i64 x0, .int .i64 x1, .int .i64 x2, .int .i64 x3, .int .i64 0, .int .u64 0] V4) := by rw [eV4]; exact T3.put 3 _
  have E4 := hid eV4
  clear HF3 hr hn S3 T3 eV4
  have HF4 := hid (grnumber p 2 z4 V4 (by decide) (by decide) S4.out.rd (by have := HL.out; have := LL4.out; omega))
  rw [← X4.out, ← Z5.out] at HF4
  go_wp2_with fail
  rw [← E4.out]
  clear E4 b3 f3 l3
  refine HF4.out.mono ?_
  rintro e w6 ⟨rfl, hr, hn⟩
  have T4 := S4.out.read hn hr
  have b4 := T4.box.cell (i := 4) rfl
  have f4 := T4.box.fz 4
  have l4 := T4.box.lt
  obtain ⟨V5, eV5⟩ : ∃ V, V = w6.setCell ⟨bx, 4, none⟩ (.int .i64 x4) := ⟨_, rfl⟩
  have S5 : Hid (GSt p 47 bx w z5 [.int .i64 x0, .int .i64 x1, .int .i64 x2, .int .i64 x3, .int .i64 x4, .int .u64 0] V5) := by rw [eV5]; exact T4.put 4 _
  have E5 := hid eV5
  clear HF4 hr hn S4 T4 eV5
  have HF5 := hid (grwhole p 8 z5 V5 (by decide) (by decide) S5.out.rd (by have := HL.out; have := LL5.out; omega))
  rw [← X5.out, ← Z6.out] at HF5
  go_wp2_with fail
  rw [← E5.out]
  clear E5 b4 f4 l4
  refine HF5.out.mono ?_
  rintro e w7 ⟨rfl, hr, hn⟩
  have T5 := S5.out.read hn hr
  have b0 := T5.box.cell (i := 0) rfl
  have f0 := T5.box.fz 0
  have b1 := T5.box.cell (i := 1) rfl
  have f1 := T5.box.fz 1
  have b2 := T5.box.cell (i := 2) rfl
  have f2 := T5.box.fz 2
  have b3 := T5.box.cell (i := 3) rfl
  have f3 := T5.box.fz 3
  have b4 := T5.box.cell (i := 4) rfl
  have f4 := T5.box.fz 4
  have b5 := T5.box.cell (i := 5) rfl
  have f5 := T5.box.fz 5
  have l5 := T5.box.lt
  have S6 := ((((((T5.put 5 (.int .u64 x5)).put 0 (.int .i64 x0)).put 1 (.int .i64 x1)).put 2 (.int .i64 x2)).put 3 (.int .i64 x3)).put 4 (.int .i64 x4)).put 5 (.int .u64 x5)
  have HE : Hid (GRd p (zs.drop 14) (((((((w7.setCell ⟨bx, 5, none⟩ (.int .u64 x5)).setCell ⟨bx, 0, none⟩ (.int .i64 x0)).setCell ⟨bx, 1, none⟩ (.int .i64 x1)).setCell ⟨bx, 2, none⟩ (.int .i64 x2)).setCell ⟨bx, 3, none⟩ (.int .i64 x3)).setCell ⟨bx, 4, none⟩ (.int .i64 x4)).setCell ⟨bx, 5, none⟩ (.int .u64 x5)) ∧ GRn p w (((((((w7.setCell ⟨bx, 5, none⟩ (.int .u64 x5)).setCell ⟨bx, 0, none⟩ (.int .i64 x0)).setCell ⟨bx, 1, none⟩ (.int .i64 x1)).setCell ⟨bx, 2, none⟩ (.int .i64 x2)).setCell ⟨bx, 3, none⟩ (.int .i64 x3)).setCell ⟨bx, 4, none⟩ (.int .i64 x4)).setCell ⟨bx, 5, none⟩ (.int .u64 x5))) := ⟨by rw [← HED.out]; exact S6.rd, S6.rn⟩
  clear HF5 hr hn S5 S6 T5 HED
  go_wp2
  exact bodyPost_ret (v := .agg #[.int .i64 x0, .int .i64 x1, .int .i64 x2, .int .i64 x3, .int .i64 x4, .int .u64 x5]) (by simp [results, Try.results36, go_sem, *]) rfl ⟨rfl, HE.out.1, HE.out.2⟩

end Go.Proofs.Ytcdpmpcpgijebaa
