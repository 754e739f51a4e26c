/- Texts of one chain, joined: XSet, XSet2, XDeed, XCtl, XLoad, XTake, XStage, XRes. -/
import Derived.Test.YtajelgjbgehahaaGreatJX2
import Derived.Test.YtajelgjbgehahaaGreatJ11
import Derived.Test.YtajelgjbgehahaaGreatJ1
import Derived.Test.YtajelgjbgehahaaGreatVSize
import Derived.Laws.IdiomCopy
import Derived.Test.YtajelgjbgehahaaGreatJQ
import Derived.Test.YtajelgjbgehahaaGreatJP
import Derived.Deep.Onto
namespace Go.Proofs.YtajelgjbgehahaaGreat
open Go.RowKit

/-- the blocks of a packet that may turn -/
def TripD.own (G : TripD) (m : Nat) (k : Nat) : Prop := k = G.q ∨ k = G.th ∨ k = G.mt ∨ ∃ i, i < m ∧ k = G.rb i

/-- nothing else that is old turns -/
structure Fr (G : TripD) (m : Nat) (w w' : World) : Prop where
  os : w'.os = w.os
  tape : w'.tape = w.tape
  output : w'.output = w.output
  size : w.heap.size ≤ w'.heap.size
  block : ∀ k, k < w.heap.size → ¬ G.own m k → w'.heap[k]? = w.heap[k]?

theorem Fr.of {G : TripD} {m : Nat} {w w' : World} (h : Below w.heap.size w w') : Fr G m w w' := ⟨h.os, h.tape, h.output, h.size, fun k hk _ => h.block k hk⟩
theorem Fr.trans {G : TripD} {m : Nat} {a b c : World} (h : Fr G m a b) (k : Fr G m b c) : Fr G m a c := ⟨k.os.trans h.os, k.tape.trans h.tape, k.output.trans h.output, Nat.le_trans h.size k.size, fun i hi hn => (k.block i (Nat.lt_of_lt_of_le hi h.size) hn).trans (h.block i hi hn)⟩
theorem Fr.set {G : TripD} {m : Nat} {w : World} {b o : Nat} {v : Value} (hb : G.own m b) : Fr G m w (w.setCell ⟨b, o, none⟩ v) :=
  ⟨rfl, rfl, rfl, by rw [World.size_setCell]; exact Nat.le_refl _, fun k _ hn => Below.heap_setCell _ _ _ _ (fun e => hn (by rw [e]; exact hb))⟩
theorem Fr.low {G : TripD} {m B : Nat} {w w' : World} (h : Fr G m w w') (hB : B ≤ w.heap.size) (hn : ∀ k, G.own m k → B ≤ k) : Below B w w' := ⟨h.os, h.tape, h.output, h.size, fun k hk => h.block k (by omega) (fun ho => by have := hn k ho; omega)⟩
theorem Fr.cell {G : TripD} {m : Nat} {w w' : World} (h : Fr G m w w') {b o : Nat} {v : Value} (hn : ¬ G.own m b) (hc : w.cell? ⟨b, o, none⟩ = some v) : w'.cell? ⟨b, o, none⟩ = some v := by
  have hlt := World.block_lt_of_cell? _ _ hc
  have := h.block b hlt hn
  unfold World.cell? at hc ⊢
  simp only at hc ⊢
  rw [this]
  exact hc

/-- a number of a header turns -/
theorem TripAt.putV {d : PlanD} {W0 w : World} {G : TripD} (h : TripAt d W0 G w) {i f : Nat} {zs : List Int} (hi : G.V[i]? = some zs) (hf : f < zs.length) {x : Int} (hx : 0 ≤ x ∧ x < 18446744073709551616) :
    TripAt d W0 { G with V := G.V.set i (zs.set f x) } (w.setCell ⟨G.rb i, f, none⟩ (.int .u64 x)) := by
  have hil : i < d.heads.n := by
    have := (List.getElem?_eq_some_iff.1 hi).1
    rw [h.vl] at this
    exact this
  have k : But (G.rb i) w (w.setCell ⟨G.rb i, f, none⟩ (.int .u64 x)) := set_but
  have qn := h.dq.2.2.2.2 i hil
  have vn := h.dv.2.2.2 i hil
  have tn := h.dt.2.2 i hil
  have mn := h.dm.2 i hil
  have pn := h.dp i hil
  have hr := h.nr i hil
  exact { h with
    box := h.box.far fun _ _ hv _ => k.cell qn hv
    c7 := k.cell qn h.c7, c8 := k.cell qn h.c8, c9 := k.cell qn h.c9, c10 := k.cell qn h.c10, c11 := k.cell qn h.c11, c12 := k.cell qn h.c12, c13 := k.cell qn h.c13, c14 := k.cell qn h.c14, c15 := k.cell qn h.c15
    fq := fun o => by rw [World.frozen?_setCell]; exact h.fq o
    ts := fun j y hy => k.cell tn (h.ts j y hy)
    tf := fun o => by rw [World.frozen?_setCell]; exact h.tf o
    vl := by simpa using h.vl
    vs := fun j ys hy => by
      dsimp only at hy ⊢
      rw [List.getElem?_set] at hy
      by_cases e : i = j
      · subst e
        rw [if_pos rfl, if_pos (by rw [h.vl]; exact hil)] at hy
        cases hy
        obtain ⟨h1, h2, h3⟩ := h.vs i zs hi
        exact ⟨by rw [List.length_set]; exact k.cell vn h1, h2.set hf hx, by rw [List.length_set]; exact h3⟩
      · rw [if_neg e] at hy
        obtain ⟨h1, h2, h3⟩ := h.vs j ys hy
        have hjl : j < d.heads.n := by
          have := (List.getElem?_eq_some_iff.1 hy).1
          rw [h.vl] at this
          exact this
        exact ⟨k.cell vn h1, h2.but k (fun e2 => e (h.dr i j hil hjl e2.symm)), h3⟩
    ms := h.ms.but k mn
    ps := k.cell pn h.ps
    bel := h.bel.trans (k.low.mono hr)
    nt := ⟨h.nt.1, by rw [World.size_setCell]; exact h.nt.2⟩ }

/-- whether a header is there turns -/
theorem TripAt.putT {d : PlanD} {W0 w : World} {G : TripD} (h : TripAt d W0 G w) {i : Nat} (hi : i < d.heads.n) (x : Bool) : TripAt d W0 { G with T := G.T.set i x } (w.setCell ⟨G.th, i, none⟩ (.bool x)) := by
  have k : But G.th w (w.setCell ⟨G.th, i, none⟩ (.bool x)) := set_but
  have qn := h.dq.2.1
  have vn := h.dv.1
  have il : i < G.T.length := by rw [h.tl]; exact hi
  exact { h with
    box := h.box.far fun _ _ hv _ => k.cell qn hv
    c7 := k.cell qn h.c7, c8 := k.cell qn h.c8, c9 := k.cell qn h.c9, c10 := k.cell qn h.c10, c11 := k.cell qn h.c11, c12 := k.cell qn h.c12, c13 := k.cell qn h.c13, c14 := k.cell qn h.c14, c15 := k.cell qn h.c15
    fq := fun o => by rw [World.frozen?_setCell]; exact h.fq o
    ts := fun j y hy => by
      dsimp only at hy ⊢
      rw [List.getElem?_set] at hy
      by_cases e : i = j
      · subst e
        rw [if_pos rfl, if_pos il] at hy
        cases hy
        exact World.cell?_setCell_same _ _ _ (h.ts i _ (List.getElem?_eq_getElem il))
      · rw [if_neg e] at hy
        exact (World.cell?_setCell_other _ _ _ _ (by intro he; cases he; exact e rfl)).trans (h.ts j y hy)
    tf := fun o => by rw [World.frozen?_setCell]; exact h.tf o
    tl := by simpa using h.tl
    vs := fun j ys hy => by
      obtain ⟨h1, h2, h3⟩ := h.vs j ys hy
      have hjl : j < d.heads.n := by
        have := (List.getElem?_eq_some_iff.1 hy).1
        rw [h.vl] at this
        exact this
      exact ⟨k.cell vn h1, h2.but k (fun e2 => h.dt.2.2 j hjl e2.symm), h3⟩
    ms := h.ms.but k (Ne.symm h.dt.1)
    ps := k.cell (Ne.symm h.dt.2.1) h.ps
    bel := h.bel.trans (k.low.mono h.nt.1)
    nt := ⟨h.nt.1, by rw [World.size_setCell]; exact h.nt.2⟩ }

/-- the bytes that are taken turn -/
theorem TripAt.putN {d : PlanD} {W0 w : World} {G : TripD} (h : TripAt d W0 G w) (n : Nat) : TripAt d W0 { G with taken := n } (w.setCell ⟨G.q, 13, none⟩ (.int .i64 (n : Int))) := by
  have k : But G.q w (w.setCell ⟨G.q, 13, none⟩ (.int .i64 (n : Int))) := set_but
  have o : ∀ {j : Nat} {v : Value}, j ≠ 13 → w.cell? ⟨G.q, j, none⟩ = some v → (w.setCell ⟨G.q, 13, none⟩ (.int .i64 (n : Int))).cell? ⟨G.q, j, none⟩ = some v := fun hj hc => (World.cell?_setCell_other _ _ _ _ (by intro he; cases he; exact hj rfl)).trans hc
  exact { h with
    box := h.box.far fun _ _ hv hl => o (by omega) hv
    c7 := o (by omega) h.c7, c8 := o (by omega) h.c8, c9 := o (by omega) h.c9, c10 := o (by omega) h.c10, c11 := o (by omega) h.c11, c12 := o (by omega) h.c12, c13 := World.cell?_setCell_same _ _ _ h.c13, c14 := o (by omega) h.c14, c15 := o (by omega) h.c15
    fq := fun o => by rw [World.frozen?_setCell]; exact h.fq o
    ts := fun j y hy => k.cell (Ne.symm h.dq.2.1) (h.ts j y hy)
    tf := fun o => by rw [World.frozen?_setCell]; exact h.tf o
    vs := fun j ys hy => by
      obtain ⟨h1, h2, h3⟩ := h.vs j ys hy
      have hjl : j < d.heads.n := by
        have := (List.getElem?_eq_some_iff.1 hy).1
        rw [h.vl] at this
        exact this
      exact ⟨k.cell (Ne.symm h.dq.1) h1, h2.but k (fun e2 => h.dq.2.2.2.2 j hjl e2.symm), h3⟩
    ms := h.ms.but k (Ne.symm h.dq.2.2.1)
    ps := k.cell (Ne.symm h.dq.2.2.2.1) h.ps
    bel := h.bel.trans (k.low.mono h.nq)
    nt := ⟨h.nt.1, by rw [World.size_setCell]; exact h.nt.2⟩ }

/-- a block that is none of the packet's -/
theorem TripAt.new {d : PlanD} {W0 w : World} {G : TripD} (h : TripAt d W0 G w) {b : Nat} (hb : w.heap.size ≤ b) : ¬ G.own d.heads.n b := by
  rintro (e | e | e | ⟨i, hi, e⟩)
  · have := h.ql; omega
  · have := h.nt.2; omega
  · have := h.ms.2.2.1; omega
  · have hil : i < G.V.length := by rw [h.vl]; exact hi
    have := (h.vs i _ (List.getElem?_eq_getElem hil)).2.1.2.2.1
    omega

/-- a block of the world at first is none of the packet's -/
theorem TripAt.old {d : PlanD} {W0 w : World} {G : TripD} (h : TripAt d W0 G w) {b : Nat} (hb : b < W0.heap.size) : ¬ G.own d.heads.n b := by
  rintro (e | e | e | ⟨i, hi, e⟩)
  · have := h.nq; omega
  · have := h.nt.1; omega
  · have := h.nm; omega
  · have := h.nr i hi; omega

set_option maxHeartbeats 4000000 in
set_option maxRecDepth 20000 in
theorem xread_any {d : PlanD} {W0 w : World} {G : TripD} (hg : TripAt d W0 G w) {sb tb : Nat} (ct : w.cell? ⟨tb, 0, none⟩ = some (.pointer (some ⟨G.q, 0, none⟩))) (r : RefD) (hr : FieldOk d G r) : Reads sb tb (fieldN G) r w := by
  intro w0 hb0
  have hg0 := hg.step hb0
  have ct0 := cell_keep ct hb0
  have h2 : (r.h == -2) = false := by
    rw [beq_eq_false_iff_ne]
    rcases hr.1 with e | e | e <;> omega
  obtain ⟨h, f⟩ := r
  dsimp only at *
  obtain ⟨W1, hW1⟩ : ∃ W1, W1 = w0.alloc (.cells #[.int .i64 h, .int .i64 f] 61) := ⟨_, rfl⟩
  obtain ⟨b, hb⟩ : ∃ b, b = w0.heap.size := ⟨_, rfl⟩
  have b1 : Below w0.heap.size w0 W1 := by rw [hW1]; exact bl_alloc (Below.refl _ _)
  have c0 : W1.cell? ⟨b, 0, none⟩ = some (.int .i64 h) := by rw [hW1, hb]; exact (World.cell?_alloc_at _ _ _ _ rfl).trans rfl
  have c1 : W1.cell? ⟨b, 1, none⟩ = some (.int .i64 f) := by rw [hW1, hb]; exact (World.cell?_alloc_at _ _ _ _ rfl).trans rfl
  have HR : Hid (∀ p : BelowBy W1, Calls Tryz.prog 66 #[.pointer (some ⟨G.q, 7, none⟩), .agg #[.int .i64 h, .int .i64 f]] p.to fun e w'' => e = .returned (.int .u64 (fieldN G ⟨h, f⟩)) ∧ Below p.to.heap.size p.to w'') := fun p => xfield_any ((hg0.step b1).step p.h) ⟨h, f⟩ hr
  have c0' := cell_by c0
  have c1' := cell_by c1
  have ct' := cell_by (cell_keep ct0 b1)
  have HB := hid b1
  have EW := hid hW1
  have EB := hid hb
  generalize fieldN G ⟨h, f⟩ = z at *
  clear hg hg0 hW1 hb b1 c1 ct ct0 hr hb0
  go_enter Tryz.func84, Tryz.ntmps84
  go_upto_region 1 with fail
  rw [← EW.out, ← EB.out]
  clear EW EB
  go_wp2_with fail
  haveI inhB : ∀ w : World, Inhabited (BelowBy w) := fun w => ⟨⟨w, Below.refl _ _⟩⟩
  refine wp_region_quiet_below (by kernel_rfl) (by kernel_rfl) ?_
  repeat (go_big_quiet_step (first | (go_at_call 66; exact calls_below _ (HR.out _))))
  refine wpQuiet_nil ?_
  intro wq hw'
  obtain ⟨⟨_, hwq⟩, hw''⟩ := hw'
  subst hw''
  have HF := hid (bl_step HB.out hwq)
  clear HB hwq HR
  go_wp2
  go_ret
  exact ⟨rfl, HF.out⟩
end Go.Proofs.YtajelgjbgehahaaGreat

namespace Go.Proofs.YtajelgjbgehahaaGreat
open Go.RowKit

def SetDone (d : PlanD) (W0 : World) (G : TripD) (i f : Nat) (x : Int) (w : World) (e : Ending) (w' : World) : Prop := e = .returned (.tuple #[]) ∧ TripAt d W0 { G with V := G.V.set i ((G.V.getD i []).set f x) } w' ∧ Fr G d.heads.n w w'

set_option linter.unusedSimpArgs false in
set_option maxHeartbeats 8000000 in
set_option maxRecDepth 20000 in
theorem xset_any {d : PlanD} {W0 w : World} {G : TripD} (hg : TripAt d W0 G w) (i f : Nat) (hi : i < d.heads.n) (hf : f < (G.V.getD i []).length) (v W : Int) (hv : 0 ≤ v ∧ v < 18446744073709551616) (hW : widthC d (i : Int) (f : Int) [] = W) (hW1 : 1 ≤ W ∧ W ≤ 64) :
    Calls Tryz.prog 113 #[.pointer (some ⟨G.q, 0, none⟩), .agg #[.int .i64 (i : Int), .int .i64 (f : Int)], .int .u64 v] w (SetDone d W0 G i f ((v.toNat % 2 ^ W.toNat : Nat) : Int) w) := by
  obtain ⟨W1, eW1⟩ : ∃ W1, W1 = w.alloc (.cells #[.int .i64 (i : Int), .int .i64 (f : Int)] 61) := ⟨_, rfl⟩
  obtain ⟨bx, hbx⟩ : ∃ b, b = w.heap.size := ⟨_, rfl⟩
  have b1 : Below w.heap.size w W1 := by rw [eW1]; exact bl_alloc (Below.refl _ _)
  have c0 : W1.cell? ⟨bx, 0, none⟩ = some (.int .i64 (i : Int)) := by rw [eW1, hbx]; exact (World.cell?_alloc_at _ _ _ _ rfl).trans rfl
  have c1 : W1.cell? ⟨bx, 1, none⟩ = some (.int .i64 (f : Int)) := by rw [eW1, hbx]; exact (World.cell?_alloc_at _ _ _ _ rfl).trans rfl
  have hg1 := hg.step b1
  have hil : i < G.V.length := by rw [hg.vl]; exact hi
  have ev : G.V.getD i [] = G.V[i] := by rw [List.getD_eq_getElem?_getD, List.getElem?_eq_getElem hil]; rfl
  have eVi : G.V[i]? = some (G.V.getD i []) := by rw [ev]; exact List.getElem?_eq_getElem hil
  have erb : rowB G (i : Int) = G.rb i := by unfold rowB; rw [if_neg (by omega), if_neg (by omega), Int.toNat_natCast]
  have erl : rowL G (i : Int) = G.V.getD i [] := by unfold rowL; rw [if_neg (by omega), if_neg (by omega), Int.toNat_natCast]
  have HRW : Hid (∀ w', Below W1.heap.size W1 w' → Calls Tryz.prog 83 #[.pointer (some ⟨G.q, 7, none⟩), .int .i64 (i : Int)] w' fun e w'' => e = .returned (.slice (some ⟨G.rb i, 0, none⟩) (G.V.getD i []).length (G.V.getD i []).length) ∧ w'' = w') := fun w' h => by
    have := xrow_any (hg1.step h) (i : Int) (.inr (.inr ⟨by omega, by omega⟩))
    rw [erb, erl] at this
    exact this
  have HWD : Hid (∀ w', Below W1.heap.size W1 w' → Calls Tryz.prog 37 #[d.v, .agg #[.int .i64 (i : Int), .int .i64 (f : Int)], .slice none 0 0] w' fun e w'' => e = .returned (.int .i64 W) ∧ Below w'.heap.size w' w'') := fun w' h => by
    have := width_any d (i : Int) (f : Int) none 0 0 [] w' (hg.lie.step (bl_step hg.bel (bl_step b1 h))) (has_nil _ _)
    rw [hW] at this
    exact this
  have HMK : Hid (∀ w', Calls Tryz.prog 71 #[.int .i64 W] w' fun e w'' => e = .returned (.int .u64 (maskN W)) ∧ w'' = w') := fun w' => mask_int W w'
  have HAN := hid (and_mask v W hv hW1)
  have HG1 := hid hg1
  have HB1 := hid b1
  have hbo : ¬ G.own d.heads.n bx := hg.new (by omega)
  have HCS : Hid (∀ w', Below W1.heap.size W1 w' → (fun w' => (w'.cell? ⟨bx, 0, none⟩ = some (.int .i64 (i : Int)) ∧ w'.cell? ⟨bx, 1, none⟩ = some (.int .i64 (f : Int))) ∧ w'.cell? ⟨G.q, 0, none⟩ = some (.slice d.heads.a d.heads.n d.heads.c) ∧ w'.cell? ⟨G.q, 1, none⟩ = some (.slice d.mta.a d.mta.n d.mta.c) ∧ w'.cell? ⟨G.q, 2, none⟩ = some (.slice d.states.a d.states.n d.states.c) ∧ w'.cell? ⟨G.q, 3, none⟩ = some (.slice d.acts.a d.acts.n d.acts.c) ∧ w'.cell? ⟨G.q, 4, none⟩ = some (.slice d.tabs.a d.tabs.n d.tabs.c) ∧ w'.cell? ⟨G.q, 5, none⟩ = some (.slice d.nodes.a d.nodes.n d.nodes.c) ∧ w'.cell? ⟨G.q, 6, none⟩ = some (.slice d.out.a d.out.n d.out.c)) w') := fun w' h => ⟨⟨cell_keep c0 h, cell_keep c1 h⟩, (hg1.step h).box⟩
  have HPV : Hid (∀ w', Below W1.heap.size W1 w' → (w'.cell? ⟨G.rb i, f, none⟩ = some (.int .u64 ((G.V.getD i []).getD f 0)) ∧ w'.frozen? ⟨G.rb i, f, none⟩ = false ∧ G.rb i < w'.heap.size) ∧ ∀ x : Int, 0 ≤ x ∧ x < 18446744073709551616 → SetDone d W0 G i f x w (.returned (.tuple #[])) (w'.setCell ⟨G.rb i, f, none⟩ (.int .u64 x))) := fun w' h => by
    have hg' := hg1.step h
    obtain ⟨h1, h2, h3⟩ := hg'.vs i _ eVi
    refine ⟨⟨?_, h2.2.1 f, h2.2.2.1⟩, fun x hx => ⟨rfl, hg'.putV eVi hf hx, (Fr.of (bl_step b1 h)).trans (Fr.set (.inr (.inr (.inr ⟨i, hi, rfl⟩))))⟩⟩
    rw [List.getD_eq_getElem?_getD, List.getElem?_eq_getElem hf]
    exact h2.1 f _ (List.getElem?_eq_getElem hf)
  have hfi : (f : Int) < ((G.V.getD i []).length : Int) := by omega
  have EW := hid eW1
  have EB := hid hbx
  have hx1 : 0 ≤ ((v.toNat % 2 ^ W.toNat : Nat) : Int) ∧ ((v.toNat % 2 ^ W.toNat : Nat) : Int) < 18446744073709551616 := by
    have : v.toNat % 2 ^ W.toNat ≤ v.toNat := Nat.mod_le _ _
    omega
  have HX1 := hid hx1
  unfold PlanD.v at HWD
  generalize ((v.toNat % 2 ^ W.toNat : Nat) : Int) = x at *
  generalize G.rb i = rb at *
  generalize (G.V.getD i []).length = m at *
  generalize G.q = q at *
  clear hg hg1 b1 eW1 hbx ev eVi erb erl hil hf hW hW1 hbo hx1 c0 c1
  go_enter Tryz.func113, Tryz.ntmps113
  go_upto_region 1 with fail
  rw [← EW.out, ← EB.out]
  clear EW EB
  refine wp_region_cut 17 (by kernel_rfl) (by kernel_rfl) ?_
  refine wpAny_of_held (S := (fun w' => (w'.cell? ⟨bx, 0, none⟩ = some (.int .i64 (i : Int)) ∧ w'.cell? ⟨bx, 1, none⟩ = some (.int .i64 (f : Int))) ∧ w'.cell? ⟨q, 0, none⟩ = some (.slice d.heads.a d.heads.n d.heads.c) ∧ w'.cell? ⟨q, 1, none⟩ = some (.slice d.mta.a d.mta.n d.mta.c) ∧ w'.cell? ⟨q, 2, none⟩ = some (.slice d.states.a d.states.n d.states.c) ∧ w'.cell? ⟨q, 3, none⟩ = some (.slice d.acts.a d.acts.n d.acts.c) ∧ w'.cell? ⟨q, 4, none⟩ = some (.slice d.tabs.a d.tabs.n d.tabs.c) ∧ w'.cell? ⟨q, 5, none⟩ = some (.slice d.nodes.a d.nodes.n d.nodes.c) ∧ w'.cell? ⟨q, 6, none⟩ = some (.slice d.out.a d.out.n d.out.c))) _ _ _ _ ?_
  have hHeld := HCS.out _ (Below.refl W1.heap.size W1).drew
  refine wpAnyH_take (i := 0) (v := ?_) (drop_at rfl) (by kernel_rfl) (by kernel_rfl) (by kernel_rfl) (fun _ _ _ h => h) (Or.inl ⟨by rfl, ?_⟩) hHeld ?_
  rotate_left
  · intro w0 hSw
    try dsimp only at hSw
    go_simp
    try with_reducible rfl
  try simp only [Act.put, List.setIfInBounds_toArray, List.set_cons_zero, List.set_cons_succ]
  refine wpAnyH_take (i := 1) (v := ?_) (drop_at rfl) (by kernel_rfl) (by kernel_rfl) (by kernel_rfl) (fun _ _ _ h => h) (Or.inl ⟨by rfl, ?_⟩) hHeld ?_
  rotate_left
  · intro w0 hSw
    try dsimp only at hSw
    go_simp
    try with_reducible rfl
  try simp only [Act.put, List.setIfInBounds_toArray, List.set_cons_zero, List.set_cons_succ]
  refine wpAnyH_take (i := 2) (v := ?_) (drop_at rfl) (by kernel_rfl) (by kernel_rfl) (by kernel_rfl) (fun _ _ _ h => h) (Or.inl ⟨by rfl, ?_⟩) hHeld ?_
  rotate_left
  · intro w0 hSw
    try dsimp only at hSw
    go_simp
    try with_reducible rfl
  try simp only [Act.put, List.setIfInBounds_toArray, List.set_cons_zero, List.set_cons_succ]
  refine wpAnyH_take (i := 3) (v := ?_) (drop_at rfl) (by kernel_rfl) (by kernel_rfl) (by kernel_rfl) (fun _ _ _ h => h) (Or.inl ⟨by rfl, ?_⟩) hHeld ?_
  rotate_left
  · intro w0 hSw
    try dsimp only at hSw
    go_simp
    try with_reducible rfl
  try simp only [Act.put, List.setIfInBounds_toArray, List.set_cons_zero, List.set_cons_succ]
  refine wpAnyH_take (i := 4) (v := ?_) (drop_at rfl) (by kernel_rfl) (by kernel_rfl) (by kernel_rfl) (fun _ _ _ h => h) (Or.inl ⟨by rfl, ?_⟩) hHeld ?_
  rotate_left
  · intro w0 hSw
    try dsimp only at hSw
    go_simp
    try with_reducible rfl
  try simp only [Act.put, List.setIfInBounds_toArray, List.set_cons_zero, List.set_cons_succ]
  refine wpAnyH_take (i := 6) (v := ?_) (drop_at rfl) (by kernel_rfl) (by kernel_rfl) (by kernel_rfl) (fun _ _ _ h => h) (Or.inl ⟨by rfl, ?_⟩) hHeld ?_
  rotate_left
  · intro w0 hSw
    try dsimp only at hSw
    go_simp
    try with_reducible rfl
  try simp only [Act.put, List.setIfInBounds_toArray, List.set_cons_zero, List.set_cons_succ]
  refine wpAnyH_take (i := 7) (v := ?_) (drop_at rfl) (by kernel_rfl) (by kernel_rfl) (by kernel_rfl) (fun _ _ _ h => h) (Or.inl ⟨by rfl, ?_⟩) hHeld ?_
  rotate_left
  · intro w0 hSw
    try dsimp only at hSw
    go_simp
    try with_reducible rfl
  try simp only [Act.put, List.setIfInBounds_toArray, List.set_cons_zero, List.set_cons_succ]
  refine wpAnyH_take (i := 8) (v := ?_) (drop_at rfl) (by kernel_rfl) (by kernel_rfl) (by kernel_rfl) (fun _ _ _ h => h) (Or.inl ⟨by rfl, ?_⟩) hHeld ?_
  rotate_left
  · intro w0 hSw
    try dsimp only at hSw
    go_simp
    try with_reducible rfl
  try simp only [Act.put, List.setIfInBounds_toArray, List.set_cons_zero, List.set_cons_succ]
  refine wpAnyH_take (i := 9) (v := ?_) (drop_at rfl) (by kernel_rfl) (by kernel_rfl) (by kernel_rfl) (fun _ _ _ h => h) (Or.inl ⟨by rfl, ?_⟩) hHeld ?_
  rotate_left
  · intro w0 hSw
    try dsimp only at hSw
    go_simp
    try with_reducible rfl
  try simp only [Act.put, List.setIfInBounds_toArray, List.set_cons_zero, List.set_cons_succ]
  refine wpAnyH_take (i := 10) (v := ?_) (drop_at rfl) (by kernel_rfl) (by kernel_rfl) (by kernel_rfl) (fun _ _ _ h => h) (Or.inl ⟨by rfl, ?_⟩) hHeld ?_
  rotate_left
  · intro w0 hSw
    try dsimp only at hSw
    go_simp
    try with_reducible rfl
  try simp only [Act.put, List.setIfInBounds_toArray, List.set_cons_zero, List.set_cons_succ]
  refine wpAnyH_take (i := 11) (v := ?_) (drop_at rfl) (by kernel_rfl) (by kernel_rfl) (by kernel_rfl) (fun _ _ _ h => h) (Or.inl ⟨by rfl, ?_⟩) hHeld ?_
  rotate_left
  · intro w0 hSw
    try dsimp only at hSw
    go_simp
    try with_reducible rfl
  try simp only [Act.put, List.setIfInBounds_toArray, List.set_cons_zero, List.set_cons_succ]
  refine wpAnyH_take (i := 12) (v := ?_) (drop_at rfl) (by kernel_rfl) (by kernel_rfl) (by kernel_rfl) (fun _ _ _ h => h) (Or.inl ⟨by rfl, ?_⟩) hHeld ?_
  rotate_left
  · intro w0 hSw
    try dsimp only at hSw
    go_simp
    try with_reducible rfl
  try simp only [Act.put, List.setIfInBounds_toArray, List.set_cons_zero, List.set_cons_succ]
  refine wpAnyH_take (i := 13) (v := ?_) (drop_at rfl) (by kernel_rfl) (by kernel_rfl) (by kernel_rfl) (fun _ _ _ h => h) (Or.inl ⟨by rfl, ?_⟩) hHeld ?_
  rotate_left
  · intro w0 hSw
    try dsimp only at hSw
    go_simp
    try with_reducible rfl
  try simp only [Act.put, List.setIfInBounds_toArray, List.set_cons_zero, List.set_cons_succ]
  refine wpAnyH_ready (rs := [5]) (by kernel_rfl) (by simp) ?_
  refine AllReadyH.cons (drop_at rfl) (fun K hK => ?_) AllReadyH.nil
  go_simp
  go_at_call 83
  refine (HRW.out _ (Below.refl W1.heap.size W1).drew).mono ?_
  rintro e w2 ⟨rfl, e2⟩
  rw [e2]
  clear e2 w2
  refine hK.out _ _ hHeld (fun hHeld => ?_)
  clear hK K
  try simp only [Act.put, List.setIfInBounds_toArray, List.set_cons_zero, List.set_cons_succ]
  refine wpAnyH_ready (rs := [14]) (by kernel_rfl) (by simp) ?_
  refine AllReadyH.cons (drop_at rfl) (fun K hK => ?_) AllReadyH.nil
  go_simp
  go_at_call 37
  refine (HWD.out _ (Below.refl W1.heap.size W1).drew).mono ?_
  rintro e w3 ⟨rfl, hb3⟩
  have HB3 : Hid (Below W1.heap.size W1 w3) := bl_step (Below.refl W1.heap.size W1).drew hb3
  clear hb3
  refine hK.out _ _ (HCS.out _ HB3.out) (fun hHeld => ?_)
  clear hK K
  try simp only [Act.put, List.setIfInBounds_toArray, List.set_cons_zero, List.set_cons_succ]
  refine wpAnyH_ready (rs := [15]) (by kernel_rfl) (by simp) ?_
  refine AllReadyH.cons (drop_at rfl) (fun K hK => ?_) AllReadyH.nil
  go_simp
  go_at_call 71
  refine (HMK.out _).mono ?_
  rintro e w4 ⟨rfl, e4⟩
  rw [e4]
  clear e4 w4
  refine hK.out _ _ hHeld (fun hHeld => ?_)
  clear hK K
  try simp only [Act.put, List.setIfInBounds_toArray, List.set_cons_zero, List.set_cons_succ]
  have han := HAN.out
  refine wpAnyH_take (i := 16) (v := ?_) (drop_at rfl) (by kernel_rfl) (by kernel_rfl) (by kernel_rfl) (fun _ _ _ h => h) (Or.inl ⟨by rfl, ?_⟩) hHeld ?_
  rotate_left
  · intro w0 hSw
    try dsimp only at hSw
    go_simp
    try with_reducible rfl
  try simp only [Act.put, List.setIfInBounds_toArray, List.set_cons_zero, List.set_cons_succ]
  refine wpAnyH_done (by kernel_rfl) ?_ _
  show wpList _ _ _ _ _ _
  simp only [List.drop_succ_cons, List.drop_zero]
  obtain ⟨⟨p0, p1, p2⟩, HFN⟩ := HPV.out _ HB3.out
  have HF := hid (HFN x HX1.out)
  clear HFN HPV HCS hHeld HRW HWD HMK HAN
  go_wp2
  go_end0
  exact HF.out
end Go.Proofs.YtajelgjbgehahaaGreat

namespace Go.Proofs.YtajelgjbgehahaaGreat
open Go.RowKit

/-- the number that comes of an expression -/
def treeV (G : TripD) (es : List PushD) : Int := (evalL (fieldN G) es []).getD 0 0

set_option linter.unusedSimpArgs false in
set_option maxHeartbeats 8000000 in
set_option maxRecDepth 20000 in
theorem xdeed_set {d : PlanD} {W0 w : World} {G : TripD} (hg : TripAt d W0 G w) (i f : Nat) (hd : Int) (e : QSl) (es : List PushD) (sb tb : Nat) (ct : w.cell? ⟨tb, 0, none⟩ = some (.pointer (some ⟨G.q, 0, none⟩))) (hi : i < d.heads.n) (hf : f < (G.V.getD i []).length) (W : Int) (hW : widthC d (i : Int) (f : Int) [] = W) (hW1 : 1 ≤ W ∧ W ≤ 64)
    (hE : QRow 4 PushD.lie W0 e es) (hn : e.n ≤ 100) (hok : okL es 0) (hR : ∀ p ∈ es, p.op = 2 → FieldOk d G p.r ∧ 0 ≤ fieldN G p.r ∧ fieldN G p.r < 18446744073709551616) (hv : 0 ≤ treeV G es ∧ treeV G es < 18446744073709551616) :
    Calls Tryz.prog 85 #[.pointer (some ⟨G.q, 0, none⟩), .agg #[.int .i64 1, .int .i64 (i : Int), .int .i64 (f : Int), .int .i64 hd, .slice e.a e.n e.c], readV sb tb] w (SetDone d W0 G i f (((treeV G es).toNat % 2 ^ W.toNat : Nat) : Int) w) := by
  obtain ⟨W1, eW1⟩ : ∃ W1, W1 = w.alloc (.cells #[.int .i64 1, .int .i64 (i : Int), .int .i64 (f : Int), .int .i64 hd, .slice e.a e.n e.c] 71) := ⟨_, rfl⟩
  obtain ⟨bx, hbx⟩ : ∃ b, b = w.heap.size := ⟨_, rfl⟩
  have b1 : Below w.heap.size w W1 := by rw [eW1]; exact bl_alloc (Below.refl _ _)
  have cs : ∀ (j : Nat) (v : Value), (#[.int .i64 1, .int .i64 (i : Int), .int .i64 (f : Int), .int .i64 hd, .slice e.a e.n e.c] : Array Value)[j]? = some v → W1.cell? ⟨bx, j, none⟩ = some v := fun j v hv => by rw [eW1, hbx]; exact (World.cell?_alloc_at _ _ _ _ rfl).trans hv
  have c0 := cs 0 _ rfl
  have c1 := cs 1 _ rfl
  have c2 := cs 2 _ rfl
  have c4 := cs 4 _ rfl
  have hg1 := hg.step b1
  have HVL := hid (value_any e es sb tb (fieldN G) W1.drew (hE.step PushD.keeps (bl_step hg1.bel (Below.refl W1.heap.size W1).drew)) hn hok (fun p hp ho => xread_any (hg1.step (Below.refl W1.heap.size W1).drew) (cell_keep ct b1.drew) p.r (hR p hp ho).1) (fun p hp ho => (hR p hp ho).2))
  have HST : Hid (∀ w', Below W1.heap.size W1 w' → Calls Tryz.prog 113 #[.pointer (some ⟨G.q, 0, none⟩), .agg #[.int .i64 (i : Int), .int .i64 (f : Int)], .int .u64 (treeV G es)] w' (SetDone d W0 G i f (((treeV G es).toNat % 2 ^ W.toNat : Nat) : Int) w')) := fun w' h => xset_any (hg1.step h) i f hi hf _ W hv hW hW1
  have HBO : Hid (¬ G.own d.heads.n bx) := hg.new (by omega)
  have HB1 := hid b1
  have EW := hid eW1
  have EB := hid hbx
  have etv : (evalL (fieldN G) es []).getD 0 0 = treeV G es := rfl
  rw [etv] at HVL
  generalize (((treeV G es).toNat % 2 ^ W.toNat : Nat) : Int) = x at *
  generalize treeV G es = tv at *
  clear hg hg1 b1 eW1 hbx cs hE hn hok hR hv hW hW1 etv ct
  go_enter Tryz.func85, Tryz.ntmps85
  go_upto_region 1 with fail
  rw [← EW.out, ← EB.out]
  clear EW EB
  go_upto_region 3 with fail
  refine wp_region_held_drew (S := (fun w' => w'.cell? ⟨bx, 0, none⟩ = some (.int .i64 1) ∧ w'.cell? ⟨bx, 1, none⟩ = some (.int .i64 (i : Int)) ∧ w'.cell? ⟨bx, 2, none⟩ = some (.int .i64 (f : Int)) ∧ w'.cell? ⟨bx, 4, none⟩ = some (.slice e.a e.n e.c))) (by kernel_rfl) ⟨c0, c1, c2, c4⟩ (fun hHeld => ?_)
  refine wpAnyH_take (i := 0) (v := ?_) (drop_at rfl) (by kernel_rfl) (by kernel_rfl) (by kernel_rfl) (fun _ _ _ h => h) (Or.inl ⟨by rfl, ?_⟩) hHeld ?_
  rotate_left
  · intro w0 hSw
    try dsimp only at hSw
    go_simp
    try with_reducible rfl
  try simp only [Act.put, List.setIfInBounds_toArray, List.set_cons_zero, List.set_cons_succ]
  refine wpAnyH_take (i := 1) (v := ?_) (drop_at rfl) (by kernel_rfl) (by kernel_rfl) (by kernel_rfl) (fun _ _ _ h => h) (Or.inl ⟨by rfl, ?_⟩) hHeld ?_
  rotate_left
  · intro w0 hSw
    try dsimp only at hSw
    go_simp
    try with_reducible rfl
  try simp only [Act.put, List.setIfInBounds_toArray, List.set_cons_zero, List.set_cons_succ]
  refine wpAnyH_take (i := 2) (v := ?_) (drop_at rfl) (by kernel_rfl) (by kernel_rfl) (by kernel_rfl) (fun _ _ _ h => h) (Or.inl ⟨by rfl, ?_⟩) hHeld ?_
  rotate_left
  · intro w0 hSw
    try dsimp only at hSw
    go_simp
    try with_reducible rfl
  try simp only [Act.put, List.setIfInBounds_toArray, List.set_cons_zero, List.set_cons_succ]
  refine wpAnyH_take (i := 3) (v := ?_) (drop_at rfl) (by kernel_rfl) (by kernel_rfl) (by kernel_rfl) (fun _ _ _ h => h) (Or.inl ⟨by rfl, ?_⟩) hHeld ?_
  rotate_left
  · intro w0 hSw
    try dsimp only at hSw
    go_simp
    try with_reducible rfl
  try simp only [Act.put, List.setIfInBounds_toArray, List.set_cons_zero, List.set_cons_succ]
  refine wpAnyH_take (i := 4) (v := ?_) (drop_at rfl) (by kernel_rfl) (by kernel_rfl) (by kernel_rfl) (fun _ _ _ h => h) (Or.inl ⟨by rfl, ?_⟩) hHeld ?_
  rotate_left
  · intro w0 hSw
    try dsimp only at hSw
    go_simp
    try with_reducible rfl
  try simp only [Act.put, List.setIfInBounds_toArray, List.set_cons_zero, List.set_cons_succ]
  refine wpAnyH_take (i := 5) (v := ?_) (drop_at rfl) (by kernel_rfl) (by kernel_rfl) (by kernel_rfl) (fun _ _ _ h => h) (Or.inl ⟨by rfl, ?_⟩) hHeld ?_
  rotate_left
  · intro w0 hSw
    try dsimp only at hSw
    go_simp
    try with_reducible rfl
  try simp only [Act.put, List.setIfInBounds_toArray, List.set_cons_zero, List.set_cons_succ]
  refine wpAnyH_ready (rs := [6]) (by kernel_rfl) (by simp) ?_
  refine AllReadyH.cons (drop_at rfl) (fun K hK => ?_) AllReadyH.nil
  go_simp
  go_at_call 69
  refine HVL.out.mono ?_
  rintro q w2 ⟨rfl, hb2⟩
  have HB2 : Hid (Below W1.heap.size W1 w2) := bl_step (Below.refl W1.heap.size W1).drew hb2
  clear hb2 HVL
  refine hK.out _ _ ⟨cell_keep c0 HB2.out, cell_keep c1 HB2.out, cell_keep c2 HB2.out, cell_keep c4 HB2.out⟩ (fun hHeld => ?_)
  clear hK K
  try simp only [Act.put, List.setIfInBounds_toArray, List.set_cons_zero, List.set_cons_succ]
  refine wpAnyH_ready (rs := [7]) (by kernel_rfl) (by simp) ?_
  refine AllReadyH.cons (drop_at rfl) (fun K hK => ?_) AllReadyH.nil
  go_simp
  go_at_call 113
  refine (HST.out _ HB2.out).mono ?_
  rintro q w3 ⟨rfl, hg3, hf3⟩
  obtain ⟨s0, s1, s2, s4⟩ := hHeld
  refine hK.out _ _ ⟨hf3.cell HBO.out s0, hf3.cell HBO.out s1, hf3.cell HBO.out s2, hf3.cell HBO.out s4⟩ (fun hHeld => ?_)
  clear hK K s0 s1 s2 s4 hHeld
  have HF : Hid (SetDone d W0 G i f x w (.returned (.tuple #[])) w3) := ⟨rfl, hg3, (Fr.of (bl_step HB1.out HB2.out)).trans hf3⟩
  clear hg3 hf3 HST HB1 HB2 c0 c1 c2 c4
  try simp only [Act.put, List.setIfInBounds_toArray, List.set_cons_zero, List.set_cons_succ]
  refine wpAnyH_done (by kernel_rfl) ?_ _
  go_wp2
  go_end0
  exact HF.out

set_option linter.unusedSimpArgs false in
set_option maxHeartbeats 8000000 in
set_option maxRecDepth 20000 in
theorem xdo_one {d : PlanD} {W0 w : World} {G : TripD} (hg : TripAt d W0 G w) (a : Nat) (ga : QSl) (x : ActD) (hx : d.al[a]? = some x) (i f : Nat) (hd : Int) (e : QSl) (es : List PushD) (ho : x.os = [⟨1, ⟨(i : Int), (f : Int)⟩, hd, e, es⟩]) (hi : i < d.heads.n) (hf : f < (G.V.getD i []).length) (W : Int) (hW : widthC d (i : Int) (f : Int) [] = W) (hW1 : 1 ≤ W ∧ W ≤ 64)
    (hn : e.n ≤ 100) (hok : okL es 0) (hR : ∀ p ∈ es, p.op = 2 → FieldOk d G p.r ∧ 0 ≤ fieldN G p.r ∧ fieldN G p.r < 18446744073709551616) (hv : 0 ≤ treeV G es ∧ treeV G es < 18446744073709551616) :
    Calls Tryz.prog 67 #[.pointer (some ⟨G.q, 0, none⟩), .agg #[.int .i64 (a : Int), .slice ga.a ga.n ga.c]] w (SetDone d W0 G i f (((treeV G es).toNat % 2 ^ W.toNat : Nat) : Int) w) := by
  obtain ⟨W2, eW2⟩ : ∃ W2, W2 = (w.alloc (.cells #[.pointer (some ⟨G.q, 0, none⟩)] 77)).alloc (.cells #[.int .i64 (a : Int), .slice ga.a ga.n ga.c] 103) := ⟨_, rfl⟩
  obtain ⟨tb, htb⟩ : ∃ b, b = w.heap.size := ⟨_, rfl⟩
  obtain ⟨sb, hsb⟩ : ∃ b, b = w.heap.size + 1 := ⟨_, rfl⟩
  have b2 : Below w.heap.size w W2 := by rw [eW2]; exact bl_alloc (bl_alloc (Below.refl _ _))
  have ct : W2.cell? ⟨tb, 0, none⟩ = some (.pointer (some ⟨G.q, 0, none⟩)) := by rw [eW2, htb]; exact (World.cell?_alloc_past _ _ _ (by simp)).trans ((World.cell?_alloc_at _ _ _ _ rfl).trans rfl)
  have cs0 : W2.cell? ⟨sb, 0, none⟩ = some (.int .i64 (a : Int)) := by rw [eW2, hsb]; exact (World.cell?_alloc_at _ _ _ _ (by simp)).trans rfl
  have hg2 := hg.step b2
  have hal : a < d.acts.n := by
    have := (List.getElem?_eq_some_iff.1 hx).1
    rw [hg.lie.al.1] at this
    exact this
  obtain ⟨g, off, x', ea, hx', hp⟩ := row_at (hg.lie.al.step ActD.keeps (bl_step hg.bel b2)) hal
  obtain rfl : x = x' := Option.some.inj (hx.symm.trans hx')
  obtain ⟨_, _, x'', ea'', hx'', hp0⟩ := row_at hg.lie.al hal
  obtain rfl : x = x'' := Option.some.inj (hx.symm.trans hx'')
  have co : W2.cell? ⟨g, off + a * 2 + 1, none⟩ = some (.slice x.ops.a x.ops.n x.ops.c) := hp.2.1.1
  have hrow0 : QRow 5 OpD.lie W0 x.ops x.os := hp0.2.2.2
  have hon : x.ops.n = 1 := by rw [← hrow0.1, ho]; rfl
  obtain ⟨og, oo, o', eo, ho', hpo⟩ := row_at (hrow0.step OpD.keeps (bl_step hg.bel b2)) (i := 0) (by omega)
  obtain ⟨_, _, o'', _, ho'', hpo0⟩ := row_at hrow0 (i := 0) (by omega)
  rw [ho] at ho' ho''
  simp only [List.getElem?_cons_zero, Option.some.injEq] at ho' ho''
  subst ho'
  subst ho''
  have hE : QRow 4 PushD.lie W0 e es := hpo0.2.2.2.2.2
  have d0 : W2.cell? ⟨og, oo, none⟩ = some (.int .i64 1) := by have := hpo.1.1; simpa using this
  have d1 : W2.cell? ⟨og, oo + 1, none⟩ = some (.int .i64 (i : Int)) := by have := hpo.2.1.1; simpa using this
  have d2 : W2.cell? ⟨og, oo + 2, none⟩ = some (.int .i64 (f : Int)) := by have := hpo.2.2.1.1; simpa using this
  have d3 : W2.cell? ⟨og, oo + 3, none⟩ = some (.int .i64 hd) := by have := hpo.2.2.2.1.1; simpa using this
  have d4 : W2.cell? ⟨og, oo + 4, none⟩ = some (.slice e.a e.n e.c) := by have := hpo.2.2.2.2.1.1; simpa using this
  have q3 := hg2.box.2.2.2.1
  rw [ea] at q3
  rw [hon, eo] at co
  have hai : (a : Int) < (d.acts.n : Int) := by omega
  have HDD : Hid (∀ w', Below W2.heap.size W2 w' → Calls Tryz.prog 85 #[.pointer (some ⟨G.q, 0, none⟩), .agg #[.int .i64 1, .int .i64 (i : Int), .int .i64 (f : Int), .int .i64 hd, .slice e.a e.n e.c], readV sb tb] w' (SetDone d W0 G i f (((treeV G es).toNat % 2 ^ W.toNat : Nat) : Int) w')) := fun w' h => xdeed_set (hg2.step h) i f hd e es sb tb (cell_keep ct h) hi hf W hW hW1 hE hn hok hR hv
  have HB2 := hid b2
  have EW := hid eW2
  have ET := hid htb
  have ES := hid hsb
  generalize (((treeV G es).toNat % 2 ^ W.toNat : Nat) : Int) = xx at *
  clear hg hg2 b2 eW2 htb hsb hp hp0 hrow0 hpo hpo0 hE hn hok hR hv hW hW1 ho ea'' eo ea hx hx' hx'' hal
  go_enter Tryz.func67, Tryz.ntmps67
  go_upto_region 1 with fail
  rw [← EW.out, ← ES.out, ← ET.out]
  clear EW ES ET
  have ct' := cell_by ct
  have cs0' := cell_by cs0
  have q3' := cell_by q3
  have co' := cell_by co
  go_wp2_with fail
  haveI inhB : ∀ w : World, Inhabited (BelowBy w) := fun w => ⟨⟨w, Below.refl _ _⟩⟩
  refine wp_region_quiet_below (by kernel_rfl) (by kernel_rfl) ?_
  repeat (go_big_quiet_step (fail))
  refine wpQuiet_nil ?_
  intro wq hw'
  obtain ⟨⟨_, hwq⟩, hw''⟩ := hw'
  subst hw''
  have HQ0 := hid hwq
  clear hwq q3' co' cs0' ct' cs0 q3 co
  go_wp2
  go_loopw [19, 6] (fun q _ wr => ∃ k : Nat, k ≤ 1 ∧ q = .int .i64 (k : Int) ∧ Hid (k = 0 → Below W2.heap.size W2 wr) ∧ Hid (k = 1 → SetDone d W0 G i f xx w (.returned (.tuple #[])) wr)) (fun q _ _ => 1 - (intOf q).toNat)
  case atStart => exact ⟨0, by omega, rfl, fun _ => HQ0.out, fun h => absurd h (by decide)⟩
  case round =>
    obtain ⟨k, hk, rfl, HK0, HK1⟩ := hrel
    by_cases hk0 : k = 0
    · subst hk0
      have HB := hid (HK0.out rfl)
      clear HK0 HK1 hk HQ0
      have e0 := cell_keep d0 HB.out
      have e1 := cell_keep d1 HB.out
      have e2 := cell_keep d2 HB.out
      have e3 := cell_keep d3 HB.out
      have e4 := cell_keep d4 HB.out
      obtain ⟨W5, eW5⟩ : ∃ W5, W5 = wr.alloc (.cells #[.int .i64 1, .int .i64 (i : Int), .int .i64 (f : Int), .int .i64 hd, .slice e.a e.n e.c] 71) := ⟨_, rfl⟩
      obtain ⟨bx, hbx⟩ : ∃ b, b = wr.heap.size := ⟨_, rfl⟩
      have b5 : Below wr.heap.size wr W5 := by rw [eW5]; exact bl_alloc (Below.refl _ _)
      have cs : ∀ (j : Nat) (v : Value), (#[.int .i64 1, .int .i64 (i : Int), .int .i64 (f : Int), .int .i64 hd, .slice e.a e.n e.c] : Array Value)[j]? = some v → W5.cell? ⟨bx, j, none⟩ = some v := fun j v hv => by rw [eW5, hbx]; exact (World.cell?_alloc_at _ _ _ _ rfl).trans hv
      have g0 := cs 0 _ rfl
      have g1 := cs 1 _ rfl
      have g2 := cs 2 _ rfl
      have g3 := cs 3 _ rfl
      have g4 := cs 4 _ rfl
      have ct5 := cell_keep (cell_keep ct HB.out) b5
      have HB5 := hid (bl_step HB.out b5)
      have HDX := hid (HDD.out W5 HB5.out)
      have EW := hid eW5
      have EB := hid hbx
      clear cs eW5 hbx b5 HB HDD d0 d1 d2 d3 d4
      go_upto_region 5 with fail
      rw [← EW.out, ← EB.out]
      clear EW EB
      go_wp2_with fail
      refine HDX.out.mono ?_
      rintro q w6 ⟨rfl, hg6, hf6⟩
      have HN : Hid (SetDone d W0 G i f xx w (.returned (.tuple #[])) w6) := ⟨rfl, hg6, (Fr.of (bl_step HB2.out HB5.out)).trans hf6⟩
      clear hg6 hf6 HDX HB5 g0 g1 g2 g3 g4 ct5 e0 e1 e2 e3 e4
      go_wp2
      go_roundw
      case rel => exact ⟨1, by omega, by go_num, fun h => absurd h (by decide), fun _ => HN.out⟩
      case measure => simp [intOf]
    · obtain rfl : k = 1 := by omega
      have HF := hid (HK1.out rfl)
      clear HK0 HK1
      go_wp2
      go_end0
      exact HF.out
end Go.Proofs.YtajelgjbgehahaaGreat

namespace Go.Proofs.YtajelgjbgehahaaGreat
open Go.RowKit

set_option maxHeartbeats 8000000 in
set_option maxRecDepth 20000 in
theorem xstop_do {d : PlanD} {W0 w : World} {G : TripD} (hg : TripAt d W0 G w) (a : Nat) (e : QSl) (yes no : Int)
    (G' : TripD) (hD : ∀ w', Below w.heap.size w w' → Calls Tryz.prog 67 #[.pointer (some ⟨G.q, 0, none⟩), .agg #[.int .i64 (a : Int), .slice none 0 0]] w' fun q w'' => q = .returned (.tuple #[]) ∧ TripAt d W0 G' w'' ∧ Fr G d.heads.n w' w'') :
    Calls Tryz.prog 40 #[.agg #[.pointer (some ⟨G.q, 0, none⟩), .int .i64 2, .int .i64 (a : Int), .slice e.a e.n e.c, .int .i64 yes, .int .i64 no]] w fun q w'' => q = .returned (.int .i64 yes) ∧ TripAt d W0 G' w'' ∧ Fr G d.heads.n w w'' := by
  obtain ⟨W1, eW1⟩ : ∃ W1, W1 = w.alloc (.cells #[.pointer (some ⟨G.q, 0, none⟩), .int .i64 2, .int .i64 (a : Int), .slice e.a e.n e.c, .int .i64 yes, .int .i64 no] 119) := ⟨_, rfl⟩
  obtain ⟨bx, hbx⟩ : ∃ b, b = w.heap.size := ⟨_, rfl⟩
  have b1 : Below w.heap.size w W1 := by rw [eW1]; exact bl_alloc (Below.refl _ _)
  have cs : ∀ (j : Nat) (v : Value), (#[.pointer (some ⟨G.q, 0, none⟩), .int .i64 2, .int .i64 (a : Int), .slice e.a e.n e.c, .int .i64 yes, .int .i64 no] : Array Value)[j]? = some v → W1.cell? ⟨bx, j, none⟩ = some v := fun j v hv => by rw [eW1, hbx]; exact (World.cell?_alloc_at _ _ _ _ rfl).trans hv
  have c0 := cs 0 _ rfl
  have c1 := cs 1 _ rfl
  have c2 := cs 2 _ rfl
  have c4 := cs 4 _ rfl
  have HD := hid (hD W1 b1)
  have HBO : Hid (¬ G.own d.heads.n bx) := hg.new (by omega)
  have HB1 := hid b1
  have EW := hid eW1
  have EB := hid hbx
  clear hg b1 eW1 hbx cs hD
  go_enter Tryz.func40, Tryz.ntmps40
  go_upto_region 1 with fail
  rw [← EW.out, ← EB.out]
  clear EW EB
  go_wp2_with fail
  refine HD.out.mono ?_
  rintro q w2 ⟨rfl, hg2, hf2⟩
  have k4 := hf2.cell HBO.out c4
  have HF : Hid (TripAt d W0 G' w2 ∧ Fr G d.heads.n w w2) := ⟨hg2, (Fr.of HB1.out).trans hf2⟩
  clear hg2 hf2 HD c0 c1 c2 c4
  go_wp2
  go_ret
  exact ⟨rfl, HF.out⟩
end Go.Proofs.YtajelgjbgehahaaGreat

namespace Go.Proofs.YtajelgjbgehahaaGreat
open Go.RowKit

theorem psize_good {m : Nat} {ws : List Int} (h : Mth.Head ws m) : ∀ a c w, Has .i64 w a m ws → Calls Tryz.prog 70 #[HD a m c] w fun e w' => e = .returned (.tuple #[.int .i64 ((Mth.off ws m / 8 : Nat) : Int), .agg #[.int .i64 0, .int .i64 0]]) ∧ Below w.heap.size w w' := fun a c w hw =>
  (size_end a m c ws w h.1 h.2.1 hw h.2.2.1).mono fun e w' ⟨x, he, ht, hb⟩ => ⟨by rw [he, ht.1 h.2.2.2], hb⟩

/-- all numbers of a header turn, from a place on -/
theorem TripAt.putAll {d : PlanD} {W0 : World} : ∀ (vs : List Int) (o : Nat) {w : World} {G : TripD} {i : Nat} {zs : List Int}, TripAt d W0 G w → G.V[i]? = some zs → o + vs.length = zs.length → (∀ v ∈ vs, 0 ≤ v ∧ v < 18446744073709551616) →
    TripAt d W0 { G with V := G.V.set i (zs.take o ++ vs) } (w.setCells (G.rb i) o (UU vs))
  | [], o, w, G, i, zs, h, hi, hl, _ => by
    have e : zs.take o ++ [] = zs := by
      rw [List.append_nil]
      exact List.take_of_length_le (by simp at hl; omega)
    have e2 : G.V.set i (zs.take o ++ []) = G.V := by
      rw [e]
      refine List.ext_getElem? fun j => ?_
      rw [List.getElem?_set]
      by_cases hj : i = j
      · subst hj
        rw [if_pos rfl, if_pos (List.getElem?_eq_some_iff.1 hi).1, hi]
      · rw [if_neg hj]
    show TripAt d W0 { G with V := G.V.set i (zs.take o ++ []) } w
    rw [e2]
    exact h
  | v :: vs, o, w, G, i, zs, h, hi, hl, hv => by
    have hlo : o < zs.length := by simp at hl; omega
    have h1 := h.putV hi hlo (hv v (by simp))
    have hil : i < G.V.length := (List.getElem?_eq_some_iff.1 hi).1
    have hi1 : ({ G with V := G.V.set i (zs.set o v) } : TripD).V[i]? = some (zs.set o v) := by
      show (G.V.set i (zs.set o v))[i]? = _
      rw [List.getElem?_set, if_pos rfl, if_pos hil]
    have h2 := TripAt.putAll vs (o + 1) h1 hi1 (by rw [List.length_set]; simp at hl; omega) (fun x hx => hv x (by simp [hx]))
    have e : (zs.set o v).take (o + 1) ++ vs = zs.take o ++ v :: vs := by
      rw [List.take_add_one, List.take_set_of_le (Nat.le_refl _), List.getElem?_set, if_pos rfl, if_pos hlo]
      simp
    have e2 : (G.V.set i (zs.set o v)).set i ((zs.set o v).take (o + 1) ++ vs) = G.V.set i (zs.take o ++ v :: vs) := by rw [List.set_set, e]
    have h3 : TripAt d W0 { G with V := (G.V.set i (zs.set o v)).set i ((zs.set o v).take (o + 1) ++ vs) } ((w.setCell ⟨G.rb i, o, none⟩ (.int .u64 v)).setCells (G.rb i) (o + 1) (UU vs)) := h2
    rw [e2] at h3
    exact h3

theorem Fr.cells {G : TripD} {m b : Nat} (hb : G.own m b) : ∀ (vs : List Value) (o : Nat) (w : World), Fr G m w (w.setCells b o vs)
  | [], _, _ => ⟨rfl, rfl, rfl, Nat.le_refl _, fun _ _ _ => rfl⟩
  | _ :: vs, o, _ => (Fr.set hb).trans (Fr.cells hb vs (o + 1) _)

theorem copy_run {w w' : World} {ops : Array Oper} {rest : List Oper} {o : Oper} {a : Act} {Q : Exit → Act → World → Prop} {TS : TypeId} (hgd : o.guard = none) (s x : Operand)
    (ho : o.op = .call { callee := .builtin .copy, args := #[s, x], argTypes := #[TS, TS] }) {vs vx v' : Value} (hs : a.eval s = vs) (hx : a.eval x = vx) (hrun : (Builtin.copy_ #[TS, TS] o.type #[vs, vx]).run Tryz.prog w = .ok v' w')
    (h : wpList Tryz.prog ops Q rest (a.put o.dst v') w') : wpList Tryz.prog ops Q (o :: rest) a w :=
  wpList_plain hgd fun _ hK => by
    unfold Oper.wp execOp
    simp only [ho, resolve, invoke, builtin, Sem.run_bind, Sem.run_pure, Result.andThen_ok, List.map_toArray, List.map_cons, List.map_nil, hs, hx, hrun]
    exact hK _ _ h

set_option maxHeartbeats 4000000 in
set_option maxRecDepth 20000 in
theorem xload_any {d : PlanD} {W0 w : World} {G : TripD} (hg : TripAt d W0 G w) (i : Nat) (hi : i < d.heads.n) (lb lo lc : Nat) (l : List Int) (hl : Has .u64 w (some ⟨lb, lo, none⟩) l.length l) (hll : l.length = (G.V.getD i []).length) :
    Calls Tryz.prog 82 #[.pointer (some ⟨G.q, 7, none⟩), .int .i64 (i : Int), .slice (some ⟨lb, lo, none⟩) l.length lc] w fun e w' => e = .returned (.tuple #[]) ∧ TripAt d W0 { G with T := G.T.set i true, V := G.V.set i l } w' ∧ Fr G d.heads.n w w' := by
  have c7 := hg.c7
  rw [hg.va (by omega)] at c7
  have c8 := hg.c8
  have hil : i < G.V.length := by rw [hg.vl]; exact hi
  have eV : G.V[i]? = some (G.V.getD i []) := by rw [List.getD_eq_getElem?_getD, List.getElem?_eq_getElem hil]; rfl
  obtain ⟨cv, hnum, _⟩ := hg.vs i _ eV
  have itl : i < G.T.length := by rw [hg.tl]; exact hi
  have ct := hg.ts i _ (List.getElem?_eq_getElem itl)
  have tf := hg.tf i
  have htl := hg.nt.2
  have hii : (i : Int) < (d.heads.n : Int) := by omega
  obtain ⟨W1, eW1⟩ : ∃ W1, W1 = w.setCell ⟨G.th, i, none⟩ (.bool true) := ⟨_, rfl⟩
  have hg1 : TripAt d W0 { G with T := G.T.set i true } W1 := by rw [eW1]; exact hg.putT hi true
  have f1 : Fr G d.heads.n w W1 := by rw [eW1]; exact Fr.set (.inr (.inl rfl))
  have hs1 : ∀ j v, (UU l)[j]? = some v → W1.cell? ((⟨lb, lo, none⟩ : Addr).add j) = some v := fun j v hj => by
    have := has_cells64 hl j v hj
    rw [eW1, World.cell?_setCell_other _ _ _ _ (by
      intro e
      rw [← e, ct] at this
      simp only [UU, List.getElem?_map, Option.map_eq_some_iff] at hj
      obtain ⟨z, _, rfl⟩ := hj
      cases this)]
    exact this
  obtain ⟨cv1, hnum1, _⟩ := hg1.vs i _ eV
  have hrun := run_copy_cells (P := Tryz.prog) W1 53 53 3 22 (G.rb i) 0 (G.V.getD i []).length (G.V.getD i []).length ⟨lb, lo, none⟩ l.length lc (UU l) Tryz.underlying53 (by have := Tryz.infoNum; cases hq : Tryz.prog.info? 22 with | none => rw [hq] at this; cases this | some y => rw [hq] at this; simp at this ⊢; exact this.2.1) (by simp [UU, hll]) hs1 (fun j hj => by
      have hj' : j < (G.V.getD i []).length := by simpa [UU, hll] using hj
      rw [Nat.zero_add, hnum1.1 j _ (List.getElem?_eq_getElem hj')]
      rfl) (fun j _ => hnum1.2.1 _) (uu_one l)
  obtain ⟨W2, eW2⟩ : ∃ W2, W2 = W1.setCells (G.rb i) 0 (UU l) := ⟨_, rfl⟩
  rw [← eW2] at hrun
  have hg2 : TripAt d W0 { G with T := G.T.set i true, V := G.V.set i l } W2 := by
    have := TripAt.putAll l 0 hg1 eV (by rw [hll, Nat.zero_add]) hl.nums
    rw [eW2]
    simpa using this
  have f2 : Fr G d.heads.n w W2 := f1.trans (by rw [eW2]; exact Fr.cells (.inr (.inr (.inr ⟨i, hi, rfl⟩))) _ _ _)
  have c7' := hg1.c7
  rw [hg1.va (by omega)] at c7'
  have HF := hid (And.intro hg2 f2)
  have EW := hid eW1
  dsimp only at c7' cv1
  generalize (G.V.getD i []).length = m at *
  generalize G.T[i] = tv at ct
  clear hg hg1 hg2 f1 f2 eW1 eW2 hs1 hnum hnum1 eV hil hl itl hll
  go_enter Tryz.func82, Tryz.ntmps82
  go_upto_region 1 with fail
  rw [← EW.out]
  clear EW
  go_wp2_with (at_builtin; refine copy_run rfl _ _ rfl rfl rfl hrun ?_)
  go_end0
  exact ⟨rfl, HF.out⟩
end Go.Proofs.YtajelgjbgehahaaGreat

namespace Go.Proofs.YtajelgjbgehahaaGreat
open Go.RowKit

/-- what Read told, behind the region that asks it -/
def ReadAt (W1 : World) (m : Nat) (C : Int) (zs : List Int) (v6 v7 : Value) (wx : World) : Prop := ∃ (fb : Nat) (lg : Option Addr) (lc : Nat), v6 = .slice lg (if C = 0 then m else 0) lc ∧ v7 = .pointer (some ⟨fb, 0, none⟩) ∧ wx.cell? ⟨fb, 0, none⟩ = some (.int .i64 C) ∧ (C = 0 → Has .u64 wx lg m zs) ∧ Below W1.heap.size W1 wx

theorem readat_of {W1 w3 : World} {m fb lc : Nat} {C A : Int} {lg : Option Addr} {zs : List Int} {y z : Int} (hb : Below W1.heap.size W1 w3) (hf : W1.heap.size ≤ fb) (z0 : w3.cell? ⟨fb, 0, none⟩ = some (.int .i64 y)) (z1 : w3.cell? ⟨fb, 1, none⟩ = some (.int .i64 z)) (hh : C = 0 → Has .u64 w3 lg m zs) :
    ReadAt W1 m C zs (.slice lg (if C = 0 then m else 0) lc) (.pointer (some ⟨fb, 0, none⟩)) ((w3.setCell ⟨fb, 0, none⟩ (.int .i64 C)).setCell ⟨fb, 1, none⟩ (.int .i64 A)) :=
  ⟨fb, lg, lc, rfl, rfl, (World.cell?_setCell_other _ _ _ _ (by intro e; cases e)).trans (World.cell?_setCell_same _ _ _ z0), fun h => (hh h).put2 (by decide) z0 z1 _ _, (hb.setCell (p := ⟨fb, 0, none⟩) hf _).setCell (p := ⟨fb, 1, none⟩) hf _⟩

/-- what Read tells, as one contract -/
def ReadsAt (x : HeadD) (pb : QSl) (tk : Nat) (C A : Int) (zs : List Int) (w : World) : Prop := Calls Tryz.prog 81 #[.agg #[.slice x.w.a x.w.n x.w.c], .slice pb.a pb.n pb.c, .int .i64 (tk : Int)] w fun e w' => ∃ (lg : Option Addr) (lc : Nat), e = .returned (.tuple #[.slice lg (if C = 0 then x.w.n else 0) lc, .agg #[.int .i64 C, .int .i64 A]]) ∧ (C = 0 → Has .u64 w' lg x.w.n zs) ∧ Below w.heap.size w w'

set_option linter.unusedSimpArgs false in
set_option maxHeartbeats 8000000 in
set_option maxRecDepth 20000 in
theorem xtake_reg {d : PlanD} {W0 w : World} {G : TripD} (hg : TripAt d W0 G w) (i : Nat) (x : HeadD) (hx : d.hs[i]? = some x) (C A : Int) (zs : List Int) (N : Nat) (hR : ∀ w', Below w.heap.size w w' → ReadsAt x G.b G.taken C A zs w')
    (hS : ∀ w', Below w.heap.size w w' → Calls Tryz.prog 70 #[.agg #[.slice x.w.a x.w.n x.w.c]] w' fun e w'' => e = .returned (.tuple #[.int .i64 (N : Int), .agg #[.int .i64 0, .int .i64 0]]) ∧ Below w'.heap.size w' w'') (hzl : C = 0 → zs.length = x.w.n ∧ 1 ≤ x.w.n ∧ x.w.n = (G.V.getD i []).length) (hN : N ≤ 32) (ht : G.taken ≤ 100000) :
    Calls Tryz.prog 65 #[.pointer (some ⟨G.q, 0, none⟩), .int .i64 (i : Int)] w fun e w' => if C = 0 then e = .returned (.bool true) ∧ TripAt d W0 { G with taken := G.taken + N, T := G.T.set i true, V := G.V.set i zs } w' ∧ Fr G d.heads.n w w' else e = .returned (.bool false) ∧ TripAt d W0 G w' ∧ Fr G d.heads.n w w' := by
  have hil : i < d.heads.n := by
    have := (List.getElem?_eq_some_iff.1 hx).1
    rw [hg.lie.hs.1] at this
    exact this
  obtain ⟨g, off, x', ea, hx', hp⟩ := row_at (hg.lie.hs.step HeadD.keeps hg.bel) hil
  obtain rfl : x = x' := Option.some.inj (hx.symm.trans hx')
  have hc0 := Eq.mp (by rw [Nat.mul_one]) hp.1.1
  have q0 := hg.box.1
  rw [ea] at q0
  obtain ⟨W1, eW1⟩ : ∃ W1, W1 = w.alloc (.cells #[.slice x.w.a x.w.n x.w.c] 63) := ⟨_, rfl⟩
  obtain ⟨hb, hhb⟩ : ∃ b, b = w.heap.size := ⟨_, rfl⟩
  have b1 : Below w.heap.size w W1 := by rw [eW1]; exact bl_alloc (Below.refl _ _)
  have ch : W1.cell? ⟨hb, 0, none⟩ = some (.slice x.w.a x.w.n x.w.c) := by rw [eW1, hhb]; exact (World.cell?_alloc_at _ _ _ _ rfl).trans rfl
  have hg1 := hg.step b1
  have HCS : Hid (∀ w', Below W1.heap.size W1 w' → w'.cell? ⟨hb, 0, none⟩ = some (.slice x.w.a x.w.n x.w.c) ∧ w'.cell? ⟨G.q, 12, none⟩ = some (.slice G.b.a G.b.n G.b.c) ∧ w'.cell? ⟨G.q, 13, none⟩ = some (.int .i64 (G.taken : Int))) := fun w' h => ⟨cell_keep ch h, cell_keep hg1.c12 h, cell_keep hg1.c13 h⟩
  have HRD : Hid (∀ w', Below W1.heap.size W1 w' → ReadsAt x G.b G.taken C A zs w') := fun w' h => hR w' (bl_step b1 h)
  have HSZ : Hid (∀ w', Below W1.heap.size W1 w' → Calls Tryz.prog 70 #[.agg #[.slice x.w.a x.w.n x.w.c]] w' fun e w'' => e = .returned (.tuple #[.int .i64 (N : Int), .agg #[.int .i64 0, .int .i64 0]]) ∧ Below w'.heap.size w' w'') := fun w' h => hS w' (bl_step b1 h)
  have HG1 := hid hg1
  have HB1 := hid b1
  have EW := hid eW1
  have EB := hid hhb
  have hii : (i : Int) < (d.heads.n : Int) := by omega
  have HZL := hid hzl
  have HIL := hid hil
  have HQ := hid (hg.new (b := hb) (by omega))
  obtain ⟨q, hq⟩ : ∃ q, q = G.q := ⟨_, rfl⟩
  obtain ⟨pb, hpb⟩ : ∃ pb, pb = G.b := ⟨_, rfl⟩
  obtain ⟨tk, htk⟩ : ∃ tk, tk = G.taken := ⟨_, rfl⟩
  have HEQ := hid hq
  have HTK := hid htk
  rw [← hq, ← hpb, ← htk] at HCS
  rw [← hpb, ← htk] at HRD
  rw [← hq] at q0 ⊢
  rw [← htk] at ht
  clear hg hg1 b1 eW1 hhb hR hS hzl hx hx' hp hq hpb htk ea
  go_enter Tryz.func65, Tryz.ntmps65
  go_upto_region 2 with fail
  rw [← EW.out, ← EB.out]
  clear EW EB q0 hc0
  go_cut [6, 7] (fun v6 v7 wx => Hid (ReadAt W1 x.w.n C zs v6 v7 wx))
  case first =>
    refine wp_region_cut 15 (by kernel_rfl) (by kernel_rfl) ?_
    refine wpAny_of_held (S := (fun w' => w'.cell? ⟨hb, 0, none⟩ = some (.slice x.w.a x.w.n x.w.c) ∧ w'.cell? ⟨q, 12, none⟩ = some (.slice pb.a pb.n pb.c) ∧ w'.cell? ⟨q, 13, none⟩ = some (.int .i64 (tk : Int)))) _ _ _ _ ?_
    have hHeld := HCS.out _ (Below.refl W1.heap.size W1).drew
    refine wpAnyH_take (i := 0) (v := ?_) (drop_at rfl) (by kernel_rfl) (by kernel_rfl) (by kernel_rfl) (fun _ _ _ h => h) (Or.inl ⟨by rfl, ?_⟩) hHeld ?_
    rotate_left
    · intro w0 hSw
      try dsimp only at hSw
      go_simp
      try with_reducible rfl
    try simp only [Act.put, List.setIfInBounds_toArray, List.set_cons_zero, List.set_cons_succ]
    refine wpAnyH_take (i := 1) (v := ?_) (drop_at rfl) (by kernel_rfl) (by kernel_rfl) (by kernel_rfl) (fun _ _ _ h => h) (Or.inl ⟨by rfl, ?_⟩) hHeld ?_
    rotate_left
    · intro w0 hSw
      try dsimp only at hSw
      go_simp
      try with_reducible rfl
    try simp only [Act.put, List.setIfInBounds_toArray, List.set_cons_zero, List.set_cons_succ]
    refine wpAnyH_take (i := 2) (v := ?_) (drop_at rfl) (by kernel_rfl) (by kernel_rfl) (by kernel_rfl) (fun _ _ _ h => h) (Or.inl ⟨by rfl, ?_⟩) hHeld ?_
    rotate_left
    · intro w0 hSw
      try dsimp only at hSw
      go_simp
      try with_reducible rfl
    try simp only [Act.put, List.setIfInBounds_toArray, List.set_cons_zero, List.set_cons_succ]
    refine wpAnyH_take (i := 3) (v := ?_) (drop_at rfl) (by kernel_rfl) (by kernel_rfl) (by kernel_rfl) (fun _ _ _ h => h) (Or.inl ⟨by rfl, ?_⟩) hHeld ?_
    rotate_left
    · intro w0 hSw
      try dsimp only at hSw
      go_simp
      try with_reducible rfl
    try simp only [Act.put, List.setIfInBounds_toArray, List.set_cons_zero, List.set_cons_succ]
    refine wpAnyH_take (i := 4) (v := ?_) (drop_at rfl) (by kernel_rfl) (by kernel_rfl) (by kernel_rfl) (fun _ _ _ h => h) (Or.inl ⟨by rfl, ?_⟩) hHeld ?_
    rotate_left
    · intro w0 hSw
      try dsimp only at hSw
      go_simp
      try with_reducible rfl
    try simp only [Act.put, List.setIfInBounds_toArray, List.set_cons_zero, List.set_cons_succ]
    refine wpAnyH_take (i := 5) (v := ?_) (drop_at rfl) (by kernel_rfl) (by kernel_rfl) (by kernel_rfl) (fun _ _ _ h => h) (Or.inl ⟨by rfl, ?_⟩) hHeld ?_
    rotate_left
    · intro w0 hSw
      try dsimp only at hSw
      go_simp
      try with_reducible rfl
    try simp only [Act.put, List.setIfInBounds_toArray, List.set_cons_zero, List.set_cons_succ]
    refine wpAnyH_take (i := 6) (v := ?_) (drop_at rfl) (by kernel_rfl) (by kernel_rfl) (by kernel_rfl) (fun _ _ _ h => h) (Or.inl ⟨by rfl, ?_⟩) hHeld ?_
    rotate_left
    · intro w0 hSw
      try dsimp only at hSw
      go_simp
      try with_reducible rfl
    try simp only [Act.put, List.setIfInBounds_toArray, List.set_cons_zero, List.set_cons_succ]
    refine wpAnyH_take (i := 7) (v := ?_) (drop_at rfl) (by kernel_rfl) (by kernel_rfl) (by kernel_rfl) (fun _ _ _ h => h) (Or.inl ⟨by rfl, ?_⟩) hHeld ?_
    rotate_left
    · intro w0 hSw
      try dsimp only at hSw
      go_simp
      try with_reducible rfl
    try simp only [Act.put, List.setIfInBounds_toArray, List.set_cons_zero, List.set_cons_succ]
    refine wpAnyH_take (i := 8) (v := ?_) (drop_at rfl) (by kernel_rfl) (by kernel_rfl) (by kernel_rfl) (fun _ _ _ h => h) (Or.inl ⟨by rfl, ?_⟩) hHeld ?_
    rotate_left
    · intro w0 hSw
      try dsimp only at hSw
      go_simp
      try with_reducible rfl
    try simp only [Act.put, List.setIfInBounds_toArray, List.set_cons_zero, List.set_cons_succ]
    refine wpAnyH_ready (rs := [9, 13]) (by kernel_rfl) (by simp) ?_
    refine AllReadyH.cons (drop_at rfl) (fun K hK => ?_) (AllReadyH.cons (drop_at rfl) (fun K hK => ?_) AllReadyH.nil)
    · go_simp
      go_at_call 81
      refine Calls.mono (HRD.out _ (Below.refl W1.heap.size W1).drew) ?_
      rintro e w2 ⟨lg, lc, rfl, hz, hb2⟩
      have HB2 : Hid (Below W1.heap.size W1 w2) := bl_step (Below.refl W1.heap.size W1).drew hb2
      have HZ := hid hz
      clear hz hb2
      refine hK.out _ _ (HCS.out _ HB2.out) (fun hHeld => ?_)
      clear hK K
      try simp only [Act.put, List.setIfInBounds_toArray, List.set_cons_zero, List.set_cons_succ]
      refine wpAnyH_take (i := 10) (v := ?_) (drop_at rfl) (by kernel_rfl) (by kernel_rfl) (by kernel_rfl) (fun _ _ _ h => h) (Or.inl ⟨by rfl, ?_⟩) hHeld ?_
      rotate_left
      · intro w0 hSw
        try dsimp only at hSw
        go_simp
        try with_reducible rfl
      try simp only [Act.put, List.setIfInBounds_toArray, List.set_cons_zero, List.set_cons_succ]
      refine wpAnyH_take (i := 11) (v := ?_) (drop_at rfl) (by kernel_rfl) (by kernel_rfl) (by kernel_rfl) (fun _ _ _ h => h) (Or.inl ⟨by rfl, ?_⟩) hHeld ?_
      rotate_left
      · intro w0 hSw
        try dsimp only at hSw
        go_simp
        try with_reducible rfl
      try simp only [Act.put, List.setIfInBounds_toArray, List.set_cons_zero, List.set_cons_succ]
      refine wpAnyH_take (i := 12) (v := ?_) (drop_at rfl) (by kernel_rfl) (by kernel_rfl) (by kernel_rfl) (fun _ _ _ h => h) (Or.inl ⟨by rfl, ?_⟩) hHeld ?_
      rotate_left
      · intro w0 hSw
        try dsimp only at hSw
        go_simp
        try with_reducible rfl
      try simp only [Act.put, List.setIfInBounds_toArray, List.set_cons_zero, List.set_cons_succ]
      refine wpAnyH_ready (rs := [13]) (by kernel_rfl) (by simp) ?_
      refine AllReadyH.cons (drop_at rfl) (fun K hK => ?_) AllReadyH.nil
      go_simp
      obtain ⟨W3, eW3⟩ : ∃ W3, W3 = w2.alloc (.cells #[.int .i64 0, .int .i64 0] 28) := ⟨_, rfl⟩
      obtain ⟨fb, hfb⟩ : ∃ fb, fb = w2.heap.size := ⟨_, rfl⟩
      have z0 : W3.cell? ⟨fb, 0, none⟩ = some (.int .i64 0) := by rw [eW3, hfb]; exact (World.cell?_alloc_at _ _ _ _ rfl).trans rfl
      have z1 : W3.cell? ⟨fb, 1, none⟩ = some (.int .i64 0) := by rw [eW3, hfb]; exact (World.cell?_alloc_at _ _ _ _ rfl).trans rfl
      have f0 : W3.frozen? ⟨fb, 0, none⟩ = false := by rw [eW3, hfb]; exact World.frozen?_alloc_at _ _ _ _ rfl
      have f1 : W3.frozen? ⟨fb, 1, none⟩ = false := by rw [eW3, hfb]; exact World.frozen?_alloc_at _ _ _ _ rfl
      have HB3 : Hid (Below W1.heap.size W1 W3) := by rw [eW3]; exact bl_alloc HB2.out
      have HRT : Hid (ReadAt W1 x.w.n C zs (.slice lg (if C = 0 then x.w.n else 0) lc) (.pointer (some ⟨fb, 0, none⟩)) ((W3.setCell ⟨fb, 0, none⟩ (.int .i64 C)).setCell ⟨fb, 1, none⟩ (.int .i64 A))) := readat_of HB3.out (by rw [hfb]; exact HB2.out.size) z0 z1 (fun h => by rw [eW3]; exact (HZ.out h).alloc)
      have hfl : fb < W3.heap.size := World.block_lt_of_cell? _ _ z0
      rw [← eW3, ← hfb]
      clear eW3 hfb HZ
      refine hK.out _ _ (HCS.out _ HB3.out) (fun hHeld => ?_)
      clear hK K
      try simp only [Act.put, List.setIfInBounds_toArray, List.set_cons_zero, List.set_cons_succ]
      refine wpAnyH_take (i := 14) (v := ?_) (drop_at rfl) (by kernel_rfl) (by kernel_rfl) (by kernel_rfl) (fun _ _ _ h => h) (Or.inl ⟨by rfl, ?_⟩) hHeld ?_
      rotate_left
      · intro w0 hSw
        try dsimp only at hSw
        go_simp
        try with_reducible rfl
      try simp only [Act.put, List.setIfInBounds_toArray, List.set_cons_zero, List.set_cons_succ]
      refine wpAnyH_done (by kernel_rfl) ?_ _
      show wpList _ _ _ _ _ _
      simp only [List.drop_succ_cons, List.drop_zero]
      generalize (if C = 0 then x.w.n else 0) = nn at *
      clear hHeld HCS HRD HSZ HB2 HB3
      go_wp2_with fail
      go_meet
      exact HRT
    · go_simp
      obtain ⟨W3, eW3⟩ : ∃ W3, W3 = (W1.alloc (.cells #[.int .i64 0, .int .i64 0] 28)).drew := ⟨_, rfl⟩
      obtain ⟨fb, hfb⟩ : ∃ fb, fb = W1.heap.size := ⟨_, rfl⟩
      have z0 : W3.cell? ⟨fb, 0, none⟩ = some (.int .i64 0) := by rw [eW3, hfb]; exact (World.cell?_alloc_at _ _ _ _ rfl).trans rfl
      have z1 : W3.cell? ⟨fb, 1, none⟩ = some (.int .i64 0) := by rw [eW3, hfb]; exact (World.cell?_alloc_at _ _ _ _ rfl).trans rfl
      have f0 : W3.frozen? ⟨fb, 0, none⟩ = false := by rw [eW3, hfb]; exact World.frozen?_alloc_at _ _ _ _ rfl
      have f1 : W3.frozen? ⟨fb, 1, none⟩ = false := by rw [eW3, hfb]; exact World.frozen?_alloc_at _ _ _ _ rfl
      have HB3 : Hid (Below W1.heap.size W1 W3) := by rw [eW3]; exact (bl_alloc (Below.refl W1.heap.size W1)).drew
      have hfe := hfb
      have EW3 := hid eW3
      have HFE := hid hfe
      try rw [← EW3.out]
      try rw [← HFE.out]
      have hfl : fb < W3.heap.size := World.block_lt_of_cell? _ _ z0
      clear eW3 hfb hfe
      refine hK.out _ _ (HCS.out _ HB3.out) (fun hHeld => ?_)
      clear hK K
      try simp only [Act.put, List.setIfInBounds_toArray, List.set_cons_zero, List.set_cons_succ]
      refine wpAnyH_ready (rs := [9]) (by kernel_rfl) (by simp) ?_
      refine AllReadyH.cons (drop_at rfl) (fun K hK => ?_) AllReadyH.nil
      go_simp
      go_at_call 81
      refine Calls.mono (HRD.out _ HB3.out) ?_
      rintro e w2 ⟨lg, lc, rfl, hz, hb2⟩
      have HB2 : Hid (Below W1.heap.size W1 w2) := bl_step HB3.out hb2
      have z0' := cell_keep z0 hb2
      have z1' := cell_keep z1 hb2
      have f0' := (hb2.frozen (p := ⟨fb, 0, none⟩) hfl).trans f0
      have f1' := (hb2.frozen (p := ⟨fb, 1, none⟩) hfl).trans f1
      have hfl' : fb < w2.heap.size := World.block_lt_of_cell? _ _ z0'
      have HRT : Hid (ReadAt W1 x.w.n C zs (.slice lg (if C = 0 then x.w.n else 0) lc) (.pointer (some ⟨fb, 0, none⟩)) ((w2.setCell ⟨fb, 0, none⟩ (.int .i64 C)).setCell ⟨fb, 1, none⟩ (.int .i64 A))) := readat_of HB2.out (by have := HFE.out; omega) z0' z1' hz
      clear hz hb2 z0 z1 f0 f1 hfl
      refine hK.out _ _ (HCS.out _ HB2.out) (fun hHeld => ?_)
      clear hK K
      try simp only [Act.put, List.setIfInBounds_toArray, List.set_cons_zero, List.set_cons_succ]
      refine wpAnyH_take (i := 10) (v := ?_) (drop_at rfl) (by kernel_rfl) (by kernel_rfl) (by kernel_rfl) (fun _ _ _ h => h) (Or.inl ⟨by rfl, ?_⟩) hHeld ?_
      rotate_left
      · intro w0 hSw
        try dsimp only at hSw
        go_simp
        try with_reducible rfl
      try simp only [Act.put, List.setIfInBounds_toArray, List.set_cons_zero, List.set_cons_succ]
      refine wpAnyH_take (i := 11) (v := ?_) (drop_at rfl) (by kernel_rfl) (by kernel_rfl) (by kernel_rfl) (fun _ _ _ h => h) (Or.inl ⟨by rfl, ?_⟩) hHeld ?_
      rotate_left
      · intro w0 hSw
        try dsimp only at hSw
        go_simp
        try with_reducible rfl
      try simp only [Act.put, List.setIfInBounds_toArray, List.set_cons_zero, List.set_cons_succ]
      refine wpAnyH_take (i := 12) (v := ?_) (drop_at rfl) (by kernel_rfl) (by kernel_rfl) (by kernel_rfl) (fun _ _ _ h => h) (Or.inl ⟨by rfl, ?_⟩) hHeld ?_
      rotate_left
      · intro w0 hSw
        try dsimp only at hSw
        go_simp
        try with_reducible rfl
      try simp only [Act.put, List.setIfInBounds_toArray, List.set_cons_zero, List.set_cons_succ]
      refine wpAnyH_take (i := 14) (v := ?_) (drop_at rfl) (by kernel_rfl) (by kernel_rfl) (by kernel_rfl) (fun _ _ _ h => h) (Or.inl ⟨by rfl, ?_⟩) hHeld ?_
      rotate_left
      · intro w0 hSw
        try dsimp only at hSw
        go_simp
        try with_reducible rfl
      try simp only [Act.put, List.setIfInBounds_toArray, List.set_cons_zero, List.set_cons_succ]
      refine wpAnyH_done (by kernel_rfl) ?_ _
      show wpList _ _ _ _ _ _
      simp only [List.drop_succ_cons, List.drop_zero]
      generalize (if C = 0 then x.w.n else 0) = nn at *
      clear hHeld HCS HRD HSZ HB2 HB3 EW3 HFE
      go_wp2_with fail
      go_meet
      exact HRT
  case rest =>
    obtain ⟨fb, lg, lc, rfl, rfl, z0, hz, hbx⟩ := hcut.out
    have HBX := hid hbx
    have HGX := hid (HG1.out.step hbx)
    have chx := (HCS.out _ hbx).1
    clear hcut hbx HCS HRD ch
    by_cases hC : C = 0
    · subst hC
      simp only [if_true]
      have HL1 := hid (HZL.out rfl).1
      have HL3 := hid (HZL.out rfl).2.2
      have hz0 := hz rfl
      obtain ⟨lb, lo, rfl, hlb, hlc⟩ := hz0.some (HZL.out rfl).2.1
      have HZ0 := hid hz0
      have HSX := hid (HSZ.out _ HBX.out)
      clear hz hz0 hlc hlb HSZ
      go_wp2_with fail
      refine HSX.out.mono ?_
      rintro e w5 ⟨rfl, hb5⟩
      clear HSX
      obtain ⟨W6, eW6⟩ : ∃ W6, W6 = w5.alloc (.cells #[.int .i64 0, .int .i64 0] 28) := ⟨_, rfl⟩
      have b6 : Below wc.heap.size wc W6 := by rw [eW6]; exact bl_alloc hb5
      have hg6 := HGX.out.step b6
      have hz6 := HZ0.out.step b6
      have c13 := hg6.c13
      rw [← HEQ.out, ← HTK.out] at c13
      have f13 := hg6.fq 13
      rw [← HEQ.out] at f13
      have hql : q < W6.heap.size := World.block_lt_of_cell? _ _ c13
      obtain ⟨sN, hsN⟩ : ∃ sN, sN = tk + N := ⟨_, rfl⟩
      obtain ⟨W7, eW7⟩ : ∃ W7, W7 = W6.setCell ⟨q, 13, none⟩ (.int .i64 (sN : Int)) := ⟨_, rfl⟩
      have hg7 : TripAt d W0 { G with taken := sN } W7 := by rw [eW7, HEQ.out]; exact hg6.putN sN
      have hz7 : Has .u64 W7 (some ⟨lb, lo, none⟩) x.w.n zs := by rw [eW7]; exact hz6.put (by decide) c13 _
      rw [← HL1.out] at hz7
      have HLD := hid (xload_any hg7 i HIL.out lb lo lc zs hz7 (by rw [HL1.out, HL3.out]))
      dsimp only at HLD
      rw [HL1.out, ← HEQ.out] at HLD
      have HF7 : Hid (Fr G d.heads.n w W7) := (Fr.of (bl_step HB1.out (bl_step HBX.out b6))).trans (by rw [eW7, HEQ.out]; exact Fr.set (.inl rfl))
      have EW7 := hid eW7
      have EW6 := hid eW6
      have hsum' : (tk : Int) + (N : Int) = (sN : Int) := by omega
      have HSN := hid hsN
      have hsw : IntKind.i64.wrap (sN : Int) = (sN : Int) := wrap_small _ (by omega) (by omega)
      clear hg6 hg7 hz6 hz7 eW6 eW7 b6 hb5 HGX HZ0 HBX HG1 HB1 z0 chx hsN hN ht HZL
      go_upto_region 6 with fail
      rw [← EW6.out]
      go_upto_region 7 with fail
      rw [← EW7.out]
      clear EW6 EW7 c13 f13
      go_wp2_with fail
      refine HLD.out.mono ?_
      rintro e w8 ⟨rfl, hg8, hf8⟩
      rw [HSN.out, HTK.out] at hg8
      have HF : Hid (TripAt d W0 { q := q, va := G.va, vb := G.vb, vc := G.vc, th := G.th, mt := G.mt, pt := G.pt, rb := G.rb, V := G.V.set i zs, T := G.T.set i true, M := G.M, port := G.port, st := G.st, b := G.b, bs := G.bs, taken := G.taken + N, outp := G.outp, lost := G.lost } w8 ∧ Fr G d.heads.n w w8) := ⟨hg8, HF7.out.trans ⟨hf8.os, hf8.tape, hf8.output, hf8.size, fun k hk hn => hf8.block k hk (by rw [HEQ.out]; exact hn)⟩⟩
      clear hg8 hf8 HLD HF7
      go_wp2
      go_ret
      exact ⟨rfl, HF.out⟩
    · have hCb : (C != 0) = true := bne_iff_ne.2 hC
      have HF : Hid (TripAt d W0 G wc ∧ Fr G d.heads.n w wc) := ⟨HGX.out, Fr.of (bl_step HB1.out HBX.out)⟩
      simp only [if_neg hC]
      clear hz HSZ HGX HG1 HBX HB1
      go_wp2
      go_ret
      exact ⟨rfl, HF.out⟩
end Go.Proofs.YtajelgjbgehahaaGreat

namespace Go.Proofs.YtajelgjbgehahaaGreat
open Go.RowKit

set_option maxHeartbeats 8000000 in
set_option maxRecDepth 20000 in
theorem xstage_none {d : PlanD} {W0 w : World} {G G' : TripD} (hg : TripAt d W0 G w) (i : Nat) (rh rf els : Int) (ca : Option Addr) (cc : Nat) (ok : Bool)
    (hT : ∀ w', TripAt d W0 G w' → Calls Tryz.prog 65 #[.pointer (some ⟨G.q, 0, none⟩), .int .i64 (i : Int)] w' fun e w'' => e = .returned (.bool ok) ∧ TripAt d W0 G' w'' ∧ Fr G d.heads.n w' w'') :
    Calls Tryz.prog 39 #[.agg #[.pointer (some ⟨G.q, 0, none⟩), .int .i64 (i : Int), .int .i64 rh, .int .i64 rf, .slice ca 0 cc, .int .i64 els]] w fun e w'' => e = .returned (.int .i64 (if ok = true then els else 1001)) ∧ TripAt d W0 G' w'' ∧ Fr G d.heads.n w w'' := by
  obtain ⟨W1, eW1⟩ : ∃ W1, W1 = w.alloc (.cells #[.pointer (some ⟨G.q, 0, none⟩), .int .i64 (i : Int), .int .i64 rh, .int .i64 rf, .slice ca 0 cc, .int .i64 els] 116) := ⟨_, rfl⟩
  obtain ⟨bx, hbx⟩ : ∃ b, b = w.heap.size := ⟨_, rfl⟩
  have b1 : Below w.heap.size w W1 := by rw [eW1]; exact bl_alloc (Below.refl _ _)
  have cs : ∀ (j : Nat) (v : Value), (#[.pointer (some ⟨G.q, 0, none⟩), .int .i64 (i : Int), .int .i64 rh, .int .i64 rf, .slice ca 0 cc, .int .i64 els] : Array Value)[j]? = some v → W1.cell? ⟨bx, j, none⟩ = some v := fun j v hv => by rw [eW1, hbx]; exact (World.cell?_alloc_at _ _ _ _ rfl).trans hv
  have c0 := cs 0 _ rfl
  have c1 := cs 1 _ rfl
  have c4 := cs 4 _ rfl
  have c5 := cs 5 _ rfl
  have HD := hid (hT W1 (hg.step b1))
  have HBO : Hid (¬ G.own d.heads.n bx) := hg.new (by omega)
  have HB1 := hid b1
  have EW := hid eW1
  have EB := hid hbx
  have hi0 : (0 : Int) ≤ (i : Int) := by omega
  have hib : decide ((0 : Int) ≤ (i : Int)) = true := decide_eq_true hi0
  clear hg b1 eW1 hbx cs hT
  go_enter Tryz.func39, Tryz.ntmps39
  go_upto_region 1 with fail
  rw [← EW.out, ← EB.out]
  clear EW EB
  go_wp2_with fail
  refine HD.out.mono ?_
  rintro e w2 ⟨rfl, hg2, hf2⟩
  have k4 := hf2.cell HBO.out c4
  have k5 := hf2.cell HBO.out c5
  have HF : Hid (TripAt d W0 G' w2 ∧ Fr G d.heads.n w w2) := ⟨hg2, (Fr.of HB1.out).trans hf2⟩
  clear hg2 hf2 HD c0 c1 c4 c5
  cases ok with
  | false =>
    go_wp2
    go_ret
    exact ⟨rfl, HF.out⟩
  | true =>
    go_wp2
    go_loopw [22, 4] (fun q _ wr => q = .int .i64 0 ∧ wr = w2) (fun _ _ _ => 0)
    case atStart => exact ⟨rfl, rfl⟩
    case round =>
      obtain ⟨rfl, rfl⟩ := hrel
      go_wp2
      go_ret
      exact ⟨rfl, HF.out⟩

set_option maxHeartbeats 8000000 in
set_option maxRecDepth 20000 in
theorem xparse_one {d : PlanD} {W0 w : World} {G G' : TripD} (hg : TripAt d W0 G w) (i : Nat) (s : StateD) (hs : d.ss = [s]) (h1 : s.head = (i : Int)) (h2 : s.cs = []) (h3 : s.els = 1000) (ok : Bool) (hq : G'.q = G.q)
    (hT : ∀ w', TripAt d W0 G w' → Calls Tryz.prog 65 #[.pointer (some ⟨G.q, 0, none⟩), .int .i64 (i : Int)] w' fun e w'' => e = .returned (.bool ok) ∧ TripAt d W0 G' w'' ∧ Fr G d.heads.n w' w'') :
    Calls Tryz.prog 17 #[.pointer (some ⟨G.q, 0, none⟩)] w fun e w'' => e = .returned (.bool ok) ∧ TripAt d W0 G' w'' ∧ Fr G d.heads.n w w'' := by
  have hn : d.states.n = 1 := by rw [← hg.lie.ss.1, hs]; rfl
  have HN := hid hn
  have HG := hid hg
  have HT := hid hT
  have HQ := hid hq
  obtain ⟨q, hqq⟩ : ∃ q, q = G.q := ⟨_, rfl⟩
  have EQ := hid hqq
  rw [← hqq]
  have HS := hid hs
  have H123 := hid (And.intro h1 (And.intro h2 h3))
  clear hg hT hq hqq hs h1 h2 h3 hn
  go_enter Tryz.func17, Tryz.ntmps17
  go_wp2
  go_loopw [3] (fun v wr => (v = .int .i64 0 ∧ Hid (TripAt d W0 G wr ∧ Fr G d.heads.n w wr)) ∨ (v = .int .i64 (if ok = true then 1000 else 1001) ∧ Hid (TripAt d W0 G' wr ∧ Fr G d.heads.n w wr))) (fun v _ => if intOf v = 0 then 1 else 0)
  case atStart => exact .inl ⟨rfl, HG.out, Fr.of (Below.refl _ _)⟩
  case round =>
    rcases hrel with ⟨rfl, HA⟩ | ⟨rfl, HA⟩
    · have hg1 := HA.out.1
      obtain ⟨g, off, s', ea, hs', hp⟩ := row_at (hg1.lie.ss.step StateD.keeps hg1.bel) (i := 0) (by rw [HN.out]; omega)
      rw [HS.out] at hs'
      simp only [List.getElem?_cons_zero, Option.some.injEq] at hs'
      subst hs'
      have q2 := hg1.box.2.2.1
      rw [ea, HN.out, ← EQ.out] at q2
      have e0 : wr.cell? ⟨g, off, none⟩ = some (.int .i64 (i : Int)) := by have := hp.1.1; rw [H123.out.1] at this; simpa using this
      have e1 : wr.cell? ⟨g, off + 1, none⟩ = some (.int .i64 s.r.h) := by have := hp.2.1.1; simpa using this
      have e2 : wr.cell? ⟨g, off + 2, none⟩ = some (.int .i64 s.r.f) := by have := hp.2.2.1.1; simpa using this
      have e3 : wr.cell? ⟨g, off + 3, none⟩ = some (.slice s.cases.a 0 s.cases.c) := by
        have h0 := hp.2.2.2.1.1
        have h1 : s.cases.n = 0 := by have := hp.2.2.2.2.2.1; rw [H123.out.2.1] at this; exact this.symm
        rw [h1] at h0
        simpa using h0
      have e4 : wr.cell? ⟨g, off + 4, none⟩ = some (.int .i64 1000) := by have := hp.2.2.2.2.1.1; rw [H123.out.2.2] at this; simpa using this
      have HST := hid (xstage_none hg1 i s.r.h s.r.f 1000 s.cases.a s.cases.c ok HT.out)
      rw [← EQ.out] at HST
      have HFR := hid HA.out.2
      clear hg1 hp ea HA HT HG HS H123
      go_wp2_with fail
      refine HST.out.mono ?_
      rintro e w2 ⟨rfl, hg2, hf2⟩
      have HN2 : Hid (TripAt d W0 G' w2 ∧ Fr G d.heads.n w w2) := ⟨hg2, HFR.out.trans hf2⟩
      clear hg2 hf2 HST HFR
      go_wp2
      go_roundw
      case rel => exact .inr ⟨rfl, HN2⟩
      case measure => cases ok <;> simp [intOf]
    · have q2 := HA.out.1.box.2.2.1
      rw [HN.out, HQ.out, ← EQ.out] at q2
      have HF := HA
      clear HA HT HG HS H123
      cases ok with
      | true =>
        go_wp2
        go_ret
        exact ⟨rfl, HF.out⟩
      | false =>
        go_wp2
        go_ret
        exact ⟨rfl, HF.out⟩

set_option maxHeartbeats 8000000 in
set_option maxRecDepth 20000 in
theorem xcontrol_one {d : PlanD} {W0 w : World} {G G' : TripD} (hg : TripAt d W0 G w) (a : Nat) (x : NodeD) (hx : d.ns = [x]) (h1 : x.kind = 2) (h2 : x.n = (a : Int)) (h3 : x.yes = 1) (hq : G'.q = G.q)
    (hD : ∀ w', TripAt d W0 G w' → Calls Tryz.prog 67 #[.pointer (some ⟨G.q, 0, none⟩), .agg #[.int .i64 (a : Int), .slice none 0 0]] w' fun q w'' => q = .returned (.tuple #[]) ∧ TripAt d W0 G' w'' ∧ Fr G d.heads.n w' w'') :
    Calls Tryz.prog 18 #[.pointer (some ⟨G.q, 0, none⟩)] w fun e w'' => e = .returned (.tuple #[]) ∧ TripAt d W0 G' w'' ∧ Fr G d.heads.n w w'' := by
  have hn : d.nodes.n = 1 := by rw [← hg.lie.ns.1, hx]; rfl
  have HN := hid hn
  have HG := hid hg
  have HD := hid hD
  have HQ := hid hq
  obtain ⟨q, hqq⟩ : ∃ q, q = G.q := ⟨_, rfl⟩
  have EQ := hid hqq
  rw [← hqq]
  have HS := hid hx
  have H123 := hid (And.intro h1 (And.intro h2 h3))
  clear hg hD hq hqq hx h1 h2 h3 hn
  go_enter Tryz.func18, Tryz.ntmps18
  go_wp2
  go_loopw [2] (fun v wr => (v = .int .i64 0 ∧ Hid (TripAt d W0 G wr ∧ Fr G d.heads.n w wr)) ∨ (v = .int .i64 1 ∧ Hid (TripAt d W0 G' wr ∧ Fr G d.heads.n w wr))) (fun v _ => if intOf v = 0 then 1 else 0)
  case atStart => exact .inl ⟨rfl, HG.out, Fr.of (Below.refl _ _)⟩
  case round =>
    rcases hrel with ⟨rfl, HA⟩ | ⟨rfl, HA⟩
    · have hg1 := HA.out.1
      obtain ⟨g, off, s', ea, hs', hp⟩ := row_at (hg1.lie.ns.step NodeD.keeps hg1.bel) (i := 0) (by rw [HN.out]; omega)
      rw [HS.out] at hs'
      simp only [List.getElem?_cons_zero, Option.some.injEq] at hs'
      subst hs'
      have q2 := hg1.box.2.2.2.2.2.1
      rw [ea, HN.out, ← EQ.out] at q2
      have e0 : wr.cell? ⟨g, off, none⟩ = some (.int .i64 2) := by have := hp.1.1; rw [H123.out.1] at this; simpa using this
      have e1 : wr.cell? ⟨g, off + 1, none⟩ = some (.int .i64 (a : Int)) := by have := hp.2.1.1; rw [H123.out.2.1] at this; simpa using this
      have e2 : wr.cell? ⟨g, off + 2, none⟩ = some (.slice x.e.a x.e.n x.e.c) := by have := hp.2.2.1.1; simpa using this
      have e3 : wr.cell? ⟨g, off + 3, none⟩ = some (.int .i64 1) := by have := hp.2.2.2.1.1; rw [H123.out.2.2] at this; simpa using this
      have e4 : wr.cell? ⟨g, off + 4, none⟩ = some (.int .i64 x.no) := by have := hp.2.2.2.2.1.1; simpa using this
      have HST := hid (xstop_do hg1 a x.e 1 x.no G' (fun w' h => HD.out w' (hg1.step h)))
      rw [← EQ.out] at HST
      have HFR := hid HA.out.2
      clear hg1 hp ea HA HD HG HS H123
      go_wp2_with fail
      refine HST.out.mono ?_
      rintro e w2 ⟨rfl, hg2, hf2⟩
      have HN2 : Hid (TripAt d W0 G' w2 ∧ Fr G d.heads.n w w2) := ⟨hg2, HFR.out.trans hf2⟩
      clear hg2 hf2 HST HFR
      go_wp2
      go_roundw
      case rel => exact .inr ⟨rfl, HN2⟩
      case measure => simp [intOf]
    · have q2 := HA.out.1.box.2.2.2.2.2.1
      rw [HN.out, HQ.out, ← EQ.out] at q2
      have HF := HA
      clear HA HD HG HS H123
      go_wp2
      go_end0
      exact ⟨rfl, HF.out⟩
end Go.Proofs.YtajelgjbgehahaaGreat

namespace Go.Proofs.YtajelgjbgehahaaGreat
open Go.RowKit

theorem head_8 : Mth.Head [8] 1 := by
  refine ⟨by decide, by decide, fun j hj => ?_, by decide, by decide⟩
  obtain rfl : j = 0 := by omega
  unfold Mth.Fit
  decide

theorem Has.keepCell {k : IntKind} {w : World} {a : Option Addr} {len : Nat} {zs : List Int} (h : Has k w a len zs) {p : Addr} {u : Value} (hp : w.cell? p = Option.some u) (hu : ∀ n, u ≠ .int k n) (v : Value) : Has k (w.setCell p v) a len zs := by
  refine ⟨h.1, h.2.1, ?_⟩
  rcases h.2.2 with h | ⟨b, off, rfl, hlt, hc⟩
  · exact .inl h
  · refine .inr ⟨b, off, rfl, by simpa [World.setCell] using hlt, fun i hi => ?_⟩
    have h1 := hc i hi
    rw [World.cell?_setCell_other _ _ _ _ (by
      intro e
      rw [← e, hp] at h1
      exact hu _ (Option.some.inj h1))]
    exact h1

theorem bytes_cons {z : Int} {bs : List Int} (hz : 0 ≤ z ∧ z < 256) (hb : Mth.Bytes bs) (t : Nat) : Mth.Bytes ([z] ++ bs.drop t) := by
  intro i
  cases i with
  | zero => exact hz
  | succ i =>
    have := hb (t + i)
    rw [List.singleton_append, List.getD_cons_succ, List.getD_eq_getElem?_getD, List.getElem?_drop, ← List.getD_eq_getElem?_getD]
    exact this

/-- bytes from a place on -/
theorem has_from {w : World} {pb po n c t : Nat} {bs : List Int} (h : Has .u8 w (some ⟨pb, po, none⟩) n bs) (ht : t ≤ n) (hc : n ≤ c) : Has .u8 w (if c = t then some ⟨pb, po, none⟩ else some ⟨pb, po + t, none⟩) (n - t) (bs.drop t) := by
  refine ⟨by rw [List.length_drop, h.1], fun z hz => h.2.1 z (List.mem_of_mem_drop hz), ?_⟩
  by_cases e : t = n
  · exact .inl (by rw [e, ← h.1]; exact List.drop_length)
  · obtain ⟨b, o, e1, hl, hcell⟩ := h.some (by omega)
    simp only [Option.some.injEq, Addr.mk.injEq, and_true] at e1
    obtain ⟨rfl, rfl⟩ := e1
    rw [if_neg (by omega)]
    refine .inr ⟨pb, po + t, rfl, hl, fun i hi => ?_⟩
    rw [Nat.add_assoc, hcell (t + i) (by omega), List.getD_eq_getElem?_getD, List.getD_eq_getElem?_getD, List.getElem?_drop]

theorem jn_eight (k : Nat) (hk : k < 256) : Mth.jn [(k : Int)] [8] ((Mth.off [8] 1 + 7) / 8) 1 = [(k : Int)] := by
  have : ∀ j : Fin 256, Mth.jn [((j : Nat) : Int)] [8] ((Mth.off [8] 1 + 7) / 8) 1 = [((j : Nat) : Int)] := by decide +kernel
  exact this ⟨k, hk⟩

/-- the bytes of a header, behind the region that writes them -/
def WroteAt (W1 : World) (z : Int) (v6 : Value) (wx : World) : Prop := ∃ (bg : Option Addr) (bc : Nat), v6 = .slice bg 1 bc ∧ Has .u8 wx bg 1 [z] ∧ Below W1.heap.size W1 wx

theorem wrote_of {W1 w3 : World} {fb bc : Nat} {z C A y u : Int} {bg : Option Addr} (hb : Below W1.heap.size W1 w3) (hf : W1.heap.size ≤ fb) (z0 : w3.cell? ⟨fb, 0, none⟩ = some (.int .i64 y)) (z1 : w3.cell? ⟨fb, 1, none⟩ = some (.int .i64 u)) (hh : Has .u8 w3 bg 1 [z]) :
    WroteAt W1 z (.slice bg 1 bc) ((w3.setCell ⟨fb, 0, none⟩ (.int .i64 C)).setCell ⟨fb, 1, none⟩ (.int .i64 A)) :=
  ⟨bg, bc, rfl, hh.put2 (by decide) z0 z1 _ _, (hb.setCell (p := ⟨fb, 0, none⟩) hf _).setCell (p := ⟨fb, 1, none⟩) hf _⟩

def ResDone (op : Int) (bs : List Int) (w : World) (e : Ending) (w' : World) : Prop := ∃ (ra : Option Addr) (rc : Nat), e = .returned (.agg #[.int .i64 op, .slice ra bs.length rc]) ∧ Has .u8 w' ra bs.length bs ∧ Below w.heap.size w w'

set_option linter.unusedSimpArgs false in
set_option maxHeartbeats 8000000 in
set_option maxRecDepth 20000 in
theorem xresult_one {d : PlanD} {W0 w : World} {G : TripD} (hg : TripAt d W0 G w) (x : HeadD) (hx : d.hs = [x]) (hxw : x.ws = [8]) (hos : d.os = [0]) (z : Int) (hz : 0 ≤ z ∧ z < 256) (hT : G.T = [true]) (hV : G.V = [[z]]) (hL : G.lost = false) (pb po : Nat) (hba : G.b.a = some ⟨pb, po, none⟩) (htk : G.taken ≤ G.b.n) (hbn : G.b.n ≤ 1000) :
    Calls Tryz.prog 19 #[.pointer (some ⟨G.q, 0, none⟩)] w (ResDone G.outp (z :: G.bs.drop G.taken) w) := by
  have hn1 : d.heads.n = 1 := by rw [← hg.lie.hs.1, hx]; rfl
  have hon : d.out.n = 1 := by have := hg.lie.os.1; rw [hos] at this; exact this.symm
  have hxn : x.w.n = 1 := by
    obtain ⟨_, _, x', _, hx', hp⟩ := row_at hg.lie.hs (i := 0) (by omega)
    rw [hx] at hx'
    simp only [List.getElem?_cons_zero, Option.some.injEq] at hx'
    subst hx'
    have := hp.2.1
    rw [hxw] at this
    exact this.symm
  obtain ⟨W1, eW1⟩ : ∃ W1, W1 = w.alloc (.cells #[.int .i64 0, .slice none 0 0] 42) := ⟨_, rfl⟩
  obtain ⟨rx, hrx⟩ : ∃ b, b = w.heap.size := ⟨_, rfl⟩
  have b1 : Below w.heap.size w W1 := by rw [eW1]; exact bl_alloc (Below.refl _ _)
  have r0 : W1.cell? ⟨rx, 0, none⟩ = some (.int .i64 0) := by rw [eW1, hrx]; exact (World.cell?_alloc_at _ _ _ _ rfl).trans rfl
  have r1 : W1.cell? ⟨rx, 1, none⟩ = some (.slice none 0 0) := by rw [eW1, hrx]; exact (World.cell?_alloc_at _ _ _ _ rfl).trans rfl
  have rf0 : W1.frozen? ⟨rx, 0, none⟩ = false := by rw [eW1, hrx]; exact World.frozen?_alloc_at _ _ _ _ rfl
  have rf1 : W1.frozen? ⟨rx, 1, none⟩ = false := by rw [eW1, hrx]; exact World.frozen?_alloc_at _ _ _ _ rfl
  have hg1 := hg.step b1
  have c15 := hg1.c15
  rw [hL] at c15
  obtain ⟨ob, oo, eo, holt, hoc⟩ := (hg.lie.os.step (bl_step hg.bel b1)).some (by rw [hon]; omega)
  have co : W1.cell? ⟨ob, oo, none⟩ = some (.int .i64 0) := by have := hoc 0 (by rw [hon]; omega); rw [hos] at this; simpa using this
  have q6 := hg1.box.2.2.2.2.2.2
  rw [eo, hon] at q6
  have q8 := hg1.c8
  rw [hn1] at q8
  have ct : W1.cell? ⟨G.th, 0, none⟩ = some (.bool true) := hg1.ts 0 true (by rw [hT]; rfl)
  obtain ⟨g, off, x', ea, hx', hp⟩ := row_at (hg1.lie.hs.step HeadD.keeps hg1.bel) (i := 0) (by omega)
  rw [hx] at hx'
  simp only [List.getElem?_cons_zero, Option.some.injEq] at hx'
  subst hx'
  have q0 := hg1.box.1
  rw [ea, hn1] at q0
  have ch : W1.cell? ⟨g, off, none⟩ = some (.slice x.w.a 1 x.w.c) := by have := hp.1.1; rw [hxn] at this; simpa using this
  have hhas : Has .i64 W1 x.w.a 1 [8] := by have := hp.2; rw [hxn, hxw] at this; exact this
  have q7 := hg1.c7
  rw [hg1.va (by omega), hn1] at q7
  obtain ⟨cv, hnum, _⟩ := hg1.vs 0 [z] (by rw [hV]; rfl)
  have hnh : Has .u64 W1 (some ⟨G.rb 0, 0, none⟩) 1 [z] := hnum.has
  have HHD : Hid (Mth.Head [8] 1) := head_8
  have HWR : Hid (∀ w', Below W1.heap.size W1 w' → Calls Tryz.prog 41 #[.agg #[.slice x.w.a 1 x.w.c], .slice (some ⟨G.rb 0, 0, none⟩) 1 1] w' fun e w'' => ∃ (bg : Option Addr) (bc : Nat), e = .returned (.tuple #[.slice bg 1 bc, .agg #[.int .i64 0, .int .i64 0]]) ∧ Has .u8 w'' bg 1 [z] ∧ Below w'.heap.size w' w'') := fun w' h => by
    have hf : ∀ j, j < 1 → Fits [z] [8] j := fun j hj => by
      obtain rfl : j = 0 := by omega
      show z ≤ maskN 8
      have : maskN 8 = 255 := by decide
      omega
    have := pwrite_good x.w.a (some ⟨G.rb 0, 0, none⟩) 1 x.w.c 1 1 [z] [8] w' (by decide) (hnh.step h) (hhas.step h) (fun j hj => (HHD.out.2.2.1 j hj).wide) hf (psize_good HHD.out)
    refine this.mono fun e w'' ⟨bg, bc, he, hh, hb⟩ => ⟨bg, bc, he, ?_, hb⟩
    have ej : Mth.jn [z] [8] ((Mth.off [8] 1 + 7) / 8) 1 = [z] := by
      obtain ⟨k, rfl⟩ : ∃ k : Nat, z = k := ⟨z.toNat, by omega⟩
      exact jn_eight k (by omega)
    rw [ej] at hh
    exact hh
  have hpk : Has .u8 W1 (some ⟨pb, po, none⟩) G.b.n G.bs := by have := hg.hb.step (bl_step hg.bel b1); rw [hba] at this; exact this
  have c12 := hg1.c12
  rw [hba] at c12
  have c13 := hg1.c13
  have c14 := hg1.c14
  have HPK := hid hpk
  have HBC := hid hg.bc
  have HB1 := hid b1
  have EW := hid eW1
  have ER := hid hrx
  obtain ⟨tk, etk⟩ : ∃ tk, tk = G.taken := ⟨_, rfl⟩
  obtain ⟨pn, epn⟩ : ∃ pn, pn = G.b.n := ⟨_, rfl⟩
  have hbl := hg.hb.1
  rw [← epn] at hbl
  rw [← etk] at c13 htk ⊢
  rw [← epn] at c12 HPK HBC htk hbn
  have HCS : Hid (∀ w', Below W1.heap.size W1 w' → (w'.cell? ⟨G.q, 0, none⟩ = some (.slice (some ⟨g, off, none⟩) 1 d.heads.c) ∧ w'.cell? ⟨g, off, none⟩ = some (.slice x.w.a 1 x.w.c) ∧ w'.cell? ⟨G.q, 7, none⟩ = some (.slice (some ⟨G.vb, 0, none⟩) 1 G.vc) ∧ w'.cell? ⟨G.vb, 0, none⟩ = some (.slice (some ⟨G.rb 0, 0, none⟩) 1 1)) ∧ (w'.cell? ⟨G.q, 12, none⟩ = some (.slice (some ⟨pb, po, none⟩) pn G.b.c) ∧ w'.cell? ⟨G.q, 13, none⟩ = some (.int .i64 (tk : Int)) ∧ w'.cell? ⟨G.q, 14, none⟩ = some (.int .i64 G.outp)) ∧ (w'.cell? ⟨G.q, 8, none⟩ = some (.slice (some ⟨G.th, 0, none⟩) 1 1) ∧ w'.cell? ⟨G.th, 0, none⟩ = some (.bool true) ∧ w'.cell? ⟨ob, oo, none⟩ = some (.int .i64 0)) ∧ (w'.cell? ⟨rx, 0, none⟩ = some (.int .i64 0) ∧ w'.cell? ⟨rx, 1, none⟩ = some (.slice none 0 0) ∧ w'.frozen? ⟨rx, 0, none⟩ = false ∧ w'.frozen? ⟨rx, 1, none⟩ = false ∧ rx < w'.heap.size)) := fun w' h => ⟨⟨cell_keep q0 h, cell_keep ch h, cell_keep q7 h, cell_keep cv h⟩, ⟨cell_keep c12 h, cell_keep c13 h, cell_keep c14 h⟩, ⟨cell_keep q8 h, cell_keep ct h, cell_keep co h⟩, cell_keep r0 h, cell_keep r1 h, (h.frozen (p := ⟨rx, 0, none⟩) (World.block_lt_of_cell? _ _ r0)).trans rf0, (h.frozen (p := ⟨rx, 1, none⟩) (World.block_lt_of_cell? _ _ r1)).trans rf1, Nat.lt_of_lt_of_le (World.block_lt_of_cell? _ _ r0) h.size⟩
  have HBL := hid hbl
  have HZB := hid hz
  generalize G.q = q at *
  generalize G.vb = vb at *
  generalize G.rb 0 = rb0 at *
  generalize G.th = th at *
  generalize G.vc = vc at *
  generalize G.outp = op at *
  generalize G.b.c = pc at *
  generalize G.bs = bs at *
  generalize d.heads.c = hc at *
  generalize d.out.c = oc at *
  have HTK := hid htk
  clear hg hg1 b1 eW1 hrx hx hxw hos hT hV hL hba hn1 hon hxn hoc eo ea hp hhas hnh hnum hpk etk epn hbl q7 cv q0 ch q8 ct co r1 rf0 rf1 c12 c13 c14 r0
  go_enter Tryz.func19, Tryz.ntmps19
  go_upto_region 1 with fail
  rw [← EW.out, ← ER.out]
  clear EW
  go_wp2
  go_loopw [19, 3, 5, 6, 7] (fun k ov _ _ _ wr => (k = .int .i64 0 ∧ ov = .slice none 0 0 ∧ Hid (Below W1.heap.size W1 wr)) ∨ (k = .int .i64 1 ∧ Hid (wr.ownsRow W1.heap.size 5 1 ov 1 (BB [z])) ∧ Hid (Below W1.heap.size W1 wr))) (fun k _ _ _ _ _ => if intOf k = 0 then 1 else 0)
  case atStart => exact .inl ⟨rfl, rfl, Below.refl _ _⟩
  case round =>
    rcases hrel with ⟨rfl, rfl, HB⟩ | ⟨rfl, HO, HB⟩
    · obtain ⟨⟨s0, s1, s2, s3⟩, _, ⟨t8, tt, to_⟩, _⟩ := HCS.out _ HB.out
      go_upto_region 8 with fail
      go_cut [6] (fun v6 wx => Hid (WroteAt W1 z v6 wx))
      case first =>
        refine wp_region_cut 22 (by kernel_rfl) (by kernel_rfl) ?_
        refine wpAny_of_held (S := (fun w' => w'.cell? ⟨q, 0, none⟩ = some (.slice (some ⟨g, off, none⟩) 1 hc) ∧ w'.cell? ⟨g, off, none⟩ = some (.slice x.w.a 1 x.w.c) ∧ w'.cell? ⟨q, 7, none⟩ = some (.slice (some ⟨vb, 0, none⟩) 1 vc) ∧ w'.cell? ⟨vb, 0, none⟩ = some (.slice (some ⟨rb0, 0, none⟩) 1 1))) _ _ _ _ ?_
        have hHeld := (HCS.out _ HB.out.drew).1
        refine wpAnyH_take (i := 0) (v := ?_) (drop_at rfl) (by kernel_rfl) (by kernel_rfl) (by kernel_rfl) (fun _ _ _ h => h) (Or.inl ⟨by rfl, ?_⟩) hHeld ?_
        rotate_left
        · intro w0 hSw
          try dsimp only at hSw
          go_simp
          try with_reducible rfl
        try simp only [Act.put, List.setIfInBounds_toArray, List.set_cons_zero, List.set_cons_succ]
        refine wpAnyH_take (i := 1) (v := ?_) (drop_at rfl) (by kernel_rfl) (by kernel_rfl) (by kernel_rfl) (fun _ _ _ h => h) (Or.inl ⟨by rfl, ?_⟩) hHeld ?_
        rotate_left
        · intro w0 hSw
          try dsimp only at hSw
          go_simp
          try with_reducible rfl
        try simp only [Act.put, List.setIfInBounds_toArray, List.set_cons_zero, List.set_cons_succ]
        refine wpAnyH_take (i := 2) (v := ?_) (drop_at rfl) (by kernel_rfl) (by kernel_rfl) (by kernel_rfl) (fun _ _ _ h => h) (Or.inl ⟨by rfl, ?_⟩) hHeld ?_
        rotate_left
        · intro w0 hSw
          try dsimp only at hSw
          go_simp
          try with_reducible rfl
        try simp only [Act.put, List.setIfInBounds_toArray, List.set_cons_zero, List.set_cons_succ]
        refine wpAnyH_take (i := 3) (v := ?_) (drop_at rfl) (by kernel_rfl) (by kernel_rfl) (by kernel_rfl) (fun _ _ _ h => h) (Or.inl ⟨by rfl, ?_⟩) hHeld ?_
        rotate_left
        · intro w0 hSw
          try dsimp only at hSw
          go_simp
          try with_reducible rfl
        try simp only [Act.put, List.setIfInBounds_toArray, List.set_cons_zero, List.set_cons_succ]
        refine wpAnyH_take (i := 4) (v := ?_) (drop_at rfl) (by kernel_rfl) (by kernel_rfl) (by kernel_rfl) (fun _ _ _ h => h) (Or.inl ⟨by rfl, ?_⟩) hHeld ?_
        rotate_left
        · intro w0 hSw
          try dsimp only at hSw
          go_simp
          try with_reducible rfl
        try simp only [Act.put, List.setIfInBounds_toArray, List.set_cons_zero, List.set_cons_succ]
        refine wpAnyH_take (i := 5) (v := ?_) (drop_at rfl) (by kernel_rfl) (by kernel_rfl) (by kernel_rfl) (fun _ _ _ h => h) (Or.inl ⟨by rfl, ?_⟩) hHeld ?_
        rotate_left
        · intro w0 hSw
          try dsimp only at hSw
          go_simp
          try with_reducible rfl
        try simp only [Act.put, List.setIfInBounds_toArray, List.set_cons_zero, List.set_cons_succ]
        refine wpAnyH_take (i := 6) (v := ?_) (drop_at rfl) (by kernel_rfl) (by kernel_rfl) (by kernel_rfl) (fun _ _ _ h => h) (Or.inl ⟨by rfl, ?_⟩) hHeld ?_
        rotate_left
        · intro w0 hSw
          try dsimp only at hSw
          go_simp
          try with_reducible rfl
        try simp only [Act.put, List.setIfInBounds_toArray, List.set_cons_zero, List.set_cons_succ]
        refine wpAnyH_take (i := 7) (v := ?_) (drop_at rfl) (by kernel_rfl) (by kernel_rfl) (by kernel_rfl) (fun _ _ _ h => h) (Or.inl ⟨by rfl, ?_⟩) hHeld ?_
        rotate_left
        · intro w0 hSw
          try dsimp only at hSw
          go_simp
          try with_reducible rfl
        try simp only [Act.put, List.setIfInBounds_toArray, List.set_cons_zero, List.set_cons_succ]
        refine wpAnyH_take (i := 8) (v := ?_) (drop_at rfl) (by kernel_rfl) (by kernel_rfl) (by kernel_rfl) (fun _ _ _ h => h) (Or.inl ⟨by rfl, ?_⟩) hHeld ?_
        rotate_left
        · intro w0 hSw
          try dsimp only at hSw
          go_simp
          try with_reducible rfl
        try simp only [Act.put, List.setIfInBounds_toArray, List.set_cons_zero, List.set_cons_succ]
        refine wpAnyH_take (i := 9) (v := ?_) (drop_at rfl) (by kernel_rfl) (by kernel_rfl) (by kernel_rfl) (fun _ _ _ h => h) (Or.inl ⟨by rfl, ?_⟩) hHeld ?_
        rotate_left
        · intro w0 hSw
          try dsimp only at hSw
          go_simp
          try with_reducible rfl
        try simp only [Act.put, List.setIfInBounds_toArray, List.set_cons_zero, List.set_cons_succ]
        refine wpAnyH_take (i := 10) (v := ?_) (drop_at rfl) (by kernel_rfl) (by kernel_rfl) (by kernel_rfl) (fun _ _ _ h => h) (Or.inl ⟨by rfl, ?_⟩) hHeld ?_
        rotate_left
        · intro w0 hSw
          try dsimp only at hSw
          go_simp
          try with_reducible rfl
        try simp only [Act.put, List.setIfInBounds_toArray, List.set_cons_zero, List.set_cons_succ]
        refine wpAnyH_take (i := 11) (v := ?_) (drop_at rfl) (by kernel_rfl) (by kernel_rfl) (by kernel_rfl) (fun _ _ _ h => h) (Or.inl ⟨by rfl, ?_⟩) hHeld ?_
        rotate_left
        · intro w0 hSw
          try dsimp only at hSw
          go_simp
          try with_reducible rfl
        try simp only [Act.put, List.setIfInBounds_toArray, List.set_cons_zero, List.set_cons_succ]
        refine wpAnyH_take (i := 12) (v := ?_) (drop_at rfl) (by kernel_rfl) (by kernel_rfl) (by kernel_rfl) (fun _ _ _ h => h) (Or.inl ⟨by rfl, ?_⟩) hHeld ?_
        rotate_left
        · intro w0 hSw
          try dsimp only at hSw
          go_simp
          try with_reducible rfl
        try simp only [Act.put, List.setIfInBounds_toArray, List.set_cons_zero, List.set_cons_succ]
        refine wpAnyH_take (i := 13) (v := ?_) (drop_at rfl) (by kernel_rfl) (by kernel_rfl) (by kernel_rfl) (fun _ _ _ h => h) (Or.inl ⟨by rfl, ?_⟩) hHeld ?_
        rotate_left
        · intro w0 hSw
          try dsimp only at hSw
          go_simp
          try with_reducible rfl
        try simp only [Act.put, List.setIfInBounds_toArray, List.set_cons_zero, List.set_cons_succ]
        refine wpAnyH_take (i := 14) (v := ?_) (drop_at rfl) (by kernel_rfl) (by kernel_rfl) (by kernel_rfl) (fun _ _ _ h => h) (Or.inl ⟨by rfl, ?_⟩) hHeld ?_
        rotate_left
        · intro w0 hSw
          try dsimp only at hSw
          go_simp
          try with_reducible rfl
        try simp only [Act.put, List.setIfInBounds_toArray, List.set_cons_zero, List.set_cons_succ]
        refine wpAnyH_take (i := 15) (v := ?_) (drop_at rfl) (by kernel_rfl) (by kernel_rfl) (by kernel_rfl) (fun _ _ _ h => h) (Or.inl ⟨by rfl, ?_⟩) hHeld ?_
        rotate_left
        · intro w0 hSw
          try dsimp only at hSw
          go_simp
          try with_reducible rfl
        try simp only [Act.put, List.setIfInBounds_toArray, List.set_cons_zero, List.set_cons_succ]
        refine wpAnyH_ready (rs := [16, 20]) (by kernel_rfl) (by simp) ?_
        refine AllReadyH.cons (drop_at rfl) (fun K hK => ?_) (AllReadyH.cons (drop_at rfl) (fun K hK => ?_) AllReadyH.nil)
        · go_simp
          go_at_call 41
          refine (HWR.out _ HB.out.drew).mono ?_
          rintro e w2 ⟨bg, bc, rfl, hh, hb2⟩
          have HB2 : Hid (Below W1.heap.size W1 w2) := bl_step HB.out.drew hb2
          have HH := hid hh
          clear hh hb2
          refine hK.out _ _ (HCS.out _ HB2.out).1 (fun hHeld => ?_)
          clear hK K
          try simp only [Act.put, List.setIfInBounds_toArray, List.set_cons_zero, List.set_cons_succ]
          refine wpAnyH_take (i := 17) (v := ?_) (drop_at rfl) (by kernel_rfl) (by kernel_rfl) (by kernel_rfl) (fun _ _ _ h => h) (Or.inl ⟨by rfl, ?_⟩) hHeld ?_
          rotate_left
          · intro w0 hSw
            try dsimp only at hSw
            go_simp
            try with_reducible rfl
          try simp only [Act.put, List.setIfInBounds_toArray, List.set_cons_zero, List.set_cons_succ]
          refine wpAnyH_take (i := 18) (v := ?_) (drop_at rfl) (by kernel_rfl) (by kernel_rfl) (by kernel_rfl) (fun _ _ _ h => h) (Or.inl ⟨by rfl, ?_⟩) hHeld ?_
          rotate_left
          · intro w0 hSw
            try dsimp only at hSw
            go_simp
            try with_reducible rfl
          try simp only [Act.put, List.setIfInBounds_toArray, List.set_cons_zero, List.set_cons_succ]
          refine wpAnyH_take (i := 19) (v := ?_) (drop_at rfl) (by kernel_rfl) (by kernel_rfl) (by kernel_rfl) (fun _ _ _ h => h) (Or.inl ⟨by rfl, ?_⟩) hHeld ?_
          rotate_left
          · intro w0 hSw
            try dsimp only at hSw
            go_simp
            try with_reducible rfl
          try simp only [Act.put, List.setIfInBounds_toArray, List.set_cons_zero, List.set_cons_succ]
          refine wpAnyH_ready (rs := [20]) (by kernel_rfl) (by simp) ?_
          refine AllReadyH.cons (drop_at rfl) (fun K hK => ?_) AllReadyH.nil
          go_simp
          obtain ⟨W3, eW3⟩ : ∃ W3, W3 = w2.alloc (.cells #[.int .i64 0, .int .i64 0] 28) := ⟨_, rfl⟩
          obtain ⟨fb, hfb⟩ : ∃ fb, fb = w2.heap.size := ⟨_, rfl⟩
          have z0 : W3.cell? ⟨fb, 0, none⟩ = some (.int .i64 0) := by rw [eW3, hfb]; exact (World.cell?_alloc_at _ _ _ _ rfl).trans rfl
          have z1 : W3.cell? ⟨fb, 1, none⟩ = some (.int .i64 0) := by rw [eW3, hfb]; exact (World.cell?_alloc_at _ _ _ _ rfl).trans rfl
          have f0 : W3.frozen? ⟨fb, 0, none⟩ = false := by rw [eW3, hfb]; exact World.frozen?_alloc_at _ _ _ _ rfl
          have f1 : W3.frozen? ⟨fb, 1, none⟩ = false := by rw [eW3, hfb]; exact World.frozen?_alloc_at _ _ _ _ rfl
          have HB3 : Hid (Below W1.heap.size W1 W3) := by rw [eW3]; exact bl_alloc HB2.out
          have HRT : Hid (WroteAt W1 z (.slice bg 1 bc) ((W3.setCell ⟨fb, 0, none⟩ (.int .i64 0)).setCell ⟨fb, 1, none⟩ (.int .i64 0))) := wrote_of HB3.out (by rw [hfb]; exact HB2.out.size) z0 z1 (by rw [eW3]; exact HH.out.alloc)
          have hfl : fb < W3.heap.size := World.block_lt_of_cell? _ _ z0
          rw [← eW3, ← hfb]
          clear eW3 hfb HH
          refine hK.out _ _ (HCS.out _ HB3.out).1 (fun hHeld => ?_)
          clear hK K
          try simp only [Act.put, List.setIfInBounds_toArray, List.set_cons_zero, List.set_cons_succ]
          refine wpAnyH_take (i := 21) (v := ?_) (drop_at rfl) (by kernel_rfl) (by kernel_rfl) (by kernel_rfl) (fun _ _ _ h => h) (Or.inl ⟨by rfl, ?_⟩) hHeld ?_
          rotate_left
          · intro w0 hSw
            try dsimp only at hSw
            go_simp
            try with_reducible rfl
          try simp only [Act.put, List.setIfInBounds_toArray, List.set_cons_zero, List.set_cons_succ]
          refine wpAnyH_done (by kernel_rfl) ?_ _
          show wpList _ _ _ _ _ _
          simp only [List.drop_succ_cons, List.drop_zero]
          clear hHeld HCS HWR HB2 HB3 s0 s1 s2 s3 t8 tt to_
          go_wp2_with fail
          go_meet
          exact HRT
        · go_simp
          obtain ⟨W3, eW3⟩ : ∃ W3, W3 = (wr.alloc (.cells #[.int .i64 0, .int .i64 0] 28)).drew := ⟨_, rfl⟩
          obtain ⟨fb, hfb⟩ : ∃ fb, fb = wr.heap.size := ⟨_, rfl⟩
          have z0 : W3.cell? ⟨fb, 0, none⟩ = some (.int .i64 0) := by rw [eW3, hfb]; exact (World.cell?_alloc_at _ _ _ _ rfl).trans rfl
          have z1 : W3.cell? ⟨fb, 1, none⟩ = some (.int .i64 0) := by rw [eW3, hfb]; exact (World.cell?_alloc_at _ _ _ _ rfl).trans rfl
          have f0 : W3.frozen? ⟨fb, 0, none⟩ = false := by rw [eW3, hfb]; exact World.frozen?_alloc_at _ _ _ _ rfl
          have f1 : W3.frozen? ⟨fb, 1, none⟩ = false := by rw [eW3, hfb]; exact World.frozen?_alloc_at _ _ _ _ rfl
          have HB3 : Hid (Below W1.heap.size W1 W3) := by rw [eW3]; exact (bl_alloc HB.out).drew
          have HFE : Hid (W1.heap.size ≤ fb) := by show W1.heap.size ≤ fb; rw [hfb]; exact HB.out.size
          have EW3 := hid eW3
          have EFB := hid hfb
          try rw [← EW3.out]
          try rw [← EFB.out]
          have hfl : fb < W3.heap.size := World.block_lt_of_cell? _ _ z0
          clear eW3 hfb
          refine hK.out _ _ (HCS.out _ HB3.out).1 (fun hHeld => ?_)
          clear hK K
          try simp only [Act.put, List.setIfInBounds_toArray, List.set_cons_zero, List.set_cons_succ]
          refine wpAnyH_ready (rs := [16]) (by kernel_rfl) (by simp) ?_
          refine AllReadyH.cons (drop_at rfl) (fun K hK => ?_) AllReadyH.nil
          go_simp
          go_at_call 41
          refine (HWR.out _ HB3.out).mono ?_
          rintro e w2 ⟨bg, bc, rfl, hh, hb2⟩
          have HB2 : Hid (Below W1.heap.size W1 w2) := bl_step HB3.out hb2
          have z0' := cell_keep z0 hb2
          have z1' := cell_keep z1 hb2
          have f0' := (hb2.frozen (p := ⟨fb, 0, none⟩) hfl).trans f0
          have f1' := (hb2.frozen (p := ⟨fb, 1, none⟩) hfl).trans f1
          have hfl' : fb < w2.heap.size := World.block_lt_of_cell? _ _ z0'
          have HRT : Hid (WroteAt W1 z (.slice bg 1 bc) ((w2.setCell ⟨fb, 0, none⟩ (.int .i64 0)).setCell ⟨fb, 1, none⟩ (.int .i64 0))) := wrote_of HB2.out HFE.out z0' z1' hh
          clear hh hb2 z0 z1 f0 f1 hfl
          refine hK.out _ _ (HCS.out _ HB2.out).1 (fun hHeld => ?_)
          clear hK K
          try simp only [Act.put, List.setIfInBounds_toArray, List.set_cons_zero, List.set_cons_succ]
          refine wpAnyH_take (i := 17) (v := ?_) (drop_at rfl) (by kernel_rfl) (by kernel_rfl) (by kernel_rfl) (fun _ _ _ h => h) (Or.inl ⟨by rfl, ?_⟩) hHeld ?_
          rotate_left
          · intro w0 hSw
            try dsimp only at hSw
            go_simp
            try with_reducible rfl
          try simp only [Act.put, List.setIfInBounds_toArray, List.set_cons_zero, List.set_cons_succ]
          refine wpAnyH_take (i := 18) (v := ?_) (drop_at rfl) (by kernel_rfl) (by kernel_rfl) (by kernel_rfl) (fun _ _ _ h => h) (Or.inl ⟨by rfl, ?_⟩) hHeld ?_
          rotate_left
          · intro w0 hSw
            try dsimp only at hSw
            go_simp
            try with_reducible rfl
          try simp only [Act.put, List.setIfInBounds_toArray, List.set_cons_zero, List.set_cons_succ]
          refine wpAnyH_take (i := 19) (v := ?_) (drop_at rfl) (by kernel_rfl) (by kernel_rfl) (by kernel_rfl) (fun _ _ _ h => h) (Or.inl ⟨by rfl, ?_⟩) hHeld ?_
          rotate_left
          · intro w0 hSw
            try dsimp only at hSw
            go_simp
            try with_reducible rfl
          try simp only [Act.put, List.setIfInBounds_toArray, List.set_cons_zero, List.set_cons_succ]
          refine wpAnyH_take (i := 21) (v := ?_) (drop_at rfl) (by kernel_rfl) (by kernel_rfl) (by kernel_rfl) (fun _ _ _ h => h) (Or.inl ⟨by rfl, ?_⟩) hHeld ?_
          rotate_left
          · intro w0 hSw
            try dsimp only at hSw
            go_simp
            try with_reducible rfl
          try simp only [Act.put, List.setIfInBounds_toArray, List.set_cons_zero, List.set_cons_succ]
          refine wpAnyH_done (by kernel_rfl) ?_ _
          show wpList _ _ _ _ _ _
          simp only [List.drop_succ_cons, List.drop_zero]
          clear hHeld HCS HWR HB2 HB3 EW3 HFE EFB s0 s1 s2 s3 t8 tt to_
          go_wp2_with fail
          go_meet
          exact HRT
      case rest =>
        obtain ⟨bg, bc, rfl, hh, hbx⟩ := hcut.out
        have HBX := hid hbx
        have HH := hid hh
        obtain ⟨bb, bo, rfl, _, _⟩ := hh.some (by decide)
        clear hcut hh hbx HWR s0 s1 s2 s3 t8 tt to_ HB
        go_wp2_with (at_builtin; refine copy_law rfl _ _ rfl rfl (some ⟨bb, bo, none⟩) 1 bc [z] rfl (fun h => by cases h) HH.out (by decide) ?_; intro v' w' hown hb)
        have HO2 : Hid (w'.ownsRow W1.heap.size 5 1 v' 1 (BB [z])) := hown.mono HBX.out.size
        have HB2 : Hid (Below W1.heap.size W1 w') := bl_step HBX.out hb
        clear hown hb HH HBX
        go_roundw
        case rel => exact .inr ⟨rfl, HO2, HB2⟩
        case measure => simp [intOf]
    · obtain ⟨ra0, rc0, rfl, _, _⟩ := own_is HO.out
      obtain ⟨ad, had⟩ : ∃ ad : Addr, (if pc = tk then some (⟨pb, po, none⟩ : Addr) else some ⟨pb, po + tk, none⟩) = some ad := by
        by_cases e : pc = tk
        · exact ⟨_, by rw [if_pos e]⟩
        · exact ⟨_, by rw [if_neg e]⟩
      have hrest : Has .u8 wr (some ad) (pn - tk) (bs.drop tk) := by
        have := has_from (HPK.out.step HB.out) HTK.out HBC.out
        rw [had] at this
        exact this
      have HRS := hid hrest
      have hp1 : (tk : Int) ≤ (pn : Int) := by omega
      have hp2 : (pn : Int) ≤ (pc : Int) := by have := HBC.out; omega
      have hp3 : (tk : Int) ≤ (pc : Int) := by omega
      clear hrest HWR
      go_upto_region 11 with fail
      refine wp_region_cut 16 (by kernel_rfl) (by kernel_rfl) ?_
      refine wpAny_of_held (S := (fun w' => w'.cell? ⟨q, 12, none⟩ = some (.slice (some ⟨pb, po, none⟩) pn pc) ∧ w'.cell? ⟨q, 13, none⟩ = some (.int .i64 (tk : Int)) ∧ w'.cell? ⟨q, 14, none⟩ = some (.int .i64 op))) _ _ _ _ ?_
      have hHeld := (HCS.out _ HB.out.drew).2.1
      refine wpAnyH_take (i := 0) (v := ?_) (drop_at rfl) (by kernel_rfl) (by kernel_rfl) (by kernel_rfl) (fun _ _ _ h => h) (Or.inl ⟨by rfl, ?_⟩) hHeld ?_
      rotate_left
      · intro w0 hSw
        try dsimp only at hSw
        go_simp
        try with_reducible rfl
      try simp only [Act.put, List.setIfInBounds_toArray, List.set_cons_zero, List.set_cons_succ]
      refine wpAnyH_take (i := 1) (v := ?_) (drop_at rfl) (by kernel_rfl) (by kernel_rfl) (by kernel_rfl) (fun _ _ _ h => h) (Or.inl ⟨by rfl, ?_⟩) hHeld ?_
      rotate_left
      · intro w0 hSw
        try dsimp only at hSw
        go_simp
        try with_reducible rfl
      try simp only [Act.put, List.setIfInBounds_toArray, List.set_cons_zero, List.set_cons_succ]
      refine wpAnyH_take (i := 2) (v := ?_) (drop_at rfl) (by kernel_rfl) (by kernel_rfl) (by kernel_rfl) (fun _ _ _ h => h) (Or.inl ⟨by rfl, ?_⟩) hHeld ?_
      rotate_left
      · intro w0 hSw
        try dsimp only at hSw
        go_simp
        try with_reducible rfl
      try simp only [Act.put, List.setIfInBounds_toArray, List.set_cons_zero, List.set_cons_succ]
      refine wpAnyH_take (i := 3) (v := ?_) (drop_at rfl) (by kernel_rfl) (by kernel_rfl) (by kernel_rfl) (fun _ _ _ h => h) (Or.inl ⟨by rfl, ?_⟩) hHeld ?_
      rotate_left
      · intro w0 hSw
        try dsimp only at hSw
        go_simp
        try with_reducible rfl
      try simp only [Act.put, List.setIfInBounds_toArray, List.set_cons_zero, List.set_cons_succ]
      refine wpAnyH_take (i := 4) (v := ?_) (drop_at rfl) (by kernel_rfl) (by kernel_rfl) (by kernel_rfl) (fun _ _ _ h => h) (Or.inl ⟨by rfl, ?_⟩) hHeld ?_
      rotate_left
      · intro w0 hSw
        try dsimp only at hSw
        go_simp
        try with_reducible rfl
      try simp only [Act.put, List.setIfInBounds_toArray, List.set_cons_zero, List.set_cons_succ]
      refine wpAnyH_take (i := 5) (v := ?_) (drop_at rfl) (by kernel_rfl) (by kernel_rfl) (by kernel_rfl) (fun _ _ _ h => h) (Or.inl ⟨by rfl, ?_⟩) hHeld ?_
      rotate_left
      · intro w0 hSw
        try dsimp only at hSw
        go_simp
        try with_reducible rfl
      try simp only [Act.put, List.setIfInBounds_toArray, List.set_cons_zero, List.set_cons_succ]
      refine wpAnyH_take (i := 6) (v := ?_) (drop_at rfl) (by kernel_rfl) (by kernel_rfl) (by kernel_rfl) (fun _ _ _ h => h) (Or.inl ⟨by rfl, ?_⟩) hHeld ?_
      rotate_left
      · intro w0 hSw
        try dsimp only at hSw
        go_simp
        try with_reducible rfl
      try simp only [Act.put, List.setIfInBounds_toArray, List.set_cons_zero, List.set_cons_succ]
      refine wpAnyH_take (i := 7) (v := ?_) (drop_at rfl) (by kernel_rfl) (by kernel_rfl) (by kernel_rfl) (fun _ _ _ h => h) (Or.inl ⟨by rfl, ?_⟩) hHeld ?_
      rotate_left
      · intro w0 hSw
        try dsimp only at hSw
        go_simp
        try with_reducible rfl
      try simp only [Act.put, List.setIfInBounds_toArray, List.set_cons_zero, List.set_cons_succ]
      refine wpAnyH_take (i := 8) (v := ?_) (drop_at rfl) (by kernel_rfl) (by kernel_rfl) (by kernel_rfl) (fun _ _ _ h => h) (Or.inl ⟨by rfl, ?_⟩) hHeld ?_
      rotate_left
      · intro w0 hSw
        try dsimp only at hSw
        go_simp
        try with_reducible rfl
      try simp only [Act.put, List.setIfInBounds_toArray, List.set_cons_zero, List.set_cons_succ]
      refine wpAnyH_take (i := 9) (v := ?_) (drop_at rfl) (by kernel_rfl) (by kernel_rfl) (by kernel_rfl) (fun _ _ _ h => h) (Or.inl ⟨by rfl, ?_⟩) hHeld ?_
      rotate_left
      · intro w0 hSw
        try dsimp only at hSw
        go_simp
        try with_reducible rfl
      try simp only [Act.put, List.setIfInBounds_toArray, List.set_cons_zero, List.set_cons_succ]
      refine wpAnyH_take (i := 10) (v := ?_) (drop_at rfl) (by kernel_rfl) (by kernel_rfl) (by kernel_rfl) (fun _ _ _ h => h) (Or.inl ⟨by rfl, ?_⟩) hHeld ?_
      rotate_left
      · intro w0 hSw
        try dsimp only at hSw
        go_simp
        try with_reducible rfl
      try simp only [Act.put, List.setIfInBounds_toArray, List.set_cons_zero, List.set_cons_succ]
      refine wpAnyH_take (i := 11) (v := ?_) (drop_at rfl) (by kernel_rfl) (by kernel_rfl) (by kernel_rfl) (fun _ _ _ h => h) (Or.inl ⟨by rfl, ?_⟩) hHeld ?_
      rotate_left
      · intro w0 hSw
        try dsimp only at hSw
        go_simp
        try with_reducible rfl
      try simp only [Act.put, List.setIfInBounds_toArray, List.set_cons_zero, List.set_cons_succ]
      refine wpAnyH_take (i := 12) (v := ?_) (drop_at rfl) (by kernel_rfl) (by kernel_rfl) (by kernel_rfl) (fun _ _ _ h => h) (Or.inl ⟨by rfl, ?_⟩) hHeld ?_
      rotate_left
      · intro w0 hSw
        try dsimp only at hSw
        go_simp
        try with_reducible rfl
      try simp only [Act.put, List.setIfInBounds_toArray, List.set_cons_zero, List.set_cons_succ]
      refine wpAnyH_take (i := 13) (v := ?_) (drop_at rfl) (by kernel_rfl) (by kernel_rfl) (by kernel_rfl) (fun _ _ _ h => h) (Or.inl ⟨by rfl, ?_⟩) hHeld ?_
      rotate_left
      · intro w0 hSw
        try dsimp only at hSw
        go_simp
        try with_reducible rfl
      try simp only [Act.put, List.setIfInBounds_toArray, List.set_cons_zero, List.set_cons_succ]
      refine wpAnyH_ready (rs := [14]) (by kernel_rfl) (by simp) ?_
      refine AllReadyH.cons (drop_at rfl) (fun K hK => ?_) AllReadyH.nil
      refine step8 rfl _ _ rfl W1.heap.size 1 (pn - tk) (pc - tk) (.slice ra0 1 rc0) [z] (bs.drop tk) ad (by simp [Act.eval]) (by simp [Act.eval]) HO.out.drew (HRS.out.step (Below.refl wr.heap.size wr).drew) (by omega) HB.out.size ?_
      intro v5 w5 hown5 hb5
      have HB5 : Hid (Below W1.heap.size W1 w5) := HB.out.trans ((Below.refl wr.heap.size wr).drew.mono HB.out.size |>.trans hb5)
      obtain ⟨ra, rc, rfl, hh⟩ := has_of_owns8 hown5 (bytes_cons HZB.out HPK.out.bytes tk)
      have HF5 : Hid (∀ w', Below w.heap.size w w' → Has .u8 w' ra (1 + (pn - tk)) ([z] ++ bs.drop tk) → ResDone op (z :: bs.drop tk) w (.returned (.agg #[.int .i64 op, .slice ra (1 + (pn - tk)) rc])) w') := fun w' h1 h2 => by
        have el : (z :: bs.drop tk).length = 1 + (pn - tk) := by rw [List.length_cons, List.length_drop, HBL.out]; omega
        refine ⟨ra, rc, ?_, ?_, h1⟩
        · rw [el]
        · rw [el]; exact h2
      obtain ⟨⟨_, _, _, _⟩, _, _, p0, p1, p2, p3, p4⟩ := HCS.out _ HB5.out
      have HH5 := hid hh
      refine hK.out _ _ (HCS.out _ HB5.out).2.1 (fun hHeld => ?_)
      clear hK K hown5 hb5 hh
      try simp only [Act.put, List.setIfInBounds_toArray, List.set_cons_zero, List.set_cons_succ]
      generalize 1 + (pn - tk) = rm at *
      refine wpAnyH_take (i := 15) (v := ?_) (drop_at rfl) (by kernel_rfl) (by kernel_rfl) (by kernel_rfl) (fun _ _ _ h => h) (Or.inl ⟨by rfl, ?_⟩) hHeld ?_
      rotate_left
      · intro w0 hSw
        try dsimp only at hSw
        go_simp
        try with_reducible rfl
      try simp only [Act.put, List.setIfInBounds_toArray, List.set_cons_zero, List.set_cons_succ]
      refine wpAnyH_done (by kernel_rfl) ?_ _
      show wpList _ _ _ _ _ _
      simp only [List.drop_succ_cons, List.drop_zero]
      have HE5 : Hid (ResDone op (z :: bs.drop tk) w (.returned (.agg #[.int .i64 op, .slice ra rm rc])) ((w5.setCell ⟨rx, 0, none⟩ (.int .i64 op)).setCell ⟨rx, 1, none⟩ (.slice ra rm rc))) := by
        refine HF5.out _ (((bl_step HB1.out HB5.out).setCell (p := ⟨rx, 0, none⟩) (by show w.heap.size ≤ rx; rw [ER.out]; exact Nat.le_refl _) _).setCell (p := ⟨rx, 1, none⟩) (by show w.heap.size ≤ rx; rw [ER.out]; exact Nat.le_refl _) _) ?_
        exact (HH5.out.put (by decide) p0 _).keepCell (cell_other p1 (by omega)) (fun n h => by cases h) _
      clear hHeld HCS HB HB5 HO HRS HPK HF5 HH5
      go_wp2
      exact bodyPost_ret (v := .agg #[.int .i64 op, .slice ra rm rc]) (by simp [results, Tryz.results19, go_sem, *]) rfl HE5.out
end Go.Proofs.YtajelgjbgehahaaGreat
