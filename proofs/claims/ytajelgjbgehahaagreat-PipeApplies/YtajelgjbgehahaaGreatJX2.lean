/- Texts of one chain, joined: XTrip, XCargo, XMade, YCut, XVal. -/
import Derived.Test.YtajelgjbgehahaaGreatJ1
import Derived.Test.YtajelgjbgehahaaGreatVQGreat
import Derived.Test.YtajelgjbgehahaaGreatVWLead
import Derived.Deep.DeepCutAuto
import Derived.Deep.RegionHeld3
import Derived.Deep.RegionLaw
import Derived.Deep.AppendLies
import Derived.Test.YtajelgjbgehahaaGreatJX1
import Derived.OrdersHeld
import Derived.StillTail
import Derived.Test.YtajelgjbgehahaaGreatJ2
import Derived.Test.YtajelgjbgehahaaGreatJ15
import Derived.Test.YtajelgjbgehahaaGreatJ11
namespace Go.Proofs.YtajelgjbgehahaaGreat
open Go.RowKit

/-- where a packet's things lie, and what they are -/
structure TripD where
  q : Nat
  va : Option Addr
  vb : Nat
  vc : Nat
  th : Nat
  mt : Nat
  pt : Nat
  rb : Nat → Nat
  V : List (List Int)
  T : List Bool
  M : List Int
  port : Int
  st : QSl
  b : QSl
  bs : List Int
  taken : Nat
  outp : Int
  lost : Bool

/-- a list of numbers at the head of a block, that may be written -/
def NumsAt (w : World) (b : Nat) (zs : List Int) : Prop := (∀ (j : Nat) (z : Int), zs[j]? = some z → w.cell? ⟨b, j, none⟩ = some (.int .u64 z)) ∧ (∀ o, w.frozen? ⟨b, o, none⟩ = false) ∧ b < w.heap.size ∧ ∀ z ∈ zs, 0 ≤ z ∧ z < 18446744073709551616

theorem NumsAt.step {w w' : World} {b : Nat} {zs : List Int} (h : NumsAt w b zs) (k : Below w.heap.size w w') : NumsAt w' b zs :=
  ⟨fun j z hz => cell_keep (h.1 j z hz) k, fun o => (k.frozen (p := ⟨b, o, none⟩) h.2.2.1).trans (h.2.1 o), Nat.lt_of_lt_of_le h.2.2.1 k.size, h.2.2.2⟩
theorem NumsAt.but {w w' : World} {b g : Nat} {zs : List Int} (h : NumsAt w b zs) (k : But g w w') (hn : b ≠ g) : NumsAt w' b zs :=
  ⟨fun j z hz => k.cell hn (h.1 j z hz), fun o => (k.frozen hn h.2.2.1).trans (h.2.1 o), Nat.lt_of_lt_of_le h.2.2.1 k.low.size, h.2.2.2⟩
theorem NumsAt.set {w : World} {b : Nat} {zs : List Int} (h : NumsAt w b zs) {i : Nat} (hi : i < zs.length) {x : Int} (hx : 0 ≤ x ∧ x < 18446744073709551616) : NumsAt (w.setCell ⟨b, i, none⟩ (.int .u64 x)) b (zs.set i x) := by
  refine ⟨fun j z hz => ?_, fun o => by rw [World.frozen?_setCell]; exact h.2.1 o, by rw [World.size_setCell]; exact h.2.2.1, fun z hz => ?_⟩
  · rw [List.getElem?_set] at hz
    by_cases e : i = j
    · subst e
      rw [if_pos rfl, if_pos hi] at hz
      cases hz
      exact World.cell?_setCell_same _ _ _ (h.1 i _ (List.getElem?_eq_getElem hi))
    · rw [if_neg e] at hz
      exact (World.cell?_setCell_other _ _ _ _ (by intro he; cases he; exact e rfl)).trans (h.1 j z hz)
  · rcases List.mem_or_eq_of_mem_set hz with h1 | h1
    · exact h.2.2.2 z h1
    · rw [h1]; exact hx
theorem NumsAt.has {w : World} {b : Nat} {zs : List Int} (h : NumsAt w b zs) : Has .u64 w (some ⟨b, 0, none⟩) zs.length zs :=
  ⟨rfl, fun n hn => wf_u64 _ (h.2.2.2 n hn), .inr ⟨b, 0, rfl, h.2.2.1, fun i hi => by
    rw [Nat.zero_add, List.getD_eq_getElem?_getD, List.getElem?_eq_getElem hi]
    exact h.1 i _ (List.getElem?_eq_getElem hi)⟩⟩

/-- the plan's cells in a block -/
def XBox (d : PlanD) (b : Nat) (w : World) : Prop := w.cell? ⟨b, 0, none⟩ = some (.slice d.heads.a d.heads.n d.heads.c) ∧ w.cell? ⟨b, 1, none⟩ = some (.slice d.mta.a d.mta.n d.mta.c) ∧ w.cell? ⟨b, 2, none⟩ = some (.slice d.states.a d.states.n d.states.c) ∧ w.cell? ⟨b, 3, none⟩ = some (.slice d.acts.a d.acts.n d.acts.c) ∧ w.cell? ⟨b, 4, none⟩ = some (.slice d.tabs.a d.tabs.n d.tabs.c) ∧ w.cell? ⟨b, 5, none⟩ = some (.slice d.nodes.a d.nodes.n d.nodes.c) ∧ w.cell? ⟨b, 6, none⟩ = some (.slice d.out.a d.out.n d.out.c)

theorem XBox.far {d : PlanD} {b : Nat} {w w' : World} (h : XBox d b w) (k : ∀ o v, w.cell? ⟨b, o, none⟩ = some v → o < 7 → w'.cell? ⟨b, o, none⟩ = some v) : XBox d b w' := by
  obtain ⟨h0, h1, h2, h3, h4, h5, h6⟩ := h
  exact ⟨k _ _ h0 (by omega), k _ _ h1 (by omega), k _ _ h2 (by omega), k _ _ h3 (by omega), k _ _ h4 (by omega), k _ _ h5 (by omega), k _ _ h6 (by omega)⟩
theorem XBox.step {d : PlanD} {b : Nat} {w w' : World} (h : XBox d b w) (k : Below w.heap.size w w') : XBox d b w' := h.far fun _ _ hv _ => cell_keep hv k

structure TripAt (d : PlanD) (W0 : World) (G : TripD) (w : World) : Prop where
  box : XBox d G.q w
  c7 : w.cell? ⟨G.q, 7, none⟩ = some (.slice G.va d.heads.n G.vc)
  c8 : w.cell? ⟨G.q, 8, none⟩ = some (.slice (some ⟨G.th, 0, none⟩) d.heads.n d.heads.n)
  c9 : w.cell? ⟨G.q, 9, none⟩ = some (.slice (some ⟨G.mt, 0, none⟩) d.mta.n d.mta.n)
  c10 : w.cell? ⟨G.q, 10, none⟩ = some (.slice (some ⟨G.pt, 0, none⟩) 1 1)
  c11 : w.cell? ⟨G.q, 11, none⟩ = some (.slice G.st.a G.st.n G.st.c)
  c12 : w.cell? ⟨G.q, 12, none⟩ = some (.slice G.b.a G.b.n G.b.c)
  c13 : w.cell? ⟨G.q, 13, none⟩ = some (.int .i64 (G.taken : Int))
  c14 : w.cell? ⟨G.q, 14, none⟩ = some (.int .i64 G.outp)
  c15 : w.cell? ⟨G.q, 15, none⟩ = some (.bool G.lost)
  fq : ∀ o, w.frozen? ⟨G.q, o, none⟩ = false
  ts : ∀ (i : Nat) (x : Bool), G.T[i]? = some x → w.cell? ⟨G.th, i, none⟩ = some (.bool x)
  tf : ∀ o, w.frozen? ⟨G.th, o, none⟩ = false
  tl : G.T.length = d.heads.n
  va : 0 < d.heads.n → G.va = some ⟨G.vb, 0, none⟩
  vl : G.V.length = d.heads.n
  vs : ∀ (i : Nat) (zs : List Int), G.V[i]? = some zs → w.cell? ⟨G.vb, i, none⟩ = some (.slice (some ⟨G.rb i, 0, none⟩) zs.length zs.length) ∧ NumsAt w (G.rb i) zs ∧ ∃ h, d.hs[i]? = some h ∧ zs.length = h.w.n
  ms : NumsAt w G.mt G.M
  ml : G.M.length = d.mta.n
  ps : w.cell? ⟨G.pt, 0, none⟩ = some (.int .u64 G.port)
  hb : Has .u8 W0 G.b.a G.b.n G.bs
  bc : G.b.n ≤ G.b.c
  lie : d.lie W0
  bel : Below W0.heap.size W0 w
  nq : W0.heap.size ≤ G.q
  nv : W0.heap.size ≤ G.vb
  nt : W0.heap.size ≤ G.th ∧ G.th < w.heap.size
  nm : W0.heap.size ≤ G.mt
  np : W0.heap.size ≤ G.pt
  nr : ∀ i, i < d.heads.n → W0.heap.size ≤ G.rb i
  dq : G.q ≠ G.vb ∧ G.q ≠ G.th ∧ G.q ≠ G.mt ∧ G.q ≠ G.pt ∧ ∀ i, i < d.heads.n → G.q ≠ G.rb i
  dv : G.vb ≠ G.th ∧ G.vb ≠ G.mt ∧ G.vb ≠ G.pt ∧ ∀ i, i < d.heads.n → G.vb ≠ G.rb i
  dt : G.th ≠ G.mt ∧ G.th ≠ G.pt ∧ ∀ i, i < d.heads.n → G.th ≠ G.rb i
  dm : G.mt ≠ G.pt ∧ ∀ i, i < d.heads.n → G.mt ≠ G.rb i
  dp : ∀ i, i < d.heads.n → G.pt ≠ G.rb i
  dr : ∀ i j, i < d.heads.n → j < d.heads.n → G.rb i = G.rb j → i = j

theorem TripAt.ql {d : PlanD} {W0 w : World} {G : TripD} (h : TripAt d W0 G w) : G.q < w.heap.size := World.block_lt_of_cell? _ _ h.c7

/-- nothing old turns -/
theorem TripAt.step {d : PlanD} {W0 w w' : World} {G : TripD} (h : TripAt d W0 G w) (k : Below w.heap.size w w') : TripAt d W0 G w' :=
  { h with
    box := h.box.step k, c7 := cell_keep h.c7 k, c8 := cell_keep h.c8 k, c9 := cell_keep h.c9 k, c10 := cell_keep h.c10 k, c11 := cell_keep h.c11 k, c12 := cell_keep h.c12 k, c13 := cell_keep h.c13 k, c14 := cell_keep h.c14 k, c15 := cell_keep h.c15 k
    fq := fun o => (k.frozen (p := ⟨G.q, o, none⟩) h.ql).trans (h.fq o)
    ts := fun i x hx => cell_keep (h.ts i x hx) k
    tf := fun o => (k.frozen (p := ⟨G.th, o, none⟩) h.nt.2).trans (h.tf o)
    vs := fun i zs hz => ⟨cell_keep (h.vs i zs hz).1 k, (h.vs i zs hz).2.1.step k, (h.vs i zs hz).2.2⟩
    ms := h.ms.step k, ps := cell_keep h.ps k
    bel := bl_step h.bel k
    nt := ⟨h.nt.1, Nat.lt_of_lt_of_le h.nt.2 k.size⟩ }

end Go.Proofs.YtajelgjbgehahaaGreat

namespace Go.Proofs.YtajelgjbgehahaaGreat
open Go.RowKit

/-- there is such a row -/
def RowOk (d : PlanD) (h : Int) : Prop := h = -1 ∨ h = -3 ∨ (0 ≤ h ∧ h < (d.heads.n : Int))

/-- where the row lies, and how many numbers it has -/
def rowB (G : TripD) (h : Int) : Nat := if h = -1 then G.mt else if h = -3 then G.pt else G.rb h.toNat
def rowL (G : TripD) (h : Int) : List Int := if h = -1 then G.M else if h = -3 then [G.port] else G.V.getD h.toNat []

theorem TripAt.row {d : PlanD} {W0 w : World} {G : TripD} (hg : TripAt d W0 G w) {h : Int} (hh : RowOk d h) {f : Nat} (hf : f < (rowL G h).length) : w.cell? ⟨rowB G h, f, none⟩ = some (.int .u64 ((rowL G h).getD f 0)) := by
  unfold rowB rowL at *
  by_cases e1 : h = -1
  · rw [if_pos e1] at *
    rw [if_pos e1, List.getD_eq_getElem?_getD, List.getElem?_eq_getElem hf]
    exact hg.ms.1 f _ (List.getElem?_eq_getElem hf)
  rw [if_neg e1] at *
  by_cases e3 : h = -3
  · rw [if_pos e3] at *
    obtain rfl : f = 0 := by simpa using hf
    rw [if_neg e1, if_pos e3]
    exact hg.ps
  rw [if_neg e3] at *
  rw [if_neg e1, if_neg e3]
  have h0 : 0 ≤ h ∧ h < (d.heads.n : Int) := by
    rcases hh with h1 | h1 | h1
    · exact absurd h1 e1
    · exact absurd h1 e3
    · exact h1
  have hl : h.toNat < G.V.length := by rw [hg.vl]; omega
  have ev : G.V.getD h.toNat [] = G.V[h.toNat] := by rw [List.getD_eq_getElem?_getD, List.getElem?_eq_getElem hl]; rfl
  rw [ev] at hf ⊢
  rw [List.getD_eq_getElem?_getD, List.getElem?_eq_getElem hf]
  exact (hg.vs _ _ (List.getElem?_eq_getElem hl)).2.1.1 f _ (List.getElem?_eq_getElem hf)

set_option maxHeartbeats 4000000 in
set_option maxRecDepth 20000 in
theorem xrow_any {d : PlanD} {W0 w : World} {G : TripD} (hg : TripAt d W0 G w) (h : Int) (hh : RowOk d h) :
    Calls Tryz.prog 83 #[.pointer (some ⟨G.q, 7, none⟩), .int .i64 h] w fun e w' => e = .returned (.slice (some ⟨rowB G h, 0, none⟩) (rowL G h).length (rowL G h).length) ∧ w' = w := by
  unfold rowB rowL
  by_cases e1 : h = -1
  · rw [if_pos e1, if_pos e1, hg.ml]
    subst e1
    have c9 := hg.c9
    clear hg hh
    go_enter Tryz.func83, Tryz.ntmps83
    go_wp2
    go_ret
    exact ⟨rfl, rfl⟩
  have k1 : (h == -1) = false := by rw [beq_eq_false_iff_ne]; exact e1
  by_cases e3 : h = -3
  · rw [if_neg e1, if_pos e3, if_neg e1, if_pos e3]
    subst e3
    have c10 := hg.c10
    clear hg hh
    go_enter Tryz.func83, Tryz.ntmps83
    go_wp2
    go_ret
    exact ⟨rfl, rfl⟩
  have k3 : (h == -3) = false := by rw [beq_eq_false_iff_ne]; exact e3
  rw [if_neg e1, if_neg e3, if_neg e1, if_neg e3]
  have h0 : 0 ≤ h ∧ h < (d.heads.n : Int) := by
    rcases hh with h1 | h1 | h1
    · exact absurd h1 e1
    · exact absurd h1 e3
    · exact h1
  obtain ⟨k, rfl⟩ : ∃ k : Nat, h = k := ⟨h.toNat, by omega⟩
  rw [Int.toNat_natCast]
  have hl : k < G.V.length := by rw [hg.vl]; omega
  have c7 := hg.c7
  rw [hg.va (by omega)] at c7
  have cv := (hg.vs _ _ (List.getElem?_eq_getElem hl)).1
  have ev : G.V.getD k [] = G.V[k] := by rw [List.getD_eq_getElem?_getD, List.getElem?_eq_getElem hl]; rfl
  rw [ev]
  have h1 := h0.2
  generalize G.V[k] = X at *
  clear hg hh e1 e3 h0 hl ev
  go_enter Tryz.func83, Tryz.ntmps83
  go_wp2
  go_ret
  exact ⟨rfl, rfl⟩

/-- what a field has -/
def fieldN (G : TripD) (r : RefD) : Int := (rowL G r.h).getD r.f.toNat 0
def FieldOk (d : PlanD) (G : TripD) (r : RefD) : Prop := RowOk d r.h ∧ 0 ≤ r.f ∧ r.f < ((rowL G r.h).length : Int)

set_option maxHeartbeats 4000000 in
set_option maxRecDepth 20000 in
theorem xfield_any {d : PlanD} {W0 w : World} {G : TripD} (hg : TripAt d W0 G w) (r : RefD) (hr : FieldOk d G r) :
    Calls Tryz.prog 66 #[.pointer (some ⟨G.q, 7, none⟩), .agg #[.int .i64 r.h, .int .i64 r.f]] w fun e w' => e = .returned (.int .u64 (fieldN G r)) ∧ Below w.heap.size w w' := by
  obtain ⟨h, f⟩ := r
  obtain ⟨h1, h2, h3⟩ := hr
  dsimp only at h1 h2 h3
  obtain ⟨k, rfl⟩ : ∃ k : Nat, f = k := ⟨f.toNat, by omega⟩
  unfold fieldN
  dsimp only
  rw [Int.toNat_natCast]
  obtain ⟨W1, hW1⟩ : ∃ W1, W1 = w.alloc (.cells #[.int .i64 h, .int .i64 (k : Int)] 61) := ⟨_, rfl⟩
  obtain ⟨b, hb⟩ : ∃ b, b = w.heap.size := ⟨_, rfl⟩
  have b1 : Below w.heap.size w W1 := by rw [hW1]; exact bl_alloc (Below.refl _ _)
  have hg1 := hg.step b1
  have c0 : W1.cell? ⟨b, 0, none⟩ = some (.int .i64 h) := by rw [hW1, hb]; exact (World.cell?_alloc_at _ _ _ _ rfl).trans rfl
  have c1 : W1.cell? ⟨b, 1, none⟩ = some (.int .i64 (k : Int)) := by rw [hW1, hb]; exact (World.cell?_alloc_at _ _ _ _ rfl).trans rfl
  have HR : Hid (∀ p : BelowBy W1, Calls Tryz.prog 83 #[.pointer (some ⟨G.q, 7, none⟩), .int .i64 h] p.to fun e w'' => e = .returned (.slice (some ⟨rowB G h, 0, none⟩) (rowL G h).length (rowL G h).length) ∧ Below p.to.heap.size p.to w'') := fun p => (xrow_any (hg1.step p.h) h h1).mono fun e w' ⟨a, b⟩ => ⟨a, by rw [b]; exact Below.refl _ _⟩
  have cx := hg1.row h1 (f := k) (by omega)
  have c0' := cell_by c0
  have c1' := cell_by c1
  have cx' := cell_by cx
  have HB := hid b1
  have EW := hid hW1
  have EB := hid hb
  generalize (rowL G h).getD k 0 = z at *
  generalize (rowL G h).length = m at *
  generalize rowB G h = rb at *
  clear hg hg1 hW1 hb b1 c0 c1 cx h1
  go_enter Tryz.func66, Tryz.ntmps66
  go_wp2_with fail
  rw [← EW.out, ← EB.out]
  clear EW EB
  haveI inhB : ∀ w : World, Inhabited (BelowBy w) := fun w => ⟨⟨w, Below.refl _ _⟩⟩
  refine wp_region_quiet_below (by kernel_rfl) (by kernel_rfl) ?_
  repeat (go_big_quiet_step (first | (go_at_call 83; exact calls_below _ (HR.out _))))
  refine wpQuiet_nil ?_
  intro wq hw'
  obtain ⟨⟨_, hwq⟩, hw''⟩ := hw'
  subst hw''
  have HF := hid (bl_step HB.out hwq)
  clear HB hwq HR
  go_wp2
  go_ret
  exact ⟨rfl, HF.out⟩
end Go.Proofs.YtajelgjbgehahaaGreat

namespace Go.Proofs.YtajelgjbgehahaaGreat
open Go.RowKit

/-- what a step makes -/
def madeN (R : RefD → Int) (p : PushD) (tk : List Int) : Int :=
  if p.op = 1 then p.n else if p.op = 2 then R p.r else if p.op = 13 then 18446744073709551615 - tk.getD 0 0 else ((op2N p.op (tk.getD 0 0).toNat (tk.getD 1 0).toNat : Nat) : Int)

/-- how many numbers it takes -/
def takesN (op : Int) : Nat := if op = 1 ∨ op = 2 then 0 else if op = 13 then 1 else 2

/-- a reader of fields: the closure of an action, as a contract -/
def Reads (sb tb : Nat) (R : RefD → Int) (r : RefD) (w : World) : Prop := ∀ w', Below w.heap.size w w' → Calls Tryz.prog 84 #[.agg #[.int .i64 r.h, .int .i64 r.f], .pointer (some ⟨sb, 0, none⟩), .pointer (some ⟨tb, 0, none⟩)] w' fun e w'' => e = .returned (.int .u64 (R r)) ∧ Below w'.heap.size w' w''

@[reducible] def readV (sb tb : Nat) : Value := .func (.func 84) #[] #[.pointer (some ⟨sb, 0, none⟩), .pointer (some ⟨tb, 0, none⟩)]

theorem xnot_nat (z : Nat) (hz : z < 2 ^ 64) : (2 ^ 64 - 1) ^^^ z = 2 ^ 64 - (z + 1) := by
  refine Nat.eq_of_testBit_eq fun k => ?_
  rw [Nat.testBit_xor, Nat.testBit_two_pow_sub_one, Nat.testBit_two_pow_sub_succ hz]
  by_cases hk : k < 64
  · simp [hk]
  · have : z.testBit k = false := Nat.testBit_lt_two_pow (Nat.lt_of_lt_of_le hz (Nat.pow_le_pow_right (by decide) (by omega)))
    simp [hk, this]

theorem xnot (z : Int) (hz : 0 ≤ z ∧ z < 18446744073709551616) : bits .xor .u64 IntKind.u64.max z = 18446744073709551615 - z := by
  obtain ⟨z, rfl⟩ : ∃ k : Nat, z = k := ⟨z.toNat, by omega⟩
  have e : IntKind.u64.max = ((18446744073709551615 : Nat) : Int) := by decide
  rw [e, u64_xor_nat _ _ (by decide) (by omega)]
  have := xnot_nat z (by omega)
  have h2 : (18446744073709551615 : Nat) = 2 ^ 64 - 1 := by decide
  rw [h2, this]
  omega

set_option maxHeartbeats 4000000 in
set_option maxRecDepth 20000 in
theorem xmade_any (p : PushD) (a : Option Addr) (n c : Nat) (tk : List Int) (sb tb : Nat) (R : RefD → Int) (w : World) (hk : Has .u64 w a n tk) (hn : takesN p.op ≤ n) (hR : p.op = 2 → Reads sb tb R p.r w) :
    Calls Tryz.prog 90 #[.agg #[.int .i64 p.op, .int .i64 p.r.h, .int .i64 p.r.f, .int .u64 p.n], .slice a n c, readV sb tb] w fun e w' => e = .returned (.int .u64 (madeN R p tk)) ∧ Below w.heap.size w w' := by
  obtain ⟨op, r, x⟩ := p
  obtain ⟨h, f⟩ := r
  dsimp only at *
  obtain ⟨W1, hW1⟩ : ∃ W1, W1 = w.alloc (.cells #[.int .i64 op, .int .i64 h, .int .i64 f, .int .u64 x] 68) := ⟨_, rfl⟩
  obtain ⟨b, hb⟩ : ∃ b, b = w.heap.size := ⟨_, rfl⟩
  have b1 : Below w.heap.size w W1 := by rw [hW1]; exact bl_alloc (Below.refl _ _)
  have c0 : W1.cell? ⟨b, 0, none⟩ = some (.int .i64 op) := by rw [hW1, hb]; exact (World.cell?_alloc_at _ _ _ _ rfl).trans rfl
  have c1 : W1.cell? ⟨b, 1, none⟩ = some (.int .i64 h) := by rw [hW1, hb]; exact (World.cell?_alloc_at _ _ _ _ rfl).trans rfl
  have c2 : W1.cell? ⟨b, 2, none⟩ = some (.int .i64 f) := by rw [hW1, hb]; exact (World.cell?_alloc_at _ _ _ _ rfl).trans rfl
  have c3 : W1.cell? ⟨b, 3, none⟩ = some (.int .u64 x) := by rw [hW1, hb]; exact (World.cell?_alloc_at _ _ _ _ rfl).trans rfl
  have hk1 := hk.step b1
  have HB := hid b1
  have EW := hid hW1
  have EB := hid hb
  have HN := hid hk.nums
  unfold madeN
  dsimp only
  by_cases e1 : op = 1
  · subst e1
    rw [if_pos rfl]
    clear hk hk1 hR hn b1 hW1 hb
    go_enter Tryz.func90, Tryz.ntmps90
    go_upto_region 1 with fail
    rw [← EW.out, ← EB.out]
    clear EW EB
    go_wp2
    go_ret
    exact ⟨rfl, HB.out⟩
  have k1 : (op == 1) = false := beq_eq_false_iff_ne.2 e1
  rw [if_neg e1]
  by_cases e2 : op = 2
  · subst e2
    rw [if_pos rfl]
    have HR := hid (hR rfl _ b1)
    clear hk hk1 hR hn b1 hW1 hb e1
    go_enter Tryz.func90, Tryz.ntmps90
    go_upto_region 1 with fail
    rw [← EW.out, ← EB.out]
    clear EW EB
    go_wp2_with (go_at_call 84; refine HR.out.mono ?_; rintro e w2 ⟨rfl, hb2⟩)
    have HF := hid (bl_step HB.out hb2)
    clear hb2
    go_ret
    exact ⟨rfl, HF.out⟩
  have k2 : (op == 2) = false := beq_eq_false_iff_ne.2 e2
  rw [if_neg e2]
  by_cases e13 : op = 13
  · subst e13
    rw [if_pos rfl]
    have hn1 : 1 ≤ n := hn
    obtain ⟨ab, ao, rfl, hlt, hc⟩ := hk1.some (by omega)
    have d0 := hc 0 (by omega)
    rw [Nat.add_zero] at d0
    have hz := HN.out (tk.getD 0 0) (by rw [List.getD_eq_getElem?_getD, List.getElem?_eq_getElem (by rw [hk.1]; omega)]; exact List.getElem_mem _)
    generalize tk.getD 0 0 = z at *
    have hni : (0 : Int) < (n : Int) := by omega
    clear hk hk1 hR hn b1 hW1 hb e1 e2 hc HN
    go_enter Tryz.func90, Tryz.ntmps90
    go_upto_region 1 with fail
    rw [← EW.out, ← EB.out]
    clear EW EB
    go_wp2
    all_goals first | (exfalso; revert h; decide) | (go_ret; exact ⟨ret_int (xnot z hz), HB.out⟩)
  have k13 : (op == 13) = false := beq_eq_false_iff_ne.2 e13
  rw [if_neg e13]
  have hn2 : 2 ≤ n := by unfold takesN at hn; rw [if_neg (by omega), if_neg e13] at hn; exact hn
  obtain ⟨ab, ao, rfl, hlt, hc⟩ := hk1.some (by omega)
  have d0 := hc 0 (by omega)
  rw [Nat.add_zero] at d0
  have d1 := hc 1 (by omega)
  have hz := HN.out (tk.getD 0 0) (by rw [List.getD_eq_getElem?_getD, List.getElem?_eq_getElem (by rw [hk.1]; omega)]; exact List.getElem_mem _)
  have hy := HN.out (tk.getD 1 0) (by rw [List.getD_eq_getElem?_getD, List.getElem?_eq_getElem (by rw [hk.1]; omega)]; exact List.getElem_mem _)
  generalize tk.getD 0 0 = z at *
  generalize tk.getD 1 0 = y at *
  obtain ⟨z, rfl⟩ : ∃ k : Nat, z = k := ⟨z.toNat, by omega⟩
  obtain ⟨y, rfl⟩ : ∃ k : Nat, y = k := ⟨y.toNat, by omega⟩
  rw [Int.toNat_natCast, Int.toNat_natCast]
  have HA : Hid (∀ p : BelowBy W1, Calls Tryz.prog 5 #[.int .i64 op, .int .u64 (z : Int), .int .u64 (y : Int)] p.to fun e w'' => e = .returned (.int .u64 ((op2N op z y : Nat) : Int)) ∧ Below p.to.heap.size p.to w'') := fun p => (apply_any op z y (by omega) (by omega) p.to).mono fun e w' ⟨a, b⟩ => ⟨a, by rw [b]; exact Below.refl _ _⟩
  have hni : (0 : Int) < (n : Int) := by omega
  have hni2 : (1 : Int) < (n : Int) := by omega
  have c0' := cell_by c0
  have d0' := cell_by d0
  have d1' := cell_by d1
  generalize op2N op z y = v at *
  clear hk hk1 hR hn b1 hW1 hb e1 e2 e13 hc HN hz hy d0 d1
  go_enter Tryz.func90, Tryz.ntmps90
  go_upto_region 1 with fail
  rw [← EW.out, ← EB.out]
  clear EW EB
  go_wp2_with fail
  haveI inhB : ∀ w : World, Inhabited (BelowBy w) := fun w => ⟨⟨w, Below.refl _ _⟩⟩
  refine wp_region_quiet_below (by kernel_rfl) (by kernel_rfl) ?_
  repeat (go_big_quiet_step (first | (go_at_call 5; exact calls_below _ (HA.out _))))
  refine wpQuiet_nil ?_
  intro wq hw'
  obtain ⟨⟨_, hwq⟩, hw''⟩ := hw'
  subst hw''
  have HF := hid (bl_step HB.out hwq)
  clear HB hwq HA
  go_wp2
  go_ret
  exact ⟨rfl, HF.out⟩
end Go.Proofs.YtajelgjbgehahaaGreat

namespace Go.Proofs.YtajelgjbgehahaaGreat
open Go

/-- the exits of the first part: at its end it goes on -/
def cutPost (K : Act → World → Prop) (Q : Exit → Act → World → Prop) : Exit → Act → World → Prop
  | .normal, a, w => K a w
  | .exit i, a, w => Q (.exit i) a w
  | .goto l, a, w => Q (.goto l) a w
  | .ret, a, w => Q .ret a w
  | .panic c, a, w => Q (.panic c) a w
  | .outgrown, a, w => Q .outgrown a w

theorem upon_cut {P : Program} {o : Oper} {a : Act} {K K1 K2 : Act → World → Prop} {Q : Exit → Act → World → Prop} {r : Result Next} (hk : ∀ a w, K1 a w → K2 a w) (h : o.upon P a K1 (cutPost K Q) r) : o.upon P a K2 Q r := by
  cases r with
  | ok n w' =>
    cases n <;> simp only [Oper.upon] at h ⊢ <;>
      first
        | exact hk _ _ h
        | exact Calls.mono h (fun e w'' he => by cases e <;> first | exact hk _ _ he | exact he)
        | exact Rows.mono h (fun _ _ he => hk _ _ he)
  | halt x w' => cases x <;> simp only [Oper.upon] at h ⊢ <;> exact h

theorem wpOp_cut {P : Program} {ops : Array Oper} {i : Nat} {a : Act} {w : World} {K K1 K2 : Act → World → Prop} {Q : Exit → Act → World → Prop} (hk : ∀ a w, K1 a w → K2 a w) (h : wpOp P ops (cutPost K Q) i K1 a w) : wpOp P ops Q i K2 a w := by
  unfold wpOp at *
  split
  · exact hk _ _ (by simpa [*] using h)
  · rename_i o ho
    simp only [ho] at h
    split
    · rename_i hw
      simp only [hw, if_true] at h
      exact h.imp (fun h => upon_cut hk h) id
    · rename_i hw
      simp only [hw] at h
      exact hk _ _ h

/-- the same listed ahead of n; behind it the one has all, the other none -/
structure CutRel (n m : Nat) (hl listed : Array Bool) : Prop where
  s1 : hl.size = m
  s2 : listed.size = m
  head : ∀ i, i < n → hl[i]? = listed[i]?
  tl : ∀ t, n ≤ t → t < m → hl[t]? = some true ∧ listed[t]? = some false

theorem CutRel.set {n m : Nat} {hl listed : Array Bool} (h : CutRel n m hl listed) {i : Nat} (hi : i < n) : CutRel n m (hl.setIfInBounds i true) (listed.setIfInBounds i true) := by
  refine ⟨by simp [h.s1], by simp [h.s2], fun j hj => ?_, fun t ht hm => ?_⟩
  · by_cases e : i = j
    · subst e
      have := h.head i hi
      rw [Array.getElem?_setIfInBounds_self, Array.getElem?_setIfInBounds_self, h.s1, h.s2]
    · rw [Array.getElem?_setIfInBounds_ne e, Array.getElem?_setIfInBounds_ne e]
      exact h.head j hj
  · rw [Array.getElem?_setIfInBounds_ne (by omega), Array.getElem?_setIfInBounds_ne (by omega)]
    exact h.tl t ht hm

def Region.backB (md : Region.Mode) (ops : Array Oper) (n : Nat) : Bool :=
  (List.range n).all fun i => match ops[i]? with
    | some o => o.after.all fun e => !Region.binds md e || decide (e.on < i)
    | none => false
def Region.waitB (md : Region.Mode) (ops : Array Oper) (n : Nat) : Bool :=
  (List.range ops.size).all fun t => decide (t < n) || (List.range n).all fun i => Region.waitsFor md ops t i

theorem first_not (p : Nat → Bool) : ∀ n, (∃ j, j < n ∧ p j = false) → ∃ j, j < n ∧ p j = false ∧ ∀ i, i < j → p i = true
  | 0, ⟨j, hj, _⟩ => by omega
  | n + 1, ⟨j, hj, hp⟩ => by
    by_cases h : ∃ i, i < n ∧ p i = false
    · obtain ⟨i, h1, h2, h3⟩ := first_not p n h
      exact ⟨i, by omega, h2, h3⟩
    · have hjn : j = n := by
        by_cases e : j < n
        · exact absurd ⟨j, e, hp⟩ h
        · omega
      subst hjn
      refine ⟨j, hj, hp, fun i hi => ?_⟩
      cases hpi : p i with
      | true => rfl
      | false => exact absurd ⟨i, hi, hpi⟩ h

theorem wpAny_cut {P : Program} {md : Region.Mode} {ops : Array Oper} {Q : Exit → Act → World → Prop} {K : Act → World → Prop} {n g : Nat} {E : Array Bool} (hn : n ≤ ops.size) (hback : Region.backB md ops n = true) (hwait : Region.waitB md ops n = true)
    (hE : E.size = ops.size ∧ (∀ i, i < n → E[i]? = some true) ∧ ∀ t, n ≤ t → t < ops.size → E[t]? = some false) (hK : ∀ a w, K a w → wpAny P md ops Q g E a w) :
    ∀ (f : Nat) (hl listed : Array Bool) (a : Act) (w : World), CutRel n ops.size hl listed → hl.toList.count false = f → wpAny P md ops (cutPost K Q) f hl a w → wpAny P md ops Q (f + g) listed a w := by
  intro f
  induction f with
  | zero =>
    intro hl listed a w hr hc h
    have hall : ∀ i, i < ops.size → hl[i]? = some true := fun i hi => by
      have h0 : false ∉ hl.toList := List.count_eq_zero.1 hc
      have hlt : i < hl.size := by rw [hr.s1]; exact hi
      rw [Array.getElem?_eq_getElem hlt]
      cases hx : hl[i] with
      | true => rfl
      | false => exact absurd (by rw [← hx]; exact Array.getElem_mem_toList hlt) h0
    have e : listed = E := by
      refine Array.ext (by rw [hr.s2, hE.1]) fun i h1 h2 => ?_
      have hi : i < ops.size := by rw [← hr.s2]; exact h1
      have : listed[i]? = E[i]? := by
        by_cases hin : i < n
        · rw [← hr.head i hin, hall i hi, hE.2.1 i hin]
        · rw [(hr.tl i (by omega) hi).2, hE.2.2 i (by omega) hi]
      rw [Array.getElem?_eq_getElem h1, Array.getElem?_eq_getElem h2] at this
      exact Option.some.inj this
    subst e
    rw [Nat.zero_add]
    exact hK a w h.2
  | succ f ih =>
    intro hl listed a w hr hc h
    rw [show f + 1 + g = (f + g) + 1 by omega]
    -- one ahead of n is not listed
    have hun : ∃ j, j < n ∧ listed.getD j true = false := by
      have hm : false ∈ hl.toList := List.count_pos_iff.1 (by omega)
      obtain ⟨j, hj, e⟩ := List.getElem_of_mem hm
      have hjs : j < hl.size := by simpa using hj
      have hjm : j < ops.size := by rw [← hr.s1]; exact hjs
      have e' : hl[j]? = some false := by rw [Array.getElem?_eq_getElem hjs]; simpa using e
      by_cases hjn : j < n
      · refine ⟨j, hjn, ?_⟩
        have := hr.head j hjn
        rw [e'] at this
        rw [Array.getD_eq_getD_getElem?, ← this]
        rfl
      · have := (hr.tl j (by omega) hjm).1
        rw [e'] at this
        cases this
    refine ⟨fun h0 => ?_, fun i hi => ?_⟩
    · exfalso
      obtain ⟨j, hj, hju, hjb⟩ := first_not (fun j => listed.getD j true) n hun
      have hjm : j < ops.size := by omega
      have hb := List.all_eq_true.1 hback j (List.mem_range.2 hj)
      rw [Array.getElem?_eq_getElem hjm] at hb
      have : j ∈ Region.ready md ops listed := mem_ready.2 ⟨hju, ops[j], Array.getElem?_eq_getElem hjm, fun e he hbi => by
        have h1 := Array.all_eq_true'.1 hb e he
        rw [hbi] at h1
        have h2 : e.on < j := by simpa using h1
        have h3 := hjb _ h2
        have h4 : e.on < listed.size := by rw [hr.s2]; omega
        rw [Array.getD_eq_getD_getElem?, Array.getElem?_eq_getElem h4] at h3 ⊢
        exact h3⟩
      rw [h0] at this
      cases this
    · obtain ⟨hiu, o, ho, hall⟩ := mem_ready.1 hi
      have him : i < ops.size := (Array.getElem?_eq_some_iff.1 ho).1
      have hin : i < n := by
        by_cases e : i < n
        · exact e
        · exfalso
          have h1 := List.all_eq_true.1 hwait i (List.mem_range.2 him)
          obtain ⟨j, hj, hju⟩ := hun
          simp only [Bool.or_eq_true, decide_eq_true_eq] at h1
          rcases h1 with h1 | h1
          · exact e h1
          · obtain ⟨oj, hoj, ed, hed, hbd, hon⟩ := Region.waitsFor_spec (List.all_eq_true.1 h1 j (List.mem_range.2 hj))
            have : oj = o := Option.some.inj (hoj.symm.trans ho)
            subst this
            have h2 := hall ed hed hbd
            rw [hon, getD_both hju] at h2
            cases h2
      have hmem : i ∈ Region.ready md ops hl := mem_ready.2 ⟨by
          have := hr.head i hin
          rw [Array.getD_eq_getD_getElem?] at hiu ⊢
          rw [this]; exact hiu, o, ho, fun e he hb => by
          have h1 := hall e he hb
          have h2 : e.on < n := by
            by_cases h3 : e.on < n
            · exact h3
            · exfalso
              by_cases h4 : e.on < ops.size
              · have := (hr.tl e.on (by omega) h4).2
                rw [Array.getD_eq_getD_getElem?, this] at h1
                cases h1
              · rw [Array.getD_eq_getD_getElem?, Array.getElem?_eq_none (by rw [hr.s2]; omega)] at h1
                cases h1
          have := hr.head e.on h2
          rw [Array.getD_eq_getD_getElem?] at h1 ⊢
          rw [this]; exact h1⟩
      refine wpOp_cut (fun a' w' h' => ih (hl.setIfInBounds i true) (listed.setIfInBounds i true) a' w' (hr.set hin) ?_ h') (h.2 i hmem)
      have his : i < hl.toList.length := by rw [Array.length_toList, hr.s1]; exact him
      have hif : hl.toList[i] = false := by
        have := hr.head i hin
        have h4 : i < listed.size := by rw [hr.s2]; exact him
        rw [Array.getD_eq_getD_getElem?, Array.getElem?_eq_getElem h4] at hiu
        rw [Array.getElem?_eq_getElem h4] at this
        have h5 : i < hl.size := by rw [hr.s1]; exact him
        rw [Array.getElem?_eq_getElem h5] at this
        simp only [Option.some.injEq, Option.getD_some] at this hiu
        rw [Array.getElem_toList, this]
        exact hiu
      rw [Array.toList_setIfInBounds, List.count_set his, hif, hc]
      simp

theorem drop_at {l rest : List Oper} {i : Nat} {o : Oper} (h : l.drop i = o :: rest) : l.toArray[i]? = some o := by
  have : (l.drop i)[0]? = some o := by rw [h]; rfl
  rw [List.getElem?_drop, Nat.add_zero] at this
  rw [List.getElem?_toArray, this]

theorem rep_left {x y : Bool} {n m i : Nat} (h : i < n) : (List.replicate n x ++ List.replicate m y).toArray[i]? = some x := by
  rw [List.getElem?_toArray, List.getElem?_append_left (by simpa using h), List.getElem?_replicate, if_pos h]
theorem rep_right {x y : Bool} {n m t : Nat} (h : n ≤ t) (h2 : t < n + m) : (List.replicate n x ++ List.replicate m y).toArray[t]? = some y := by
  rw [List.getElem?_toArray, List.getElem?_append_right (by simpa using h), List.length_replicate, List.getElem?_replicate, if_pos (by omega)]
theorem rep_all {m i : Nat} (h : i < m) : (Array.replicate m false)[i]? = some false := by
  rw [Array.getElem?_replicate, if_pos h]

def Region.cutB (l : List Oper) (n : Nat) : Bool :=
  decide (n ≤ l.toArray.size) && Region.backB .any l.toArray n && Region.waitB .any l.toArray n && Region.seqB .any l.toArray (l.drop n).length n (List.replicate n true ++ List.replicate (l.length - n) false).toArray

/-- a region that draws: all orders of what stands ahead of n, then the end -/
theorem wp_region_cut {P : Program} {id : Nat} {Q : Exit → Act → World → Prop} {a : Act} {w : World} {l : List Oper} (n : Nat) (hm : P.follows .mixedOrders = true) (hB : Region.cutB l n = true)
    (h : wpAny P .any l.toArray (cutPost (fun a w => wpList P l.toArray Q (l.drop n) a w) Q) n (List.replicate n false ++ List.replicate (l.length - n) true).toArray a w.drew) : (Code.region id l.toArray true).wp P Q a w := by
  simp only [Region.cutB, Bool.and_eq_true, decide_eq_true_eq] at hB
  obtain ⟨⟨⟨h1, h2⟩, h3⟩, h4⟩ := hB
  have hnl : n ≤ l.length := by simpa using h1
  refine wp_region_any hm ?_
  have hs : l.toArray.size = n + (l.length - n) := by simp; omega
  have key := wpAny_cut (P := P) (md := .any) (ops := l.toArray) (Q := Q) (K := fun a w => wpList P l.toArray Q (l.drop n) a w) (n := n) (g := (l.drop n).length) (E := (List.replicate n true ++ List.replicate (l.length - n) false).toArray) h1 h2 h3
    ⟨by simp; omega, fun i hi => rep_left hi, fun t ht hm => rep_right ht (by omega)⟩
    (fun a w hk => wpAny_of_seq (l.drop n) n _ a w (fun j => by simp) h4 hk)
    n (List.replicate n false ++ List.replicate (l.length - n) true).toArray (Array.replicate l.toArray.size false) a w.drew
    ⟨by simp; omega, by simp, fun i hi => by rw [rep_left hi, rep_all (by omega)], fun t ht hm => ⟨rep_right ht (by omega), rep_all hm⟩⟩
    (by simp [List.count_append, List.count_replicate]) h
  rw [hs]
  rw [hs] at key
  have e : (l.drop n).length = l.length - n := by simp
  rw [e] at key
  exact key

/-- the same, by what all orders of the first part come to -/
theorem wp_region_cutK {P : Program} {id : Nat} {Q : Exit → Act → World → Prop} {a : Act} {w : World} {l : List Oper} (K : Act → World → Prop) (n : Nat) (hm : P.follows .mixedOrders = true) (hB : Region.cutB l n = true)
    (h : wpAny P .any l.toArray (cutPost K Q) n (List.replicate n false ++ List.replicate (l.length - n) true).toArray a w.drew) (hK : ∀ a w, K a w → wpList P l.toArray Q (l.drop n) a w) : (Code.region id l.toArray true).wp P Q a w := by
  simp only [Region.cutB, Bool.and_eq_true, decide_eq_true_eq] at hB
  obtain ⟨⟨⟨h1, h2⟩, h3⟩, h4⟩ := hB
  have hnl : n ≤ l.length := by simpa using h1
  refine wp_region_any hm ?_
  have hs : l.toArray.size = n + (l.length - n) := by simp; omega
  have key := wpAny_cut (P := P) (md := .any) (ops := l.toArray) (Q := Q) (K := K) (n := n) (g := (l.drop n).length) (E := (List.replicate n true ++ List.replicate (l.length - n) false).toArray) h1 h2 h3
    ⟨by simp; omega, fun i hi => rep_left hi, fun t ht hm => rep_right ht (by omega)⟩
    (fun a w hk => wpAny_of_seq (l.drop n) n _ a w (fun j => by simp) h4 (hK a w hk))
    n (List.replicate n false ++ List.replicate (l.length - n) true).toArray (Array.replicate l.toArray.size false) a w.drew
    ⟨by simp; omega, by simp, fun i hi => by rw [rep_left hi, rep_all (by omega)], fun t ht hm => ⟨rep_right ht (by omega), rep_all hm⟩⟩
    (by simp [List.count_append, List.count_replicate]) h
  rw [hs]
  rw [hs] at key
  have e : (l.drop n).length = l.length - n := by simp
  rw [e] at key
  exact key

end Go.Proofs.YtajelgjbgehahaaGreat

namespace Go.Proofs.YtajelgjbgehahaaGreat
open Go.RowKit

/-- the stack behind some steps -/
def evalL (R : RefD → Int) : List PushD → List Int → List Int
  | [], st => st
  | p :: es, st => evalL R es (st.take (st.length - takesN p.op) ++ [madeN R p (st.drop (st.length - takesN p.op))])

/-- each step finds what it takes, and something is left -/
def okL : List PushD → Nat → Prop
  | [], n => 1 ≤ n
  | p :: es, n => 1 ≤ p.op ∧ p.op ≤ 13 ∧ takesN p.op ≤ n ∧ okL es (n - takesN p.op + 1)

theorem takes_is {op : Int} (h1 : 1 ≤ op) (h2 : op ≤ 13) : takesC op = (takesN op : Int) := by
  unfold takesC takesN
  by_cases e : op = 1 ∨ op = 2
  · rw [if_pos e, if_pos e]; rfl
  · rw [if_neg e, if_neg e]
    by_cases e2 : op = 13
    · rw [if_pos e2, if_pos e2]; rfl
    · rw [if_neg e2, if_neg e2, if_pos (by omega)]; rfl

theorem takesN_le (op : Int) : takesN op ≤ 2 := by
  unfold takesN
  split
  · omega
  · split <;> omega

/-- the beginning of an owned row is one -/
theorem own_take {w : World} {base g n cap m : Nat} {T : TypeId} {xs : List Value} (h : w.ownsRow base T 1 (.slice (some ⟨g, 0, none⟩) n cap) n xs) (hm : m ≤ n) : w.ownsRow base T 1 (.slice (some ⟨g, 0, none⟩) m cap) m (xs.take m) := by
  obtain ⟨h1, h2⟩ := h
  refine ⟨by rw [List.length_take, h1]; omega, .inr ?_⟩
  rcases h2 with ⟨e, _⟩ | ⟨g', cap', cur, e, hb, hg, hn, hc, hs, ht⟩
  · cases e
  · simp only [Value.slice.injEq, Option.some.injEq, Addr.mk.injEq, and_true, true_and] at e
    obtain ⟨rfl, rfl⟩ := e
    refine ⟨g, cap, cur, rfl, hb, hg, by omega, hc, hs, ?_⟩
    rw [← ht, List.take_take, Nat.mul_one, Nat.mul_one, Nat.min_eq_left hm]

/-- the end of an owned row of numbers, as it lies -/
theorem own_drop {w : World} {base g n cap m : Nat} {zs : List Int} (h : w.ownsRow base 22 1 (.slice (some ⟨g, 0, none⟩) n cap) n (UU zs)) (hz : ∀ z ∈ zs, 0 ≤ z ∧ z < 18446744073709551616) (hm : m ≤ n) (o : Nat) (ho : m < n → o = m) : Has .u64 w (some ⟨g, o, none⟩) (n - m) (zs.drop m) := by
  have hl : zs.length = n := by have := h.1; simp [UU] at this; exact this
  refine ⟨by rw [List.length_drop, hl], fun z hz' => wf_u64 _ (hz z (List.mem_of_mem_drop hz')), ?_⟩
  by_cases e : m = n
  · exact .inl (by rw [e, ← hl]; exact List.drop_length)
  · have hlt := (h.lt g rfl).2
    have := ho (by omega)
    subst this
    refine .inr ⟨g, o, rfl, hlt, fun i hi => ?_⟩
    have := own_at64 h (o + i) (by omega)
    rw [this, List.getD_eq_getElem?_getD, List.getD_eq_getElem?_getD, List.getElem?_drop]

theorem xsrc_one {w : World} {v : Value} {T : TypeId} {b : Nat} (hb : b = w.heap.size) : ∀ j u, [v][j]? = some u → (w.alloc (.cells #[v] T)).cell? ((⟨b, 0, none⟩ : Addr).add j) = some u := by
  intro j u hj
  obtain rfl : j = 0 := by
    have := (List.getElem?_eq_some_iff.1 hj).1
    simpa using this
  simp only [List.getElem?_cons_zero, Option.some.injEq] at hj
  subst hj
  subst hb
  exact (World.cell?_alloc_at _ _ _ _ rfl).trans rfl

/-- a stack, as it lies -/
structure StAt (w0 : World) (la : Option Addr) (cap : Nat) (st : List Int) (w : World) : Prop where
  own : w.ownsRow w0.heap.size 22 1 (.slice la st.length cap) st.length (UU st)
  num : ∀ z ∈ st, 0 ≤ z ∧ z < 18446744073709551616
  bel : Below w0.heap.size w0 w

theorem evalL_snoc (R : RefD → Int) (p : PushD) : ∀ (l : List PushD) (st : List Int), evalL R (l ++ [p]) st = (evalL R l st).take ((evalL R l st).length - takesN p.op) ++ [madeN R p ((evalL R l st).drop ((evalL R l st).length - takesN p.op))]
  | [], _ => rfl
  | q :: l, st => by
    show evalL R (l ++ [p]) _ = _
    rw [evalL_snoc R p l]
    rfl

theorem okL_at (R : RefD → Int) : ∀ {es : List PushD} {n : Nat} {st : List Int}, okL es n → st.length = n → ∀ {k : Nat} {p : PushD}, es[k]? = some p → 1 ≤ p.op ∧ p.op ≤ 13 ∧ takesN p.op ≤ (evalL R (es.take k) st).length
  | [], _, _, _, _, k, p, hp => by simp at hp
  | q :: es, n, st, ho, hl, 0, p, hp => by
    simp only [List.getElem?_cons_zero, Option.some.injEq] at hp
    subst hp
    exact ⟨ho.1, ho.2.1, by show takesN q.op ≤ st.length; rw [hl]; exact ho.2.2.1⟩
  | q :: es, n, st, ho, hl, k + 1, p, hp => by
    rw [List.getElem?_cons_succ] at hp
    rw [List.take_succ_cons]
    exact okL_at R (es := es) ho.2.2.2 (by rw [List.length_append, List.length_take]; simp; have := ho.2.2.1; omega) hp

theorem okL_end (R : RefD → Int) : ∀ {es : List PushD} {n : Nat} {st : List Int}, okL es n → st.length = n → 1 ≤ (evalL R es st).length
  | [], n, st, ho, hl => by show 1 ≤ st.length; rw [hl]; exact ho
  | q :: es, n, st, ho, hl => okL_end R (es := es) ho.2.2.2 (by rw [List.length_append, List.length_take]; simp; have := ho.2.2.1; omega)

theorem evalL_len (R : RefD → Int) : ∀ (es : List PushD) (st : List Int), (evalL R es st).length ≤ st.length + es.length
  | [], st => Nat.le_refl _
  | q :: es, st => by
    show (evalL R es _).length ≤ _
    refine Nat.le_trans (evalL_len R es _) ?_
    rw [List.length_append, List.length_take, List.length_cons]
    simp
    omega

theorem op2N_lt (op : Int) (a b : Nat) (ha : a < 18446744073709551616) (hb : b < 18446744073709551616) : op2N op a b < 18446744073709551616 := by
  unfold op2N
  split; · exact Nat.mod_lt _ (by decide)
  split; · exact Nat.mod_lt _ (by decide)
  split; · exact Nat.mod_lt _ (by decide)
  split; · exact Nat.lt_of_le_of_lt Nat.and_le_left ha
  split; · exact Nat.or_lt_two_pow (n := 64) ha hb
  split; · exact Nat.xor_lt_two_pow (n := 64) ha hb
  split
  · split
    · decide
    · exact Nat.mod_lt _ (by decide)
  split
  · split
    · decide
    · exact Nat.lt_of_le_of_lt (Nat.div_le_self _ _) ha
  split
  · split <;> decide
  split
  · split <;> decide
  · decide

theorem madeN_lt (R : RefD → Int) (p : PushD) (tk : List Int) (hp : 0 ≤ p.n ∧ p.n < 18446744073709551616) (hR : p.op = 2 → 0 ≤ R p.r ∧ R p.r < 18446744073709551616) (ht : ∀ z ∈ tk, 0 ≤ z ∧ z < 18446744073709551616) : 0 ≤ madeN R p tk ∧ madeN R p tk < 18446744073709551616 := by
  have hg : ∀ i, 0 ≤ tk.getD i 0 ∧ tk.getD i 0 < 18446744073709551616 := fun i => by
    rw [List.getD_eq_getElem?_getD]
    cases h : tk[i]? with
    | none => exact ⟨by decide, by decide⟩
    | some z => exact ht z (List.mem_of_getElem? h)
  unfold madeN
  split
  · exact hp
  split
  · rename_i e; exact hR e
  split
  · have := hg 0; omega
  · have h0 := hg 0
    have h1 := hg 1
    have := op2N_lt p.op (tk.getD 0 0).toNat (tk.getD 1 0).toNat (by omega) (by omega)
    omega

set_option linter.unusedSimpArgs false in
set_option maxHeartbeats 8000000 in
set_option maxRecDepth 20000 in
theorem value_any (E : QSl) (es : List PushD) (sb tb : Nat) (R : RefD → Int) (w : World) (hE : QRow 4 PushD.lie w E es) (hn : E.n ≤ 100) (hok : okL es 0) (hR : ∀ p ∈ es, p.op = 2 → Reads sb tb R p.r w) (hRn : ∀ p ∈ es, p.op = 2 → 0 ≤ R p.r ∧ R p.r < 18446744073709551616) :
    Calls Tryz.prog 69 #[.slice E.a E.n E.c, readV sb tb] w fun e w' => e = .returned (.int .u64 ((evalL R es []).getD 0 0)) ∧ Below w.heap.size w w' := by
  have HE := hid hE
  have HOK := hid hok
  have HR := hid hR
  have HRN := hid hRn
  have HL : Hid (es.length = E.n) := hE.1
  have HN := hid hn
  have H0 : Hid (StAt w none 0 (evalL R (es.take 0) []) w) := ⟨World.ownsRow_nil _ _ _ _, fun z hz => (by simp [evalL] at hz), Below.refl _ _⟩
  clear hE hok hR hRn hn
  go_enter Tryz.func69, Tryz.ntmps69
  go_wp2
  go_loopw [11, 5, 7, 8] (fun i sv _ _ wr => ∃ (k : Nat) (la : Option Addr) (cap : Nat), k ≤ E.n ∧ i = .int .i64 k ∧ sv = .slice la (evalL R (es.take k) []).length cap ∧ Hid (StAt w la cap (evalL R (es.take k) []) wr)) (fun i _ _ _ _ => E.n - (intOf i).toNat)
  case atStart => exact ⟨0, none, 0, Nat.zero_le _, rfl, rfl, H0⟩
  case round =>
    obtain ⟨k, la, cap, hk, rfl, rfl, HS⟩ := hrel
    clear H0
    obtain ⟨ea0, hea⟩ : ∃ a, E.a = a := ⟨_, rfl⟩
    have HEA := hid hea
    rw [hea]
    clear hea
    by_cases hlt : k < E.n
    · have hki : (k : Int) < (E.n : Int) := by omega
      obtain ⟨g, off, p, ea, hp, hpl⟩ := row_at (HE.out.step PushD.keeps HS.out.bel) hlt
      obtain rfl : ea0 = some ⟨g, off, none⟩ := by rw [← HEA.out]; exact ea
      have c0 : wr.cell? ⟨g, off + k * 4, none⟩ = some (.int .i64 p.op) := hpl.1.1
      have c1 : wr.cell? ⟨g, off + k * 4 + 1, none⟩ = some (.int .i64 p.r.h) := hpl.2.1.1
      have c2 : wr.cell? ⟨g, off + k * 4 + 2, none⟩ = some (.int .i64 p.r.f) := hpl.2.2.1.1
      have c3 : wr.cell? ⟨g, off + k * 4 + 3, none⟩ = some (.int .u64 p.n) := hpl.2.2.2.1
      have HPN : Hid (0 ≤ p.n ∧ p.n < 18446744073709551616) := by
        have := hpl.2.2.2.2
        simp [Lit.wf, IntKind.min, IntKind.max, IntKind.bits, IntKind.signed] at this
        show 0 ≤ p.n ∧ p.n < 18446744073709551616
        omega
      have hmem : p ∈ es := List.mem_of_getElem? hp
      obtain ⟨o1, o2, o3⟩ := okL_at R (st := []) HOK.out rfl hp
      have hsnoc : evalL R (es.take (k + 1)) [] = (evalL R (es.take k) []).take ((evalL R (es.take k) []).length - takesN p.op) ++ [madeN R p ((evalL R (es.take k) []).drop ((evalL R (es.take k) []).length - takesN p.op))] := by
        rw [List.take_add_one, hp]
        exact evalL_snoc R p _ _
      have hlen : (evalL R (es.take k) []).length ≤ k := by
        have := evalL_len R (es.take k) []
        rw [List.length_take] at this
        simp at this
        omega
      have HRP : Hid (p.op = 2 → Reads sb tb R p.r wr) := fun e w' h => HR.out p hmem e w' (bl_step HS.out.bel h)
      have HRV : Hid (p.op = 2 → 0 ≤ R p.r ∧ R p.r < 18446744073709551616) := HRN.out p hmem
      have HSN := hid hsnoc
      have HTK := hid (takes_is o1 o2)
      obtain ⟨tk, htk⟩ : ∃ t, takesN p.op = t := ⟨_, rfl⟩
      have HT2 : Hid (tk ≤ 2) := by rw [← htk]; exact takesN_le _
      have HTN := hid htk
      rw [htk] at o3
      obtain ⟨st, hst⟩ : ∃ st, evalL R (es.take k) [] = st := ⟨_, rfl⟩
      rw [hst] at HS o3 hlen HSN ⊢
      clear hst hsnoc hmem hpl o1 o2 hp ea
      obtain ⟨op, r, x⟩ := p
      obtain ⟨rh, rf⟩ := r
      dsimp only at *
      obtain ⟨n, hnn⟩ : ∃ n, st.length = n := ⟨_, rfl⟩
      obtain ⟨fr, hfr⟩ : ∃ fr, n - tk = fr := ⟨_, rfl⟩
      have HNN := hid hnn
      have hown := HS.out.own
      rw [hnn] at o3 hlen hown ⊢
      obtain ⟨W5, hW5⟩ : ∃ W5, W5 = wr.alloc (.cells #[.int .i64 op, .int .i64 rh, .int .i64 rf, .int .u64 x] 68) := ⟨_, rfl⟩
      obtain ⟨bx, hbx⟩ : ∃ bx, bx = wr.heap.size := ⟨_, rfl⟩
      have HB5 : Hid (Below wr.heap.size wr W5) := by rw [hW5]; exact bl_alloc (Below.refl _ _)
      have q0 : W5.cell? ⟨bx, 0, none⟩ = some (.int .i64 op) := by rw [hW5, hbx]; exact (World.cell?_alloc_at _ _ _ _ rfl).trans rfl
      have q1 : W5.cell? ⟨bx, 1, none⟩ = some (.int .i64 rh) := by rw [hW5, hbx]; exact (World.cell?_alloc_at _ _ _ _ rfl).trans rfl
      have q2 : W5.cell? ⟨bx, 2, none⟩ = some (.int .i64 rf) := by rw [hW5, hbx]; exact (World.cell?_alloc_at _ _ _ _ rfl).trans rfl
      have q3 : W5.cell? ⟨bx, 3, none⟩ = some (.int .u64 x) := by rw [hW5, hbx]; exact (World.cell?_alloc_at _ _ _ _ rfl).trans rfl
      have EW := hid hW5
      have EB := hid hbx
      have hsub : IntKind.i64.wrap ((n : Int) - (tk : Int)) = (fr : Int) := by
        have := HN.out
        have h1 := HT2.out
        rw [wrap_small _ (by omega) (by omega)]
        omega
      have HSUB := hid hsub
      have h100 : n ≤ 100 := by have := HN.out; omega
      clear hW5 hbx hsub
      go_upto_region 5 with fail
      rw [← EW.out, ← EB.out]
      go_wp2_with (go_at_call 89; refine (takes_any op _).mono ?_; rintro e wz ⟨rfl, hwz⟩; rw [hwz, HTK.out, HTN.out]; clear hwz wz)
      have hfi : (n : Int) - (tk : Int) = (fr : Int) := by omega
      rw [hfi]
      have HFR := hid hfr
      have HO3 := hid o3
      have HLN := hid hlen
      clear EW HSUB hfi hfr o3 hlen htk hnn c0 c1 c2 c3
      have HBW : Hid (Below w.heap.size w W5) := bl_step HS.out.bel HB5.out
      have HNUM := hid HS.out.num
      have HOW := hid hown
      have hS5 : W5.drew.cell? ⟨bx, 0, none⟩ = some (.int .i64 op) ∧ W5.drew.cell? ⟨bx, 1, none⟩ = some (.int .i64 rh) ∧ W5.drew.cell? ⟨bx, 2, none⟩ = some (.int .i64 rf) ∧ W5.drew.cell? ⟨bx, 3, none⟩ = some (.int .u64 x) := ⟨q0, q1, q2, q3⟩
      rcases hown.2 with ⟨e, hn0⟩ | ⟨sg, cp, cur, e, hsg, hcur, hcp, hcm, hcs, hct⟩
      · obtain ⟨rfl, _, rfl⟩ : la = none ∧ n = 0 ∧ cap = 0 := by simpa using e
        subst hn0
        obtain rfl : fr = 0 := by have := HFR.out; omega
        obtain rfl : st = [] := List.eq_nil_of_length_eq_zero HNN.out
        have HMD := hid (xmade_any ⟨op, ⟨rh, rf⟩, x⟩ none 0 0 [] sb tb R W5.drew (has_nil _ _) (by show takesN op ≤ 0; rw [HTN.out]; exact HO3.out) (fun e w' h => HRP.out e w' (bl_step HB5.out.drew h)))
        dsimp only at HMD
        have hv := madeN_lt R ⟨op, ⟨rh, rf⟩, x⟩ [] HPN.out HRV.out (by simp)
        have HSN2 : Hid (evalL R (List.take (k + 1) es) [] = ([] : List Int) ++ [madeN R ⟨op, ⟨rh, rf⟩, x⟩ []]) := by
          have := HSN.out
          show evalL R (List.take (k + 1) es) [] = [] ++ [madeN R ⟨op, ⟨rh, rf⟩, x⟩ []]
          simpa using this
        have HTA : Hid (wr.ownsRow w.heap.size 22 1 (.slice none 0 0) 0 (UU ([] : List Int))) := World.ownsRow_nil _ _ _ _
        have hne : some bx ≠ (Value.slice none 0 0).ownBlock := by simp [Value.ownBlock]
        have hlow : ∀ r, (Value.slice none 0 0).ownBlock = some r → w.heap.size ≤ r := fun r hr => by simp [Value.ownBlock] at hr
        generalize madeN R ⟨op, ⟨rh, rf⟩, x⟩ [] = v at *
        have hst : ∀ z ∈ ([] : List Int), 0 ≤ z ∧ z < 18446744073709551616 := by simp
        clear hown e HS HSN
        refine wp_region_held_drew (S := fun w' => w'.cell? ⟨bx, 0, none⟩ = some (.int .i64 op) ∧ w'.cell? ⟨bx, 1, none⟩ = some (.int .i64 rh) ∧ w'.cell? ⟨bx, 2, none⟩ = some (.int .i64 rf) ∧ w'.cell? ⟨bx, 3, none⟩ = some (.int .u64 x)) (by kernel_rfl) hS5 (fun hHeld => ?_)
        refine wpAnyH_take (i := 0) (v := ?_) (drop_at rfl) (by kernel_rfl) (by kernel_rfl) (by kernel_rfl) (fun _ _ _ h => h) (Or.inl ⟨by rfl, ?_⟩) hHeld ?_
        rotate_left
        · intro w0 hSw
          try dsimp only at hSw
          go_simp
          try with_reducible rfl
        try simp only [Act.put, List.setIfInBounds_toArray, List.set_cons_zero, List.set_cons_succ]
        refine wpAnyH_take (i := 1) (v := ?_) (drop_at rfl) (by kernel_rfl) (by kernel_rfl) (by kernel_rfl) (fun _ _ _ h => h) (Or.inl ⟨by rfl, ?_⟩) hHeld ?_
        rotate_left
        · intro w0 hSw
          try dsimp only at hSw
          go_simp
          try with_reducible rfl
        try simp only [Act.put, List.setIfInBounds_toArray, List.set_cons_zero, List.set_cons_succ]
        refine wpAnyH_take (i := 2) (v := ?_) (drop_at rfl) (by kernel_rfl) (by kernel_rfl) (by kernel_rfl) (fun _ _ _ h => h) (Or.inl ⟨by rfl, ?_⟩) hHeld ?_
        rotate_left
        · intro w0 hSw
          try dsimp only at hSw
          go_simp
          try with_reducible rfl
        try simp only [Act.put, List.setIfInBounds_toArray, List.set_cons_zero, List.set_cons_succ]
        refine wpAnyH_take (i := 3) (v := ?_) (drop_at rfl) (by kernel_rfl) (by kernel_rfl) (by kernel_rfl) (fun _ _ _ h => h) (Or.inl ⟨by rfl, ?_⟩) hHeld ?_
        rotate_left
        · intro w0 hSw
          try dsimp only at hSw
          go_simp
          try with_reducible rfl
        try simp only [Act.put, List.setIfInBounds_toArray, List.set_cons_zero, List.set_cons_succ]
        refine wpAnyH_take (i := 4) (v := ?_) (drop_at rfl) (by kernel_rfl) (by kernel_rfl) (by kernel_rfl) (fun _ _ _ h => h) (Or.inl ⟨by rfl, ?_⟩) hHeld ?_
        rotate_left
        · intro w0 hSw
          try dsimp only at hSw
          go_simp
          try with_reducible rfl
        try simp only [Act.put, List.setIfInBounds_toArray, List.set_cons_zero, List.set_cons_succ]
        refine wpAnyH_take (i := 5) (v := ?_) (drop_at rfl) (by kernel_rfl) (by kernel_rfl) (by kernel_rfl) (fun _ _ _ h => h) (Or.inl ⟨by rfl, ?_⟩) hHeld ?_
        rotate_left
        · intro w0 hSw
          try dsimp only at hSw
          go_simp
          try with_reducible rfl
        try simp only [Act.put, List.setIfInBounds_toArray, List.set_cons_zero, List.set_cons_succ]
        refine wpAnyH_take (i := 6) (v := ?_) (drop_at rfl) (by kernel_rfl) (by kernel_rfl) (by kernel_rfl) (fun _ _ _ h => h) (Or.inl ⟨by rfl, ?_⟩) hHeld ?_
        rotate_left
        · intro w0 hSw
          try dsimp only at hSw
          go_simp
          try with_reducible rfl
        try simp only [Act.put, List.setIfInBounds_toArray, List.set_cons_zero, List.set_cons_succ]
        refine wpAnyH_take (i := 7) (v := ?_) (drop_at rfl) (by kernel_rfl) (by kernel_rfl) (by kernel_rfl) (fun _ _ _ h => h) (Or.inl ⟨by rfl, ?_⟩) hHeld ?_
        rotate_left
        · intro w0 hSw
          try dsimp only at hSw
          go_simp
          try with_reducible rfl
        try simp only [Act.put, List.setIfInBounds_toArray, List.set_cons_zero, List.set_cons_succ]
        refine wpAnyH_ready (rs := [8]) (by kernel_rfl) (by simp) ?_
        refine AllReadyH.cons (drop_at rfl) (fun K hK => ?_) AllReadyH.nil
        go_simp
        go_at_call 90
        refine HMD.out.mono ?_
        rintro e w6 ⟨rfl, hb6⟩
        have HB6 : Hid (Below W5.heap.size W5 w6) := bl_step (Below.refl W5.heap.size W5).drew hb6
        clear hb6 HMD
        refine hK.out _ _ ⟨cell_keep q0 HB6.out, cell_keep q1 HB6.out, cell_keep q2 HB6.out, cell_keep q3 HB6.out⟩ (fun hHeld => ?_)
        clear hK K
        try simp only [Act.put, List.setIfInBounds_toArray, List.set_cons_zero, List.set_cons_succ]
        refine wpAnyH_ready (rs := [9]) (by kernel_rfl) (by simp) ?_
        refine AllReadyH.cons (drop_at rfl) (fun K hK => ?_) AllReadyH.nil
        go_simp
        have HB7 : Hid (Below W5.heap.size W5 (w6.alloc (.cells #[.int .u64 v] 22))) := bl_alloc HB6.out
        refine hK.out _ _ ⟨cell_keep q0 HB7.out, cell_keep q1 HB7.out, cell_keep q2 HB7.out, cell_keep q3 HB7.out⟩ (fun hHeld => ?_)
        clear hK K
        try simp only [Act.put, List.setIfInBounds_toArray, List.set_cons_zero, List.set_cons_succ]
        refine wpAnyH_ready (rs := [10]) (by kernel_rfl) (by simp) ?_
        refine AllReadyH.cons (drop_at rfl) (fun K hK => ?_) AllReadyH.nil
        refine pushK Tryz.underlying53 Tryz.infoNum rfl (by decide) (by decide) rfl _ _ rfl w.heap.size 0 0 1 none (UU ([] : List Int)) [.int .u64 v] ⟨w6.heap.size, 0, none⟩ (by simp [Act.eval]) (by simp [Act.eval]) ((owns_belowK (owns_belowK HTA.out HB5.out) HB6.out).alloc _) rfl (xsrc_one rfl) (by intro u hu; simp only [List.mem_cons, List.not_mem_nil, or_false] at hu; subst hu; rfl) (by omega) (by have := HB6.out.size; have := HBW.out.size; simp; omega) ?_
        intro g8 cap8 w8 ho8 hg8 hn8
        obtain ⟨s0, s1, s2, s3⟩ := hHeld
        have hb8 : Below w.heap.size w w8 := (bl_step HBW.out HB7.out).grown hg8 (Nat.le_trans HBW.out.size HB7.out.size) (fun r hr => hlow r hr)
        refine hK.out _ _ ⟨hg8.cell s0 hne, hg8.cell s1 hne, hg8.cell s2 hne, hg8.cell s3 hne⟩ (fun hHeld => ?_)
        clear hK K s0 s1 s2 s3 hn8 hg8
        try simp only [Act.put, List.setIfInBounds_toArray, List.set_cons_zero, List.set_cons_succ]
        refine wpAnyH_take (i := 11) (v := ?_) (drop_at rfl) (by kernel_rfl) (by kernel_rfl) (by kernel_rfl) (fun _ _ _ h => h) (Or.inl ⟨by rfl, ?_⟩) hHeld ?_
        rotate_left
        · intro w0 hSw
          try dsimp only at hSw
          go_simp
          try with_reducible rfl
        try simp only [Act.put, List.setIfInBounds_toArray, List.set_cons_zero, List.set_cons_succ]
        refine wpAnyH_done (by kernel_rfl) ?_ _
        have HNX : Hid (StAt w (some ⟨g8, 0, none⟩) cap8 (evalL R (List.take (k + 1) es) []) w8) := by
          have hl8 : (evalL R (List.take (k + 1) es) []).length = 0 + 1 := by rw [HSN2.out, List.length_append, List.length_singleton]; first | rw [hlt2] | rfl
          refine ⟨?_, ?_, hb8⟩
          · rw [hl8, HSN2.out]
            simp only [UU, List.map_append, List.map_cons, List.map_nil] at ho8 ⊢
            exact ho8
          · rw [HSN2.out]
            intro z hz
            rcases List.mem_append.1 hz with h1 | h1
            · exact hst z h1
            · simp only [List.mem_cons, List.not_mem_nil, or_false] at h1
              rw [h1]; exact hv
        have HL8 : Hid ((evalL R (List.take (k + 1) es) []).length = 0 + 1) := by show List.length _ = _; rw [HSN2.out, List.length_append, List.length_singleton]; first | rw [hlt2] | rfl
        have hE100 : E.n ≤ 100 := HN.out
        clear ho8 hb8 hne hlow hv hst HTA HSN2 HB6 HB7 HB5 HBW hHeld q0 q1 q2 q3 hS5 HNUM
        go_wp2
        go_roundw
        case rel => exact ⟨k + 1, some ⟨g8, 0, none⟩, cap8, by omega, by go_num, by rw [HL8.out], HNX⟩
        case measure => simp [intOf]; omega
      · obtain ⟨rfl, rfl⟩ : la = some ⟨sg, 0, none⟩ ∧ cap = cp := by simpa using e
        have hf0 : (fr : Int) ≤ (n : Int) := by have := HFR.out; omega
        have hf1 : (n : Int) ≤ (cap : Int) := by omega
        have hf2 : (fr : Int) ≤ (cap : Int) := by omega
        clear e hcur hcm hcs hct
        obtain ⟨ad, had⟩ : ∃ ad, (if cap = fr then some (⟨sg, 0, none⟩ : Addr) else some ⟨sg, fr, none⟩) = ad := ⟨_, rfl⟩
        have hhas : Has .u64 W5.drew ad (n - fr) (st.drop fr) := by
          have ho5 : W5.drew.ownsRow w.heap.size 22 1 (.slice (some ⟨sg, 0, none⟩) n cap) n (UU st) := owns_belowK hown HB5.out.drew
          rw [← had]
          by_cases e : cap = fr
          · rw [if_pos e]
            exact own_drop ho5 HNUM.out (by have := HFR.out; omega) 0 (by omega)
          · rw [if_neg e]
            exact own_drop ho5 HNUM.out (by have := HFR.out; omega) fr (fun _ => rfl)
        have HMD := hid (xmade_any ⟨op, ⟨rh, rf⟩, x⟩ ad (n - fr) (cap - fr) (st.drop fr) sb tb R W5.drew hhas (by show takesN op ≤ n - fr; rw [HTN.out]; have := HFR.out; have := HO3.out; omega) (fun e w' h => HRP.out e w' (bl_step HB5.out.drew h)))
        dsimp only at HMD
        have hv := madeN_lt R ⟨op, ⟨rh, rf⟩, x⟩ (st.drop fr) HPN.out HRV.out (fun z hz => HNUM.out z (List.mem_of_mem_drop hz))
        have hfl : fr ≤ st.length := by rw [HNN.out]; omega
        have HSN2 : Hid (evalL R (List.take (k + 1) es) [] = st.take fr ++ [madeN R ⟨op, ⟨rh, rf⟩, x⟩ (st.drop fr)]) := by
          have := HSN.out
          rw [HNN.out, HTN.out, HFR.out] at this
          exact this
        have HTA : Hid (wr.ownsRow w.heap.size 22 1 (.slice (some ⟨sg, 0, none⟩) fr cap) fr (UU (st.take fr))) := by
          have := own_take hown (m := fr) (by omega)
          simp only [UU, ← List.map_take] at this ⊢
          exact this
        have hsl := (hown.lt sg rfl)
        have hne : some bx ≠ (Value.slice (some ⟨sg, 0, none⟩) fr cap).ownBlock := by
          simp only [Value.ownBlock, ne_eq, Option.some.injEq]
          have := EB.out
          omega
        have hlow : ∀ r, (Value.slice (some ⟨sg, 0, none⟩) fr cap).ownBlock = some r → w.heap.size ≤ r := fun r hr => by
          simp only [Value.ownBlock, Option.some.injEq] at hr
          omega
        generalize madeN R ⟨op, ⟨rh, rf⟩, x⟩ (st.drop fr) = v at *
        have hst : ∀ z ∈ st.take fr, 0 ≤ z ∧ z < 18446744073709551616 := fun z hz => HNUM.out z (List.mem_of_mem_take hz)
        have hlt2 : (st.take fr).length = fr := by rw [List.length_take]; omega
        clear hown HS HSN hhas
        refine wp_region_held_drew (S := fun w' => w'.cell? ⟨bx, 0, none⟩ = some (.int .i64 op) ∧ w'.cell? ⟨bx, 1, none⟩ = some (.int .i64 rh) ∧ w'.cell? ⟨bx, 2, none⟩ = some (.int .i64 rf) ∧ w'.cell? ⟨bx, 3, none⟩ = some (.int .u64 x)) (by kernel_rfl) hS5 (fun hHeld => ?_)
        refine wpAnyH_take (i := 0) (v := ?_) (drop_at rfl) (by kernel_rfl) (by kernel_rfl) (by kernel_rfl) (fun _ _ _ h => h) (Or.inl ⟨by rfl, ?_⟩) hHeld ?_
        rotate_left
        · intro w0 hSw
          try dsimp only at hSw
          go_simp
          try with_reducible rfl
        try simp only [Act.put, List.setIfInBounds_toArray, List.set_cons_zero, List.set_cons_succ]
        refine wpAnyH_take (i := 1) (v := ?_) (drop_at rfl) (by kernel_rfl) (by kernel_rfl) (by kernel_rfl) (fun _ _ _ h => h) (Or.inl ⟨by rfl, ?_⟩) hHeld ?_
        rotate_left
        · intro w0 hSw
          try dsimp only at hSw
          go_simp
          try with_reducible rfl
        try simp only [Act.put, List.setIfInBounds_toArray, List.set_cons_zero, List.set_cons_succ]
        refine wpAnyH_take (i := 2) (v := ?_) (drop_at rfl) (by kernel_rfl) (by kernel_rfl) (by kernel_rfl) (fun _ _ _ h => h) (Or.inl ⟨by rfl, ?_⟩) hHeld ?_
        rotate_left
        · intro w0 hSw
          try dsimp only at hSw
          go_simp
          try with_reducible rfl
        try simp only [Act.put, List.setIfInBounds_toArray, List.set_cons_zero, List.set_cons_succ]
        refine wpAnyH_take (i := 3) (v := ?_) (drop_at rfl) (by kernel_rfl) (by kernel_rfl) (by kernel_rfl) (fun _ _ _ h => h) (Or.inl ⟨by rfl, ?_⟩) hHeld ?_
        rotate_left
        · intro w0 hSw
          try dsimp only at hSw
          go_simp
          try with_reducible rfl
        try simp only [Act.put, List.setIfInBounds_toArray, List.set_cons_zero, List.set_cons_succ]
        refine wpAnyH_take (i := 4) (v := ?_) (drop_at rfl) (by kernel_rfl) (by kernel_rfl) (by kernel_rfl) (fun _ _ _ h => h) (Or.inl ⟨by rfl, ?_⟩) hHeld ?_
        rotate_left
        · intro w0 hSw
          try dsimp only at hSw
          go_simp
          try with_reducible rfl
        try simp only [Act.put, List.setIfInBounds_toArray, List.set_cons_zero, List.set_cons_succ]
        refine wpAnyH_take (i := 5) (v := ?_) (drop_at rfl) (by kernel_rfl) (by kernel_rfl) (by kernel_rfl) (fun _ _ _ h => h) (Or.inl ⟨by rfl, ?_⟩) hHeld ?_
        rotate_left
        · intro w0 hSw
          try dsimp only at hSw
          go_simp
          try with_reducible rfl
        try simp only [Act.put, List.setIfInBounds_toArray, List.set_cons_zero, List.set_cons_succ]
        refine wpAnyH_take (i := 6) (v := ?_) (drop_at rfl) (by kernel_rfl) (by kernel_rfl) (by kernel_rfl) (fun _ _ _ h => h) (Or.inl ⟨by rfl, ?_⟩) hHeld ?_
        rotate_left
        · intro w0 hSw
          try dsimp only at hSw
          go_simp
          try with_reducible rfl
        try simp only [Act.put, List.setIfInBounds_toArray, List.set_cons_zero, List.set_cons_succ]
        refine wpAnyH_take (i := 7) (v := ?_) (drop_at rfl) (by kernel_rfl) (by kernel_rfl) (by kernel_rfl) (fun _ _ _ h => h) (Or.inl ⟨by rfl, ?_⟩) hHeld ?_
        rotate_left
        · intro w0 hSw
          try dsimp only at hSw
          go_simp
          try with_reducible rfl
        try simp only [Act.put, List.setIfInBounds_toArray, List.set_cons_zero, List.set_cons_succ]
        refine wpAnyH_ready (rs := [8]) (by kernel_rfl) (by simp) ?_
        refine AllReadyH.cons (drop_at rfl) (fun K hK => ?_) AllReadyH.nil
        go_simp
        go_at_call 90
        refine HMD.out.mono ?_
        rintro e w6 ⟨rfl, hb6⟩
        have HB6 : Hid (Below W5.heap.size W5 w6) := bl_step (Below.refl W5.heap.size W5).drew hb6
        clear hb6 HMD
        refine hK.out _ _ ⟨cell_keep q0 HB6.out, cell_keep q1 HB6.out, cell_keep q2 HB6.out, cell_keep q3 HB6.out⟩ (fun hHeld => ?_)
        clear hK K
        try simp only [Act.put, List.setIfInBounds_toArray, List.set_cons_zero, List.set_cons_succ]
        refine wpAnyH_ready (rs := [9]) (by kernel_rfl) (by simp) ?_
        refine AllReadyH.cons (drop_at rfl) (fun K hK => ?_) AllReadyH.nil
        go_simp
        have HB7 : Hid (Below W5.heap.size W5 (w6.alloc (.cells #[.int .u64 v] 22))) := bl_alloc HB6.out
        refine hK.out _ _ ⟨cell_keep q0 HB7.out, cell_keep q1 HB7.out, cell_keep q2 HB7.out, cell_keep q3 HB7.out⟩ (fun hHeld => ?_)
        clear hK K
        try simp only [Act.put, List.setIfInBounds_toArray, List.set_cons_zero, List.set_cons_succ]
        refine wpAnyH_ready (rs := [10]) (by kernel_rfl) (by simp) ?_
        refine AllReadyH.cons (drop_at rfl) (fun K hK => ?_) AllReadyH.nil
        refine pushK Tryz.underlying53 Tryz.infoNum rfl (by decide) (by decide) rfl _ _ rfl w.heap.size fr cap 1 (some ⟨sg, 0, none⟩) (UU (st.take fr)) [.int .u64 v] ⟨w6.heap.size, 0, none⟩ (by simp [Act.eval]) (by simp [Act.eval]) ((owns_belowK (owns_belowK HTA.out HB5.out) HB6.out).alloc _) rfl (xsrc_one rfl) (by intro u hu; simp only [List.mem_cons, List.not_mem_nil, or_false] at hu; subst hu; rfl) (by omega) (by have := HB6.out.size; have := HBW.out.size; simp; omega) ?_
        intro g8 cap8 w8 ho8 hg8 hn8
        obtain ⟨s0, s1, s2, s3⟩ := hHeld
        have hb8 : Below w.heap.size w w8 := (bl_step HBW.out HB7.out).grown hg8 (Nat.le_trans HBW.out.size HB7.out.size) (fun r hr => hlow r hr)
        refine hK.out _ _ ⟨hg8.cell s0 hne, hg8.cell s1 hne, hg8.cell s2 hne, hg8.cell s3 hne⟩ (fun hHeld => ?_)
        clear hK K s0 s1 s2 s3 hn8 hg8
        try simp only [Act.put, List.setIfInBounds_toArray, List.set_cons_zero, List.set_cons_succ]
        refine wpAnyH_take (i := 11) (v := ?_) (drop_at rfl) (by kernel_rfl) (by kernel_rfl) (by kernel_rfl) (fun _ _ _ h => h) (Or.inl ⟨by rfl, ?_⟩) hHeld ?_
        rotate_left
        · intro w0 hSw
          try dsimp only at hSw
          go_simp
          try with_reducible rfl
        try simp only [Act.put, List.setIfInBounds_toArray, List.set_cons_zero, List.set_cons_succ]
        refine wpAnyH_done (by kernel_rfl) ?_ _
        have HNX : Hid (StAt w (some ⟨g8, 0, none⟩) cap8 (evalL R (List.take (k + 1) es) []) w8) := by
          have hl8 : (evalL R (List.take (k + 1) es) []).length = fr + 1 := by rw [HSN2.out, List.length_append, List.length_singleton]; first | rw [hlt2] | rfl
          refine ⟨?_, ?_, hb8⟩
          · rw [hl8, HSN2.out]
            simp only [UU, List.map_append, List.map_cons, List.map_nil] at ho8 ⊢
            exact ho8
          · rw [HSN2.out]
            intro z hz
            rcases List.mem_append.1 hz with h1 | h1
            · exact hst z h1
            · simp only [List.mem_cons, List.not_mem_nil, or_false] at h1
              rw [h1]; exact hv
        have HL8 : Hid ((evalL R (List.take (k + 1) es) []).length = fr + 1) := by show List.length _ = _; rw [HSN2.out, List.length_append, List.length_singleton]; first | rw [hlt2] | rfl
        have hE100 : E.n ≤ 100 := HN.out
        clear ho8 hb8 hne hlow hv hst HTA HSN2 HB6 HB7 HB5 HBW hHeld q0 q1 q2 q3 hS5 HNUM
        go_wp2
        go_roundw
        case rel => exact ⟨k + 1, some ⟨g8, 0, none⟩, cap8, by omega, by go_num, by rw [HL8.out], HNX⟩
        case measure => simp [intOf]; omega
    · have hki : ¬ (k : Int) < (E.n : Int) := by omega
      obtain rfl : k = E.n := by omega
      have hfull : es.take E.n = es := by rw [← HL.out]; exact List.take_length
      rw [hfull] at HS ⊢
      have h1 := okL_end R (st := []) HOK.out rfl
      obtain ⟨sg, cp, e1, _⟩ : ∃ sg cp, Value.slice la (evalL R es []).length cap = .slice (some ⟨sg, 0, none⟩) (evalL R es []).length cp ∧ True := by
        rcases HS.out.own.2 with ⟨_, e2⟩ | ⟨sg, cp, cur, e2, _⟩
        · omega
        · exact ⟨sg, cp, e2, trivial⟩
      simp only [Value.slice.injEq, true_and] at e1
      obtain ⟨rfl, rfl⟩ := e1
      have hc := own_at64 HS.out.own 0 (by omega)
      have hm : (0 : Int) < ((evalL R es []).length : Int) := by omega
      have HB := hid HS.out.bel
      obtain ⟨v, hv⟩ : ∃ v, (evalL R es []).getD 0 0 = v := ⟨_, rfl⟩
      rw [hv] at hc
      have HV := hid hv
      clear hv
      generalize (evalL R es []).length = m at *
      clear HS
      go_wp2
      go_ret
      exact ⟨ret_int (by rw [← List.getD_eq_getElem?_getD]; exact HV.out.symm), HB.out⟩
end Go.Proofs.YtajelgjbgehahaaGreat
