/- Texts of one chain, joined: QLay, QQuiet. -/
import Derived.Test.YtffbnggdckjogaaGreatG0
import Derived.Shelf.SlSortCmp.QuietGrown
namespace Go.Proofs.YtffbnggdckjogaaGreat
open Go.RowKit
structure QSl where
  a : Option Addr
  n : Nat
  c : Nat
def QSl.nil0 (s : QSl) : Prop := s.a = none → s.n = 0 ∧ s.c = 0
def CI (w : World) (g o : Nat) (n : Int) : Prop := w.cell? ⟨g, o, none⟩ = some (.int .i64 n) ∧ (Lit.int .i64 n).wf = true
def CU (w : World) (g o : Nat) (n : Int) : Prop := w.cell? ⟨g, o, none⟩ = some (.int .u64 n) ∧ (Lit.int .u64 n).wf = true
def CS (w : World) (g o : Nat) (s : QSl) : Prop := w.cell? ⟨g, o, none⟩ = some (.slice s.a s.n s.c) ∧ s.nil0
theorem cell_keep {w w' : World} {g o : Nat} {v : Value} (h : w.cell? ⟨g, o, none⟩ = some v) (b : Below w.heap.size w w') : w'.cell? ⟨g, o, none⟩ = some v :=
  (b.cell (p := ⟨g, o, none⟩) (World.block_lt_of_cell? w _ h)).trans h
theorem CI.step {w w' : World} {g o : Nat} {n : Int} (h : CI w g o n) (b : Below w.heap.size w w') : CI w' g o n := ⟨cell_keep h.1 b, h.2⟩
theorem CU.step {w w' : World} {g o : Nat} {n : Int} (h : CU w g o n) (b : Below w.heap.size w w') : CU w' g o n := ⟨cell_keep h.1 b, h.2⟩
theorem CS.step {w w' : World} {g o : Nat} {s : QSl} (h : CS w g o s) (b : Below w.heap.size w w') : CS w' g o s := ⟨cell_keep h.1 b, h.2⟩
def QRow {α : Type} (k : Nat) (P : α → World → Nat → Nat → Prop) (w : World) (s : QSl) (S : List α) : Prop :=
  S.length = s.n ∧ ∀ (i : Nat) (d : α), S[i]? = some d → ∃ g off, s.a = some ⟨g, off, none⟩ ∧ P d w g (off + i * k)
def Keeps {α : Type} (P : α → World → Nat → Nat → Prop) : Prop := ∀ {d : α} {w w' : World} {g o : Nat}, P d w g o → Below w.heap.size w w' → P d w' g o
theorem QRow.step {α : Type} {k : Nat} {P : α → World → Nat → Nat → Prop} {w w' : World} {s : QSl} {S : List α} (h : QRow k P w s S) (hP : Keeps P) (b : Below w.heap.size w w') : QRow k P w' s S :=
  ⟨h.1, fun i d hd => by obtain ⟨g, off, e, hp⟩ := h.2 i d hd; exact ⟨g, off, e, hP hp b⟩⟩
structure RefD where
  h : Int
  f : Int
def RefD.lie (d : RefD) (w : World) (g o : Nat) : Prop := CI w g o d.h ∧ CI w g (o + 1) d.f
theorem RefD.keeps : Keeps RefD.lie := fun h b => ⟨h.1.step b, h.2.step b⟩
structure PushD where
  op : Int
  r : RefD
  n : Int
def PushD.lie (d : PushD) (w : World) (g o : Nat) : Prop := CI w g o d.op ∧ CI w g (o + 1) d.r.h ∧ CI w g (o + 2) d.r.f ∧ CU w g (o + 3) d.n
theorem PushD.keeps : Keeps PushD.lie := fun h b => ⟨h.1.step b, h.2.1.step b, h.2.2.1.step b, h.2.2.2.step b⟩
structure CaseD where
  value : Int
  mask : Int
  to : Int
def CaseD.lie (d : CaseD) (w : World) (g o : Nat) : Prop := CU w g o d.value ∧ CU w g (o + 1) d.mask ∧ CI w g (o + 2) d.to
theorem CaseD.keeps : Keeps CaseD.lie := fun h b => ⟨h.1.step b, h.2.1.step b, h.2.2.step b⟩
structure HeadD where
  w : QSl
  ws : List Int
def HeadD.lie (d : HeadD) (w : World) (g o : Nat) : Prop := CS w g o d.w ∧ Has .i64 w d.w.a d.w.n d.ws
@[reducible] def HeadD.z : HeadD := ⟨⟨none, 0, 0⟩, []⟩
theorem HeadD.keeps : Keeps HeadD.lie := fun h b => ⟨h.1.step b, h.2.step b⟩
structure StateD where
  head : Int
  r : RefD
  cases : QSl
  cs : List CaseD
  els : Int
def StateD.lie (d : StateD) (w : World) (g o : Nat) : Prop := CI w g o d.head ∧ CI w g (o + 1) d.r.h ∧ CI w g (o + 2) d.r.f ∧ CS w g (o + 3) d.cases ∧ CI w g (o + 4) d.els ∧ QRow 3 CaseD.lie w d.cases d.cs
theorem StateD.keeps : Keeps StateD.lie := fun h b => ⟨h.1.step b, h.2.1.step b, h.2.2.1.step b, h.2.2.2.1.step b, h.2.2.2.2.1.step b, h.2.2.2.2.2.step CaseD.keeps b⟩
structure OpD where
  kind : Int
  r : RefD
  head : Int
  e : QSl
  es : List PushD
def OpD.lie (d : OpD) (w : World) (g o : Nat) : Prop := CI w g o d.kind ∧ CI w g (o + 1) d.r.h ∧ CI w g (o + 2) d.r.f ∧ CI w g (o + 3) d.head ∧ CS w g (o + 4) d.e ∧ QRow 4 PushD.lie w d.e d.es
theorem OpD.keeps : Keeps OpD.lie := fun h b => ⟨h.1.step b, h.2.1.step b, h.2.2.1.step b, h.2.2.2.1.step b, h.2.2.2.2.1.step b, h.2.2.2.2.2.step PushD.keeps b⟩
structure ActD where
  w : QSl
  ws : List Int
  ops : QSl
  os : List OpD
def ActD.lie (d : ActD) (w : World) (g o : Nat) : Prop := CS w g o d.w ∧ CS w g (o + 1) d.ops ∧ Has .i64 w d.w.a d.w.n d.ws ∧ QRow 5 OpD.lie w d.ops d.os
@[reducible] def ActD.z : ActD := ⟨⟨none, 0, 0⟩, [], ⟨none, 0, 0⟩, []⟩
theorem ActD.keeps : Keeps ActD.lie := fun h b => ⟨h.1.step b, h.2.1.step b, h.2.2.1.step b, h.2.2.2.step OpD.keeps b⟩
structure TabD where
  kind : Int
  keys : QSl
  ks : List RefD
  acts : QSl
  al : List Int
  cap : Int
  dflt : Int
  args : QSl
  zs : List Int
def TabD.lie (d : TabD) (w : World) (g o : Nat) : Prop := CI w g o d.kind ∧ CS w g (o + 1) d.keys ∧ CS w g (o + 2) d.acts ∧ CI w g (o + 3) d.cap ∧ CI w g (o + 4) d.dflt ∧ CS w g (o + 5) d.args ∧
  QRow 2 RefD.lie w d.keys d.ks ∧ Has .i64 w d.acts.a d.acts.n d.al ∧ Has .u64 w d.args.a d.args.n d.zs
theorem TabD.keeps : Keeps TabD.lie := fun h b => ⟨h.1.step b, h.2.1.step b, h.2.2.1.step b, h.2.2.2.1.step b, h.2.2.2.2.1.step b, h.2.2.2.2.2.1.step b, h.2.2.2.2.2.2.1.step RefD.keeps b, h.2.2.2.2.2.2.2.1.step b, h.2.2.2.2.2.2.2.2.step b⟩
structure NodeD where
  kind : Int
  n : Int
  e : QSl
  es : List PushD
  yes : Int
  no : Int
def NodeD.lie (d : NodeD) (w : World) (g o : Nat) : Prop := CI w g o d.kind ∧ CI w g (o + 1) d.n ∧ CS w g (o + 2) d.e ∧ CI w g (o + 3) d.yes ∧ CI w g (o + 4) d.no ∧ QRow 4 PushD.lie w d.e d.es
theorem NodeD.keeps : Keeps NodeD.lie := fun h b => ⟨h.1.step b, h.2.1.step b, h.2.2.1.step b, h.2.2.2.1.step b, h.2.2.2.2.1.step b, h.2.2.2.2.2.step PushD.keeps b⟩
structure PlanD where
  heads : QSl
  hs : List HeadD
  mta : QSl
  ms : List Int
  states : QSl
  ss : List StateD
  acts : QSl
  al : List ActD
  tabs : QSl
  ts : List TabD
  nodes : QSl
  ns : List NodeD
  out : QSl
  os : List Int
structure PlanD.lie (d : PlanD) (w : World) : Prop where
  hs : QRow 1 HeadD.lie w d.heads d.hs
  ms : Has .i64 w d.mta.a d.mta.n d.ms
  ss : QRow 5 StateD.lie w d.states d.ss
  al : QRow 2 ActD.lie w d.acts d.al
  ts : QRow 6 TabD.lie w d.tabs d.ts
  ns : QRow 5 NodeD.lie w d.nodes d.ns
  os : Has .i64 w d.out.a d.out.n d.os
  oc : d.out.n ≤ d.out.c
structure PlanD.nil0 (d : PlanD) : Prop where
  hs : d.heads.nil0
  ms : d.mta.nil0
  ss : d.states.nil0
  al : d.acts.nil0
  ts : d.tabs.nil0
  ns : d.nodes.nil0
  os : d.out.nil0
theorem PlanD.lie.step {d : PlanD} {w w' : World} (h : d.lie w) (b : Below w.heap.size w w') : d.lie w' :=
  ⟨h.hs.step HeadD.keeps b, h.ms.step b, h.ss.step StateD.keeps b, h.al.step ActD.keeps b, h.ts.step TabD.keeps b, h.ns.step NodeD.keeps b, h.os.step b, h.oc⟩
@[reducible] def PlanD.v (d : PlanD) : Value := .agg #[.slice d.heads.a d.heads.n d.heads.c, .slice d.mta.a d.mta.n d.mta.c, .slice d.states.a d.states.n d.states.c, .slice d.acts.a d.acts.n d.acts.c, .slice d.tabs.a d.tabs.n d.tabs.c, .slice d.nodes.a d.nodes.n d.nodes.c, .slice d.out.a d.out.n d.out.c]
end Go.Proofs.YtffbnggdckjogaaGreat

namespace Go.Proofs.YtffbnggdckjogaaGreat
open Go.RowKit
structure BelowBy (w : World) where
  to : World
  h : Below w.heap.size w to
theorem wp_region_quiet_below {P : Program} {id : Nat} {Q : Exit → Act → World → Prop} {a : Act} {w : World} {l : List Oper} (hm : P.follows .mixedOrders = true) (hB : Region.lexB .any l.toArray = true)
    (h : wpQuiet P l.toArray (fun w' => ∃ p : BelowBy w, w' = p.to) (fun a' => ∀ w', (∃ p : BelowBy w, w' = p.to) → Q .normal a' w') l a) : (Code.region id l.toArray true).wp P Q a w :=
  wp_region_quiet (C := fun w' => ∃ p : BelowBy w, w' = p.to) hm hB ⟨⟨w.drew, (Below.refl _ _).drew⟩, rfl⟩ (by simpa using h)
theorem calls_below {P : Program} {f : FuncId} {args : Array Value} {w : World} {v : Value} (p : BelowBy w) (h : Calls P f args p.to fun e w' => e = .returned v ∧ Below p.to.heap.size p.to w') : Calls P f args p.to fun e w'' => e = .returned v ∧ ∃ p : BelowBy w, w'' = p.to :=
  h.mono fun _ w'' ⟨he, hb⟩ => ⟨he, ⟨w'', bl_step p.h hb⟩, rfl⟩
theorem calls_same {P : Program} {f : FuncId} {args : Array Value} {w : World} {v : Value} (p : BelowBy w) (h : Calls P f args p.to fun e w' => e = .returned v ∧ w' = p.to) : Calls P f args p.to fun e w'' => e = .returned v ∧ ∃ p : BelowBy w, w'' = p.to :=
  h.mono fun _ _ ⟨he, hb⟩ => ⟨he, p, hb⟩
theorem cell_by {w : World} {g o : Nat} {v : Value} (h : w.cell? ⟨g, o, none⟩ = some v) (p : BelowBy w) : p.to.cell? ⟨g, o, none⟩ = some v := cell_keep h p.h
end Go.Proofs.YtffbnggdckjogaaGreat
