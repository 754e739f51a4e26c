/- A program of the machine as it lies, and what is wrong with it, in plain numbers. -/
import Derived.Test.YtkipfppblhkodaaQLay
import Derived.Test.YtkipfppblhkodaaU64
namespace Go.Proofs.Ytkipfppblhkodaa
open Go.RowKit

@[reducible] def gwfI (n : Int) : Prop := (Lit.int .i64 n).wf = true
@[reducible] def gwfU (n : Int) : Prop := (Lit.int .u64 n).wf = true

structure ShapeD where
  keys : Int
  acts : Int
  args : Int
def ShapeD.lie (d : ShapeD) (w : World) (g o : Nat) : Prop := CI w g o d.keys ∧ CI w g (o + 1) d.acts ∧ CI w g (o + 2) d.args
theorem ShapeD.keeps : Keeps ShapeD.lie := fun h b => ⟨h.1.step b, h.2.1.step b, h.2.2.step b⟩
@[reducible] def ShapeD.v (d : ShapeD) : Value := .agg #[.int .i64 d.keys, .int .i64 d.acts, .int .i64 d.args]
def ShapeD.wf (d : ShapeD) : Prop := gwfI d.keys ∧ gwfI d.acts ∧ gwfI d.args

structure InsD where
  op : Int
  r : Int
  s : Int
  k : Int
  to : Int
  n : Int
def InsD.lie (d : InsD) (w : World) (g o : Nat) : Prop := CI w g o d.op ∧ CI w g (o + 1) d.r ∧ CI w g (o + 2) d.s ∧ CI w g (o + 3) d.k ∧ CI w g (o + 4) d.to ∧ CU w g (o + 5) d.n
theorem InsD.keeps : Keeps InsD.lie := fun h b => ⟨h.1.step b, h.2.1.step b, h.2.2.1.step b, h.2.2.2.1.step b, h.2.2.2.2.1.step b, h.2.2.2.2.2.step b⟩
@[reducible] def InsD.v (d : InsD) : Value := .agg #[.int .i64 d.op, .int .i64 d.r, .int .i64 d.s, .int .i64 d.k, .int .i64 d.to, .int .u64 d.n]
def InsD.wf (d : InsD) : Prop := gwfI d.op ∧ gwfI d.r ∧ gwfI d.s ∧ gwfI d.k ∧ gwfI d.to ∧ gwfU d.n

theorem ShapeD.lie.wf {d : ShapeD} {w : World} {g o : Nat} (h : d.lie w g o) : d.wf := ⟨h.1.2, h.2.1.2, h.2.2.2⟩
theorem InsD.lie.wf {d : InsD} {w : World} {g o : Nat} (h : d.lie w g o) : d.wf := ⟨h.1.2, h.2.1.2, h.2.2.1.2, h.2.2.2.1.2, h.2.2.2.2.1.2, h.2.2.2.2.2.2⟩

structure ProgD where
  slots : Int
  tabs : QSl
  ts : List ShapeD
  code : QSl
  cs : List InsD
structure ProgD.lie (d : ProgD) (w : World) : Prop where
  ws : gwfI d.slots
  n1 : d.tabs.nil0
  n2 : d.code.nil0
  t : QRow 3 ShapeD.lie w d.tabs d.ts
  c : QRow 6 InsD.lie w d.code d.cs
@[reducible] def ProgD.v (d : ProgD) : Value := .agg #[.int .i64 d.slots, .slice d.tabs.a d.tabs.n d.tabs.c, .slice d.code.a d.code.n d.code.c]
theorem ProgD.lie.step {d : ProgD} {w w' : World} (h : d.lie w) (b : Below w.heap.size w w') : d.lie w' := ⟨h.ws, h.n1, h.n2, h.t.step ShapeD.keeps b, h.c.step InsD.keeps b⟩
def ProgD.small (d : ProgD) : Prop := d.tabs.n ≤ 300 ∧ d.code.n ≤ 65535

theorem grow_at {α : Type} {k : Nat} {P : α → World → Nat → Nat → Prop} {w : World} {s : QSl} {S : List α} (h : QRow k P w s S) {i : Nat} (hi : i < s.n) : ∃ g off x, s.a = some ⟨g, off, none⟩ ∧ S[i]? = some x ∧ P x w g (off + i * k) := by
  have hi' : i < S.length := by rw [h.1]; exact hi
  obtain ⟨g, off, e, hp⟩ := h.2 i _ (List.getElem?_eq_getElem hi')
  exact ⟨g, off, _, e, List.getElem?_eq_getElem hi', hp⟩

/-- which fields an instruction has: R 1, S 2, K 4, To 8, N 16 -/
def fieldsN (op : Int) : Int :=
  if op = 1 ∨ op = 7 ∨ op = 8 then 17 else if op = 2 ∨ op = 5 then 3 else if op = 3 then 7 else if op = 4 ∨ op = 15 ∨ op = 16 ∨ op = 18 then 1 else if op = 6 ∨ op = 13 then 23 else if op = 9 then 25 else if op = 10 ∨ op = 11 then 11 else if op = 12 then 8 else if op = 14 then 5 else 0
def hasR (op : Int) : Bool := fieldsN op % 2 == 1
def hasS (op : Int) : Bool := fieldsN op / 2 % 2 == 1
def hasK (op : Int) : Bool := fieldsN op / 4 % 2 == 1
def hasT (op : Int) : Bool := fieldsN op / 8 % 2 == 1
def hasN (op : Int) : Bool := fieldsN op / 16 % 2 == 1
def inB (n a b : Int) : Bool := decide (a ≤ n) && decide (n ≤ b)
def bareB (x : InsD) : Bool := (hasR x.op || decide (x.r = 0)) && (hasS x.op || decide (x.s = 0)) && (hasK x.op || decide (x.k = 0)) && (hasT x.op || decide (x.to = 0)) && (hasN x.op || decide (x.n = 0))
def regsB (x : InsD) : Bool := inB x.r 0 9 && (decide (x.op = 13) || inB x.s 0 9)
def formB (x : InsD) : Bool := inB x.op 1 18 && bareB x && regsB x && decide (0 ≤ x.to)
def callB (slots : Int) (ts : List ShapeD) (x : InsD) : Bool := match ts[x.n.toNat]? with
  | none => false
  | some t => inB x.s 0 (slots - t.keys) && inB x.k 0 (slots - t.args)
def fitsB (slots : Int) (ts : List ShapeD) (x : InsD) : Bool :=
  if x.op = 3 then inB x.k 3 12 else if x.op = 6 then inB x.k 1 8 && decide (x.n ≤ 600) else if x.op = 14 then inB x.k 1 8 else if x.op = 9 then decide (x.n ≤ 600) else if x.op = 7 ∨ x.op = 8 then decide (x.n < slots) else if x.op = 13 then callB slots ts x else true
/-- what is wrong with the instruction at i, of m -/
def insN (slots : Int) (ts : List ShapeD) (m i : Int) (x : InsD) : Int := if (formB x && fitsB slots ts x) = false then 4 else if (hasT x.op && decide (m - 1 - i ≤ x.to)) = true then 17 else 0
def shapeB (t : ShapeD) : Bool := inB t.keys 1 3 && inB t.acts 1 8 && inB t.args 0 3
def shapesN : List ShapeD → Int → Int × Int
  | [], _ => (0, 0)
  | t :: r, i => if shapeB t = true then shapesN r (i + 1) else (1, -2 - i)
def sizesN (slots : Int) (ts : List ShapeD) (m : Int) : Int × Int := if inB slots 0 96 = false then (1, -1) else if (decide (5 < (ts.length : Int)) || !inB m 1 60000) = true then (2, -1) else shapesN ts 0
def inssN (slots : Int) (ts : List ShapeD) (m : Int) : List InsD → Int → Int × Int
  | [], _ => (0, 0)
  | x :: r, i => if insN slots ts m i x = 0 then inssN slots ts m r (i + 1) else (insN slots ts m i x, i)
def endsB (op : Int) : Bool := decide (op = 16) || decide (op = 17)
def chkW (slots : Int) (ts : List ShapeD) (cs : List InsD) : Int × Int :=
  if (sizesN slots ts cs.length).1 ≠ 0 then sizesN slots ts cs.length else if (inssN slots ts cs.length cs 0).1 ≠ 0 then inssN slots ts cs.length cs 0 else if endsB ((cs[cs.length - 1]?.map InsD.op).getD 0) = true then (0, 0) else (18, (cs.length : Int) - 1)

/-- it tells a truth value, and nothing old has turned -/
def TellB (b : Bool) (w : World) (e : Ending) (w' : World) : Prop := e = .returned (.bool b) ∧ Below w.heap.size w w'
end Go.Proofs.Ytkipfppblhkodaa
