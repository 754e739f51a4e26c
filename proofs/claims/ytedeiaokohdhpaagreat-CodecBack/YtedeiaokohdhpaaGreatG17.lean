/- Texts of one chain, joined: QPure, QMask, QElem, QApp. -/
import Derived.Test.YtedeiaokohdhpaaGreatG15
import Derived.Test.YtedeiaokohdhpaaGreatG16
import Derived.Test.YtedeiaokohdhpaaGreatG0
import Derived.Deep.RegionLaw
namespace Go.Proofs.YtedeiaokohdhpaaGreat
open Go.RowKit
structure PState where
  head : Int
  r : RefD
  cs : List CaseD
  els : Int
structure POp where
  kind : Int
  r : RefD
  head : Int
  es : List PushD
structure PAct where
  ws : List Int
  os : List POp
structure PTab where
  kind : Int
  ks : List RefD
  al : List Int
  cap : Int
  dflt : Int
  zs : List Int
structure PNode where
  kind : Int
  n : Int
  es : List PushD
  yes : Int
  no : Int
structure PPlan where
  hs : List (List Int)
  ms : List Int
  ss : List PState
  al : List PAct
  ts : List PTab
  ns : List PNode
  os : List Int
@[reducible] def PState.z : PState := ⟨0, ⟨0, 0⟩, [], 0⟩
@[reducible] def PAct.z : PAct := ⟨[], []⟩
@[reducible] def PTab.z : PTab := ⟨0, [], [], 0, 0, []⟩
@[reducible] def PNode.z : PNode := ⟨0, 0, [], 0, 0⟩
def StateD.p (x : StateD) : PState := ⟨x.head, x.r, x.cs, x.els⟩
def OpD.p (x : OpD) : POp := ⟨x.kind, x.r, x.head, x.es⟩
def ActD.p (x : ActD) : PAct := ⟨x.ws, x.os.map OpD.p⟩
def TabD.p (x : TabD) : PTab := ⟨x.kind, x.ks, x.al, x.cap, x.dflt, x.zs⟩
def NodeD.p (x : NodeD) : PNode := ⟨x.kind, x.n, x.es, x.yes, x.no⟩
def PlanD.p (d : PlanD) : PPlan := ⟨d.hs.map HeadD.ws, d.ms, d.ss.map StateD.p, d.al.map ActD.p, d.ts.map TabD.p, d.ns.map NodeD.p, d.os⟩
def PPlan.fields (p : PPlan) (h : Int) (zs : List Int) : List Int :=
  if h = -1 then p.ms else if h = -2 then zs else if h = -3 then [16] else if h < 0 ∨ (p.hs.length : Int) ≤ h then [] else p.hs.getD h.toNat []
def PPlan.width (p : PPlan) (r : RefD) (zs : List Int) : Int :=
  if r.f < 0 ∨ ((p.fields r.h zs).length : Int) ≤ r.f then 0 else (p.fields r.h zs).getD r.f.toNat 0
theorem fields_p {d : PlanD} {w : World} (hl : d.lie w) (h : Int) (zs : List Int) : fieldsL d h zs = d.p.fields h zs := by
  unfold fieldsL PPlan.fields PlanD.p
  simp only [List.length_map, hl.hs.1, List.getD_eq_getElem?_getD, List.getElem?_map]
  split
  · rfl
  split
  · rfl
  split
  · rfl
  split
  · rfl
  · rename_i h4
    have : h.toNat < d.hs.length := by rw [hl.hs.1]; omega
    rw [List.getElem?_eq_getElem this]
    rfl
theorem width_p {d : PlanD} {w : World} (hl : d.lie w) (r : RefD) (zs : List Int) : widthC d r.h r.f zs = d.p.width r zs := by
  unfold widthC PPlan.width
  rw [fields_p hl]
def firstC : List Int → Int
  | [] => 0
  | x :: l => if x ≠ 0 then x else firstC l
def or2 (x y : Int) : Int := if x ≠ 0 then x else y
def numC (many : Nat) (k : Int) : Int := if 0 ≤ k ∧ k < (many : Int) then 0 else 1
def widC (x : Int) : Int := if x < 1 ∨ 48 < x then 6 else 0
def treeGo (p : PPlan) (zs : List Int) : List PushD → Int → Int
  | [], left => if left ≠ 1 then 13 else 0
  | x :: l, left => if takesC x.op < 0 ∨ left < takesC x.op then 13 else if x.op = 2 ∧ p.width x.r zs = 0 then 1 else treeGo p zs l (left + (1 - takesC x.op))
def treeC (p : PPlan) (es : List PushD) (zs : List Int) : Int := if 8 < es.length then 2 else treeGo p zs es 0
def targetC (p : PPlan) (r : RefD) : Int := if r.h = -3 ∨ p.width r [] = 0 then 1 else 0
def deedC (p : PPlan) (ws : List Int) (o : POp) : Int :=
  if o.kind = 1 then or2 (targetC p o.r) (treeC p o.es ws) else if o.kind = 2 ∨ o.kind = 3 then numC p.hs.length o.head else if o.kind = 4 then 0 else if o.kind = 5 then treeC p o.es ws else if o.kind = 6 then or2 (targetC p o.r) (numC p.hs.length o.head) else 5
def actC (p : PPlan) (a : PAct) : Int := if 3 < a.ws.length ∨ 5 < a.os.length then 2 else or2 (firstC (a.ws.map widC)) (firstC (a.os.map (deedC p a.ws)))
def stepC (many : Nat) (n : Nat) (to : Int) : Int := if to < 0 ∨ (many : Int) < to then 1 else if to ≤ (n : Int) then 11 else 0
def doC (p : PPlan) (n : Int) : Int := if 0 ≤ n ∧ n < (p.al.length : Int) then (if 0 < (p.al.getD n.toNat ⟨[], []⟩).ws.length then 2 else 0) else 1
def useC (p : PPlan) (x : PNode) : Int :=
  if x.kind = 1 then numC p.ts.length x.n else if x.kind = 2 then doC p x.n else if x.kind = 3 then treeC p x.es [] else if x.kind = 4 then numC p.hs.length x.n else 5
def nodeC (p : PPlan) (n : Nat) (x : PNode) : Int := or2 (useC p x) (firstC ((if x.kind = 3 ∨ x.kind = 4 then [x.yes, x.no] else [x.yes]).map (stepC p.ns.length n)))
def outC (p : PPlan) (n : Nat) : Int := if 0 ≤ p.os.getD n 0 ∧ p.os.getD n 0 < (p.hs.length : Int) then (if p.os.getD n 0 ∈ p.os.take n then 7 else 0) else 1
end Go.Proofs.YtedeiaokohdhpaaGreat

namespace Go.Proofs.YtedeiaokohdhpaaGreat
open Go.RowKit
def mask (F : Nat → Prop) (D : ∀ i, Decidable (F i)) (w : World) : World := { w with heap := w.heap.mapIdx fun i o => @ite _ (F i) (D i) (Obj.cells #[] 0) o }
theorem mask_size (F : Nat → Prop) (w : World) : (mask F (fun _ => Classical.propDecidable _) w).heap.size = w.heap.size := by simp [mask]
open Classical in
theorem mask_at (F : Nat → Prop) (w : World) (k : Nat) : (mask F (fun _ => Classical.propDecidable _) w).heap[k]? = w.heap[k]?.map fun o => if F k then Obj.cells #[] 0 else o := by
  simp [mask, Array.getElem?_mapIdx]
theorem mask_off {F : Nat → Prop} {w : World} {k : Nat} (h : ¬ F k) : (mask F (fun _ => Classical.propDecidable _) w).heap[k]? = w.heap[k]? := by
  rw [mask_at]
  simp [h]
theorem mask_on {F : Nat → Prop} {w : World} {k : Nat} (h : F k) (hk : k < w.heap.size) : (mask F (fun _ => Classical.propDecidable _) w).heap[k]? = some (Obj.cells #[] 0) := by
  rw [mask_at, Array.getElem?_eq_getElem hk]
  simp [h]
def Cov (w w' : World) : Prop := w.heap.size ≤ w'.heap.size ∧ ∀ g o v, w.cell? ⟨g, o, none⟩ = some v → w'.cell? ⟨g, o, none⟩ = some v
theorem cov_mask (F : Nat → Prop) (w : World) : Cov (mask F (fun _ => Classical.propDecidable _) w) w := by
  refine ⟨Nat.le_of_eq (mask_size F w), fun g o v h => ?_⟩
  by_cases hF : F g
  · have hg : g < w.heap.size := by have := World.block_lt_of_cell? _ _ h; rwa [mask_size] at this
    simp only [World.cell?, mask_on hF hg] at h
    simp at h
  · simp only [World.cell?, mask_off hF] at h
    exact h
theorem mask_cell {F : Nat → Prop} {w : World} {g o : Nat} {v : Value} (h : w.cell? ⟨g, o, none⟩ = some v) (hF : ¬ F g) : (mask F (fun _ => Classical.propDecidable _) w).cell? ⟨g, o, none⟩ = some v := by
  simp only [World.cell?, mask_off hF]
  exact h
theorem mask_below {F F' : Nat → Prop} {w w' : World} (h1 : w'.os = w.os) (h2 : w'.tape = w.tape) (h3 : w'.output = w.output) (hs : w.heap.size ≤ w'.heap.size) (hF : ∀ k, F k → F' k) (hk : ∀ k, k < w.heap.size → ¬ F k → ¬ F' k ∧ w'.heap[k]? = w.heap[k]?) : Below (mask F (fun _ => Classical.propDecidable _) w).heap.size (mask F (fun _ => Classical.propDecidable _) w) (mask F' (fun _ => Classical.propDecidable _) w') := by
  refine ⟨h1, h2, h3, by rw [mask_size, mask_size]; exact hs, fun k hk' => ?_⟩
  rw [mask_size] at hk'
  by_cases h : F k
  · rw [mask_on h hk', mask_on (hF k h) (Nat.lt_of_lt_of_le hk' hs)]
  · obtain ⟨h', e⟩ := hk k hk' h
    rw [mask_off h, mask_off h', e]
theorem CI.cov {w w' : World} {g o : Nat} {n : Int} (h : CI w g o n) (c : Cov w w') : CI w' g o n := ⟨c.2 _ _ _ h.1, h.2⟩
theorem CU.cov {w w' : World} {g o : Nat} {n : Int} (h : CU w g o n) (c : Cov w w') : CU w' g o n := ⟨c.2 _ _ _ h.1, h.2⟩
theorem CS.cov {w w' : World} {g o : Nat} {s : QSl} (h : CS w g o s) (c : Cov w w') : CS w' g o s := ⟨c.2 _ _ _ h.1, h.2⟩
theorem Has.cov {k : IntKind} {w w' : World} {a : Option Addr} {len : Nat} {zs : List Int} (h : Has k w a len zs) (c : Cov w w') : Has k w' a len zs := by
  refine ⟨h.1, h.2.1, ?_⟩
  rcases h.2.2 with h | ⟨b, off, rfl, hlt, hc⟩
  · exact .inl h
  · exact .inr ⟨b, off, rfl, Nat.lt_of_lt_of_le hlt c.1, fun i hi => c.2 _ _ _ (hc i hi)⟩
def Covs {α : Type} (P : α → World → Nat → Nat → Prop) : Prop := ∀ {d : α} {w w' : World} {g o : Nat}, P d w g o → Cov w w' → P d w' g o
theorem QRow.cov {α : Type} {k : Nat} {P : α → World → Nat → Nat → Prop} {w w' : World} {s : QSl} {S : List α} (h : QRow k P w s S) (hP : Covs P) (c : Cov w w') : QRow k P w' s S :=
  ⟨h.1, fun i d hd => by obtain ⟨g, off, e, hp⟩ := h.2 i d hd; exact ⟨g, off, e, hP hp c⟩⟩
theorem RefD.covs : Covs RefD.lie := fun h c => ⟨h.1.cov c, h.2.cov c⟩
theorem PushD.covs : Covs PushD.lie := fun h c => ⟨h.1.cov c, h.2.1.cov c, h.2.2.1.cov c, h.2.2.2.cov c⟩
theorem CaseD.covs : Covs CaseD.lie := fun h c => ⟨h.1.cov c, h.2.1.cov c, h.2.2.cov c⟩
theorem OpD.covs : Covs OpD.lie := fun h c => ⟨h.1.cov c, h.2.1.cov c, h.2.2.1.cov c, h.2.2.2.1.cov c, h.2.2.2.2.1.cov c, h.2.2.2.2.2.cov PushD.covs c⟩
end Go.Proofs.YtedeiaokohdhpaaGreat

namespace Go.Proofs.YtedeiaokohdhpaaGreat
open Go.RowKit
structure Kd (α : Type) where
  k : Nat
  cells : α → List Value
  lie : α → World → Nat → Nat → Prop
  inn : α → World → Prop
  pos : 0 < k
  len : ∀ x, (cells x).length = k
  lay : ∀ {x : α} {w : World} {g o : Nat}, (∀ j u, (cells x)[j]? = some u → w.cell? ⟨g, o + j, none⟩ = some u) → inn x w → lie x w g o
  cell : ∀ {x : α} {w : World} {g o : Nat}, lie x w g o → ∀ j u, (cells x)[j]? = some u → w.cell? ⟨g, o + j, none⟩ = some u
  out : ∀ {x : α} {w : World} {g o : Nat}, lie x w g o → inn x w
  cov : ∀ {x : α} {w w' : World}, inn x w → Cov w w' → inn x w'
  step : ∀ {x : α} {w w' : World}, inn x w → Below w.heap.size w w' → inn x w'
  one : ∀ x, ∀ u ∈ cells x, u.oneCell' = true
namespace Kd
variable {α : Type} (K : Kd α)
theorem flat_len (S : List α) : (S.flatMap K.cells).length = S.length * K.k := by
  induction S with
  | nil => simp
  | cons s S ih => rw [List.flatMap_cons, List.length_append, ih, K.len, List.length_cons, Nat.add_mul, Nat.one_mul, Nat.add_comm]
theorem flat_at {S : List α} {i r : Nat} {s : α} {u : Value} (h : S[i]? = some s) (hu : (K.cells s)[r]? = some u) : (S.flatMap K.cells)[i * K.k + r]? = some u := by
  have hr : r < K.k := by have := (List.getElem?_eq_some_iff.1 hu).1; rwa [K.len] at this
  induction S generalizing i with
  | nil => simp at h
  | cons x S ih =>
    cases i with
    | zero =>
      simp only [List.getElem?_cons_zero, Option.some.injEq] at h
      subst h
      rw [List.flatMap_cons, Nat.zero_mul, Nat.zero_add, List.getElem?_append_left (by rw [K.len]; exact hr), hu]
    | succ i =>
      simp only [List.getElem?_cons_succ] at h
      rw [List.flatMap_cons, List.getElem?_append_right (by rw [K.len, Nat.add_mul]; omega), K.len, show (i + 1) * K.k + r - K.k = i * K.k + r by rw [Nat.add_mul]; omega]
      exact ih h
theorem flat_of {S : List α} {j : Nat} {u : Value} (h : (S.flatMap K.cells)[j]? = some u) : ∃ i r s, S[i]? = some s ∧ (K.cells s)[r]? = some u ∧ j = i * K.k + r := by
  induction S generalizing j with
  | nil => simp at h
  | cons x S ih =>
    rw [List.flatMap_cons] at h
    by_cases hj : j < K.k
    · rw [List.getElem?_append_left (by rw [K.len]; exact hj)] at h
      exact ⟨0, j, x, rfl, h, by omega⟩
    · rw [List.getElem?_append_right (by rw [K.len]; omega), K.len] at h
      obtain ⟨i, r, s, h1, h2, h3⟩ := ih h
      exact ⟨i + 1, r, s, h1, h2, by rw [Nat.add_mul]; omega⟩
theorem row {w : World} {base n c : Nat} {T : TypeId} {a : Option Addr} {S : List α} (h : w.ownsRow base T K.k (.slice a n c) n (S.flatMap K.cells)) (hi : ∀ s ∈ S, K.inn s w) : QRow K.k K.lie w ⟨a, n, c⟩ S := by
  have hl : S.length = n := by
    have := h.1
    rw [K.flat_len] at this
    exact Nat.eq_of_mul_eq_mul_right K.pos this
  refine ⟨hl, fun i s hs => ?_⟩
  have hin : i < n := by have := (List.getElem?_eq_some_iff.1 hs).1; omega
  rcases h.2 with ⟨_, e⟩ | ⟨g, cap, cur, e, _⟩
  · omega
  · simp only [Value.slice.injEq] at e
    obtain ⟨rfl, _, rfl⟩ := e
    refine ⟨g, 0, rfl, K.lay (fun j u hu => ?_) (hi s (List.mem_of_getElem? hs))⟩
    have hr : j < K.k := by have := (List.getElem?_eq_some_iff.1 hu).1; rwa [K.len] at this
    rw [Nat.zero_add, h.cellAt (i * K.k + j) ?_, K.flat_at hs hu]
    have : (i + 1) * K.k ≤ n * K.k := Nat.mul_le_mul_right _ (by omega)
    rw [Nat.add_mul] at this
    omega
theorem own_nil0 {w : World} {base n c e k : Nat} {a : Option Addr} {xs : List Value} (h : w.ownsRow base e k (.slice a n c) n xs) : a = none → n = 0 ∧ c = 0 := by
  intro ha
  rcases h.2 with ⟨e, _⟩ | ⟨g, cap, cur, e, _⟩
  · simp only [Value.slice.injEq] at e
    exact ⟨e.2.1, e.2.2⟩
  · simp only [Value.slice.injEq] at e
    rw [ha] at e
    cases e.1
theorem inns {w : World} {s : QSl} {S : List α} (h : QRow K.k K.lie w s S) : ∀ x ∈ S, K.inn x w := by
  intro x hx
  obtain ⟨i, hi, rfl⟩ := List.getElem_of_mem hx
  obtain ⟨g, off, _, hp⟩ := h.2 i _ (List.getElem?_eq_getElem hi)
  exact K.out hp
end Kd
@[reducible] def wfI (n : Int) : Prop := (Lit.int .i64 n).wf = true
@[reducible] def wfU (n : Int) : Prop := (Lit.int .u64 n).wf = true
def kRef : Kd RefD where
  k := 2
  cells x := [.int .i64 x.h, .int .i64 x.f]
  lie := RefD.lie
  inn x _ := wfI x.h ∧ wfI x.f
  pos := by decide
  len _ := rfl
  lay h i := ⟨⟨h 0 _ rfl, i.1⟩, ⟨h 1 _ rfl, i.2⟩⟩
  cell h j u hu := by
    match j, hu with
    | 0, hu => cases hu; exact h.1.1
    | 1, hu => cases hu; exact h.2.1
    | j + 2, hu => simp at hu
  out h := ⟨h.1.2, h.2.2⟩
  cov i _ := i
  step i _ := i
  one x u hu := by simp at hu; rcases hu with rfl | rfl <;> rfl
def kPush : Kd PushD where
  k := 4
  cells x := [.int .i64 x.op, .int .i64 x.r.h, .int .i64 x.r.f, .int .u64 x.n]
  lie := PushD.lie
  inn x _ := wfI x.op ∧ wfI x.r.h ∧ wfI x.r.f ∧ wfU x.n
  pos := by decide
  len _ := rfl
  lay h i := ⟨⟨h 0 _ rfl, i.1⟩, ⟨h 1 _ rfl, i.2.1⟩, ⟨h 2 _ rfl, i.2.2.1⟩, ⟨h 3 _ rfl, i.2.2.2⟩⟩
  cell h j u hu := by
    match j, hu with
    | 0, hu => cases hu; exact h.1.1
    | 1, hu => cases hu; exact h.2.1.1
    | 2, hu => cases hu; exact h.2.2.1.1
    | 3, hu => cases hu; exact h.2.2.2.1
    | j + 4, hu => simp at hu
  out h := ⟨h.1.2, h.2.1.2, h.2.2.1.2, h.2.2.2.2⟩
  cov i _ := i
  step i _ := i
  one x u hu := by simp at hu; rcases hu with rfl | rfl | rfl | rfl <;> rfl
def kCase : Kd CaseD where
  k := 3
  cells x := [.int .u64 x.value, .int .u64 x.mask, .int .i64 x.to]
  lie := CaseD.lie
  inn x _ := wfU x.value ∧ wfU x.mask ∧ wfI x.to
  pos := by decide
  len _ := rfl
  lay h i := ⟨⟨h 0 _ rfl, i.1⟩, ⟨h 1 _ rfl, i.2.1⟩, ⟨h 2 _ rfl, i.2.2⟩⟩
  cell h j u hu := by
    match j, hu with
    | 0, hu => cases hu; exact h.1.1
    | 1, hu => cases hu; exact h.2.1.1
    | 2, hu => cases hu; exact h.2.2.1
    | j + 3, hu => simp at hu
  out h := ⟨h.1.2, h.2.1.2, h.2.2.2⟩
  cov i _ := i
  step i _ := i
  one x u hu := by simp at hu; rcases hu with rfl | rfl | rfl <;> rfl
def kHead : Kd HeadD where
  k := 1
  cells x := [.slice x.w.a x.w.n x.w.c]
  lie := HeadD.lie
  inn x w := x.w.nil0 ∧ Has .i64 w x.w.a x.w.n x.ws
  pos := by decide
  len _ := rfl
  lay h i := ⟨⟨h 0 _ rfl, i.1⟩, i.2⟩
  cell h j u hu := by
    match j, hu with
    | 0, hu => cases hu; exact h.1.1
    | j + 1, hu => simp at hu
  out h := ⟨h.1.2, h.2⟩
  cov i c := ⟨i.1, i.2.cov c⟩
  step i b := ⟨i.1, i.2.step b⟩
  one x u hu := by simp at hu; subst hu; rfl
def kState : Kd StateD where
  k := 5
  cells x := [.int .i64 x.head, .int .i64 x.r.h, .int .i64 x.r.f, .slice x.cases.a x.cases.n x.cases.c, .int .i64 x.els]
  lie := StateD.lie
  inn x w := (wfI x.head ∧ wfI x.r.h ∧ wfI x.r.f ∧ x.cases.nil0 ∧ wfI x.els) ∧ QRow 3 CaseD.lie w x.cases x.cs
  pos := by decide
  len _ := rfl
  lay h i := ⟨⟨h 0 _ rfl, i.1.1⟩, ⟨h 1 _ rfl, i.1.2.1⟩, ⟨h 2 _ rfl, i.1.2.2.1⟩, ⟨h 3 _ rfl, i.1.2.2.2.1⟩, ⟨h 4 _ rfl, i.1.2.2.2.2⟩, i.2⟩
  cell h j u hu := by
    match j, hu with
    | 0, hu => cases hu; exact h.1.1
    | 1, hu => cases hu; exact h.2.1.1
    | 2, hu => cases hu; exact h.2.2.1.1
    | 3, hu => cases hu; exact h.2.2.2.1.1
    | 4, hu => cases hu; exact h.2.2.2.2.1.1
    | j + 5, hu => simp at hu
  out h := ⟨⟨h.1.2, h.2.1.2, h.2.2.1.2, h.2.2.2.1.2, h.2.2.2.2.1.2⟩, h.2.2.2.2.2⟩
  cov i c := ⟨i.1, i.2.cov CaseD.covs c⟩
  step i b := ⟨i.1, i.2.step CaseD.keeps b⟩
  one x u hu := by simp at hu; rcases hu with rfl | rfl | rfl | rfl | rfl <;> rfl
def kOp : Kd OpD where
  k := 5
  cells x := [.int .i64 x.kind, .int .i64 x.r.h, .int .i64 x.r.f, .int .i64 x.head, .slice x.e.a x.e.n x.e.c]
  lie := OpD.lie
  inn x w := (wfI x.kind ∧ wfI x.r.h ∧ wfI x.r.f ∧ wfI x.head ∧ x.e.nil0) ∧ QRow 4 PushD.lie w x.e x.es
  pos := by decide
  len _ := rfl
  lay h i := ⟨⟨h 0 _ rfl, i.1.1⟩, ⟨h 1 _ rfl, i.1.2.1⟩, ⟨h 2 _ rfl, i.1.2.2.1⟩, ⟨h 3 _ rfl, i.1.2.2.2.1⟩, ⟨h 4 _ rfl, i.1.2.2.2.2⟩, i.2⟩
  cell h j u hu := by
    match j, hu with
    | 0, hu => cases hu; exact h.1.1
    | 1, hu => cases hu; exact h.2.1.1
    | 2, hu => cases hu; exact h.2.2.1.1
    | 3, hu => cases hu; exact h.2.2.2.1.1
    | 4, hu => cases hu; exact h.2.2.2.2.1.1
    | j + 5, hu => simp at hu
  out h := ⟨⟨h.1.2, h.2.1.2, h.2.2.1.2, h.2.2.2.1.2, h.2.2.2.2.1.2⟩, h.2.2.2.2.2⟩
  cov i c := ⟨i.1, i.2.cov PushD.covs c⟩
  step i b := ⟨i.1, i.2.step PushD.keeps b⟩
  one x u hu := by simp at hu; rcases hu with rfl | rfl | rfl | rfl | rfl <;> rfl
def kAct : Kd ActD where
  k := 2
  cells x := [.slice x.w.a x.w.n x.w.c, .slice x.ops.a x.ops.n x.ops.c]
  lie := ActD.lie
  inn x w := (x.w.nil0 ∧ x.ops.nil0) ∧ Has .i64 w x.w.a x.w.n x.ws ∧ QRow 5 OpD.lie w x.ops x.os
  pos := by decide
  len _ := rfl
  lay h i := ⟨⟨h 0 _ rfl, i.1.1⟩, ⟨h 1 _ rfl, i.1.2⟩, i.2⟩
  cell h j u hu := by
    match j, hu with
    | 0, hu => cases hu; exact h.1.1
    | 1, hu => cases hu; exact h.2.1.1
    | j + 2, hu => simp at hu
  out h := ⟨⟨h.1.2, h.2.1.2⟩, h.2.2⟩
  cov i c := ⟨i.1, i.2.1.cov c, i.2.2.cov OpD.covs c⟩
  step i b := ⟨i.1, i.2.1.step b, i.2.2.step OpD.keeps b⟩
  one x u hu := by simp at hu; rcases hu with rfl | rfl <;> rfl
def kTab : Kd TabD where
  k := 6
  cells x := [.int .i64 x.kind, .slice x.keys.a x.keys.n x.keys.c, .slice x.acts.a x.acts.n x.acts.c, .int .i64 x.cap, .int .i64 x.dflt, .slice x.args.a x.args.n x.args.c]
  lie := TabD.lie
  inn x w := (wfI x.kind ∧ x.keys.nil0 ∧ x.acts.nil0 ∧ wfI x.cap ∧ wfI x.dflt ∧ x.args.nil0) ∧ QRow 2 RefD.lie w x.keys x.ks ∧ Has .i64 w x.acts.a x.acts.n x.al ∧ Has .u64 w x.args.a x.args.n x.zs
  pos := by decide
  len _ := rfl
  lay h i := ⟨⟨h 0 _ rfl, i.1.1⟩, ⟨h 1 _ rfl, i.1.2.1⟩, ⟨h 2 _ rfl, i.1.2.2.1⟩, ⟨h 3 _ rfl, i.1.2.2.2.1⟩, ⟨h 4 _ rfl, i.1.2.2.2.2.1⟩, ⟨h 5 _ rfl, i.1.2.2.2.2.2⟩, i.2⟩
  cell h j u hu := by
    match j, hu with
    | 0, hu => cases hu; exact h.1.1
    | 1, hu => cases hu; exact h.2.1.1
    | 2, hu => cases hu; exact h.2.2.1.1
    | 3, hu => cases hu; exact h.2.2.2.1.1
    | 4, hu => cases hu; exact h.2.2.2.2.1.1
    | 5, hu => cases hu; exact h.2.2.2.2.2.1.1
    | j + 6, hu => simp at hu
  out h := ⟨⟨h.1.2, h.2.1.2, h.2.2.1.2, h.2.2.2.1.2, h.2.2.2.2.1.2, h.2.2.2.2.2.1.2⟩, h.2.2.2.2.2.2⟩
  cov i c := ⟨i.1, i.2.1.cov RefD.covs c, i.2.2.1.cov c, i.2.2.2.cov c⟩
  step i b := ⟨i.1, i.2.1.step RefD.keeps b, i.2.2.1.step b, i.2.2.2.step b⟩
  one x u hu := by simp at hu; rcases hu with rfl | rfl | rfl | rfl | rfl | rfl <;> rfl
def kNode : Kd NodeD where
  k := 5
  cells x := [.int .i64 x.kind, .int .i64 x.n, .slice x.e.a x.e.n x.e.c, .int .i64 x.yes, .int .i64 x.no]
  lie := NodeD.lie
  inn x w := (wfI x.kind ∧ wfI x.n ∧ x.e.nil0 ∧ wfI x.yes ∧ wfI x.no) ∧ QRow 4 PushD.lie w x.e x.es
  pos := by decide
  len _ := rfl
  lay h i := ⟨⟨h 0 _ rfl, i.1.1⟩, ⟨h 1 _ rfl, i.1.2.1⟩, ⟨h 2 _ rfl, i.1.2.2.1⟩, ⟨h 3 _ rfl, i.1.2.2.2.1⟩, ⟨h 4 _ rfl, i.1.2.2.2.2⟩, i.2⟩
  cell h j u hu := by
    match j, hu with
    | 0, hu => cases hu; exact h.1.1
    | 1, hu => cases hu; exact h.2.1.1
    | 2, hu => cases hu; exact h.2.2.1.1
    | 3, hu => cases hu; exact h.2.2.2.1.1
    | 4, hu => cases hu; exact h.2.2.2.2.1.1
    | j + 5, hu => simp at hu
  out h := ⟨⟨h.1.2, h.2.1.2, h.2.2.1.2, h.2.2.2.1.2, h.2.2.2.2.1.2⟩, h.2.2.2.2.2⟩
  cov i c := ⟨i.1, i.2.cov PushD.covs c⟩
  step i b := ⟨i.1, i.2.step PushD.keeps b⟩
  one x u hu := by simp at hu; rcases hu with rfl | rfl | rfl | rfl | rfl <;> rfl
theorem cov_less {F F' : Nat → Prop} (w : World) (h : ∀ b, F' b → F b) : Cov (mask F (fun _ => Classical.propDecidable _) w) (mask F' (fun _ => Classical.propDecidable _) w) := by
  refine ⟨by rw [mask_size, mask_size]; exact Nat.le_refl _, fun g o v hc => ?_⟩
  by_cases hF : F g
  · have hg : g < w.heap.size := by have := World.block_lt_of_cell? _ _ hc; rwa [mask_size] at this
    simp only [World.cell?, mask_on hF hg] at hc
    simp at hc
  · exact mask_cell ((cov_mask F w).2 _ _ _ hc) (fun h' => hF (h g h'))
end Go.Proofs.YtedeiaokohdhpaaGreat

namespace Go.Proofs.YtedeiaokohdhpaaGreat
open Go.RowKit
theorem run_appK {w : World} {T TS : TypeId} {z : Value} {k bs : Nat} (ty : TypeId) (hT : Tryz.prog.underlying TS = some (.slice T)) (hinfo : (Tryz.prog.info? T).map (fun i => (i.zero, i.size, i.bytes)) = some (some z, k, bs)) (hzs : z.cells.size = k) (hk : 0 < k)
    {base n cap : Nat} {la : Option Addr} {xs news : List Value} {ad : Addr} {m c : Nat} (hown : w.ownsRow base T k (.slice la n cap) n xs) (hl : news.length = m * k) (hn : ∀ j u, news[j]? = some u → w.cell? (ad.add j) = some u) (h1 : ∀ u ∈ news, u.oneCell' = true) (hm : 0 < m)
    (hsm : n + m ≤ maxLen) (hby : (n + m) * bs ≤ 140737488355328) (hbase : base ≤ w.heap.size) :
    ∃ g cap' w', (Builtin.append_ #[TS, TS] ty #[.slice la n cap, .slice (some ad) m c]).run Tryz.prog w = .ok (.slice (some ⟨g, 0, none⟩) (n + m) cap') w' ∧ w'.ownsRow base T k (.slice (some ⟨g, 0, none⟩) (n + m) cap') (n + m) (xs ++ news) ∧ w.grownBy w' (Value.slice la n cap).ownBlock ∧ (la = some ⟨g, 0, none⟩ ∨ w.heap.size ≤ g) := by
  obtain ⟨i0, hi, hz0, hz1, hz2⟩ := info_parts hinfo
  have form : ∀ {v' : Value} {w' : World} {B : Nat} {ys : List Value}, w'.ownsRow B T k v' (n + m) ys → ∃ g c, v' = .slice (some ⟨g, 0, none⟩) (n + m) c := by
    intro v' w' B ys h
    rcases h.2 with ⟨_, e⟩ | ⟨g, c, cur, e, _⟩
    · omega
    · exact ⟨g, c, e⟩
  rcases hown.2 with ⟨e1, e2⟩ | ⟨g, cap1, cur, e, hb, hh, hc1, hc2, hc3, hc4⟩
  · simp only [Value.slice.injEq] at e1
    obtain ⟨rfl, _, rfl⟩ := e1
    subst e2
    have hx0 : xs = [] := List.eq_nil_of_length_eq_zero (by have := hown.1; omega)
    subst hx0
    obtain ⟨v', w', hrun, r1, r2, -⟩ := run_append_own (P := Tryz.prog) w w.heap.size TS ty T i0 z k bs hT hi hz0 hz1 hz2 hzs hk (.slice none 0 0) 0 [] (World.ownsRow_nil _ _ _ _) ad m c news hl hn h1 hsm hby (Nat.le_refl _)
    obtain ⟨g', c', rfl⟩ := form r1
    exact ⟨g', c', w', hrun, ⟨r1.1, by
      rcases r1.2 with h | ⟨g2, c2, cur2, hv, hb2, r⟩
      · exact .inl h
      · exact .inr ⟨g2, c2, cur2, hv, Nat.le_trans hbase hb2, r⟩⟩, r2, .inr (r1.lt g' rfl).1⟩
  · simp only [Value.slice.injEq, true_and] at e
    obtain ⟨rfl, rfl⟩ := e
    by_cases hroom : n + m ≤ cap
    · obtain ⟨w', hrun, r1, r2⟩ := run_append_fits (P := Tryz.prog) w base TS ty T i0 k hT hi hz1 g n cap xs hown ad m c news hl hn h1 hroom
      exact ⟨g, cap, w', hrun, r1, r2, .inl rfl⟩
    · obtain ⟨v', w', hrun, r1, r2, -⟩ := run_append_own (P := Tryz.prog) w base TS ty T i0 z k bs hT hi hz0 hz1 hz2 hzs hk (.slice (some ⟨g, 0, none⟩) n cap) n xs hown ad m c news hl hn h1 hsm hby hbase
      obtain ⟨g', c', rfl⟩ := form r1
      have hgrow := run_append_grow (P := Tryz.prog) w TS ty T i0 z hT hi hz0 ⟨g, 0, none⟩ n cap xs (by rw [hz1]; exact hown.1) (fun j v hj => hown.cells rfl j v hj) ad m c news (by rw [hz1]; exact hl) hn (by omega) (by unfold maxLen at hsm; omega) (by rw [hz2]; exact growslice_fits (by omega) (by omega))
      rw [hrun] at hgrow
      simp only [Result.ok.injEq, Value.slice.injEq, Option.some.injEq, Addr.mk.injEq, and_true] at hgrow
      exact ⟨g', c', w', hrun, r1, r2, .inr (Nat.le_of_eq hgrow.1.1.symm)⟩
theorem append_run {w w' : World} {ops : Array Oper} {rest : List Oper} {o : Oper} {a : Act} {Q : Exit → Act → World → Prop} {TS : TypeId} (hgd : o.guard = none) (s x : Operand)
    (ho : o.op = .call { callee := .builtin .append, args := #[s, x], argTypes := #[TS, TS] }) {vs vx v' : Value} (hs : a.eval s = vs) (hx : a.eval x = vx) (hrun : (Builtin.append_ #[TS, TS] o.type #[vs, vx]).run Tryz.prog w = .ok v' w')
    (h : wpList Tryz.prog ops Q rest (a.put o.dst v') w') : wpList Tryz.prog ops Q (o :: rest) a w :=
  wpList_plain hgd fun _ hK => by
    unfold Oper.wp execOp
    simp only [ho, resolve, invoke, builtin, Sem.run_bind, Sem.run_pure, Result.andThen_ok, List.map_toArray, List.map_cons, List.map_nil, hs, hx, hrun]
    exact hK _ _ h
theorem append_runR {w w' : World} {ops : Array Oper} {o : Oper} {a : Act} {K : Act → World → Prop} {Q : Exit → Act → World → Prop} {E : Prop} {TS : TypeId} (hgd : o.guard = none) (s x : Operand)
    (ho : o.op = .call { callee := .builtin .append, args := #[s, x], argTypes := #[TS, TS] }) {vs vx v' : Value} (hs : a.eval s = vs) (hx : a.eval x = vx) (hrun : (Builtin.append_ #[TS, TS] o.type #[vs, vx]).run Tryz.prog w = .ok v' w')
    (h : K (a.put o.dst v') w') : if Region.wanted o (yielded ops a.tmps) = true then Oper.wp Tryz.prog o a w K Q else E := by
  have hw : Region.wanted o (yielded ops a.tmps) = true := by simp [Region.wanted, hgd]
  rw [if_pos hw]
  unfold Oper.wp execOp
  simp only [ho, resolve, invoke, builtin, Sem.run_bind, Sem.run_pure, Result.andThen_ok, List.map_toArray, List.map_cons, List.map_nil, hs, hx, hrun]
  exact h
end Go.Proofs.YtedeiaokohdhpaaGreat
