/- Texts of one chain, joined: QMask, QElem, QApp, QCopy. -/
import Derived.Test.YtajelgjbgehahaaGreatVQPure
import Derived.Test.YtajelgjbgehahaaGreatJ1
import Derived.Deep.RegionLaw
namespace Go.Proofs.YtajelgjbgehahaaGreat
open Go.RowKit

/-- the world with the blocks of F emptied -/
def mask (F : Nat → Prop) (D : ∀ i, Decidable (F i)) (w : World) : World := { w with heap := w.heap.mapIdx fun i o => @ite _ (F i) (D i) (Obj.cells #[] 0) o }

theorem mask_size (F : Nat → Prop) (w : World) : (mask F (fun _ => Classical.propDecidable _) w).heap.size = w.heap.size := by simp [mask]

open Classical in
theorem mask_at (F : Nat → Prop) (w : World) (k : Nat) : (mask F (fun _ => Classical.propDecidable _) w).heap[k]? = w.heap[k]?.map fun o => if F k then Obj.cells #[] 0 else o := by
  simp [mask, Array.getElem?_mapIdx]

theorem mask_off {F : Nat → Prop} {w : World} {k : Nat} (h : ¬ F k) : (mask F (fun _ => Classical.propDecidable _) w).heap[k]? = w.heap[k]? := by
  rw [mask_at]
  simp [h]

theorem mask_on {F : Nat → Prop} {w : World} {k : Nat} (h : F k) (hk : k < w.heap.size) : (mask F (fun _ => Classical.propDecidable _) w).heap[k]? = some (Obj.cells #[] 0) := by
  rw [mask_at, Array.getElem?_eq_getElem hk]
  simp [h]

/-- all that is told of the one is told of the other -/
def Cov (w w' : World) : Prop := w.heap.size ≤ w'.heap.size ∧ ∀ g o v, w.cell? ⟨g, o, none⟩ = some v → w'.cell? ⟨g, o, none⟩ = some v

theorem cov_mask (F : Nat → Prop) (w : World) : Cov (mask F (fun _ => Classical.propDecidable _) w) w := by
  refine ⟨Nat.le_of_eq (mask_size F w), fun g o v h => ?_⟩
  by_cases hF : F g
  · have hg : g < w.heap.size := by have := World.block_lt_of_cell? _ _ h; rwa [mask_size] at this
    simp only [World.cell?, mask_on hF hg] at h
    simp at h
  · simp only [World.cell?, mask_off hF] at h
    exact h

/-- a cell outside -/
theorem mask_cell {F : Nat → Prop} {w : World} {g o : Nat} {v : Value} (h : w.cell? ⟨g, o, none⟩ = some v) (hF : ¬ F g) : (mask F (fun _ => Classical.propDecidable _) w).cell? ⟨g, o, none⟩ = some v := by
  simp only [World.cell?, mask_off hF]
  exact h

/-- what was outside and stays as it was -/
theorem mask_below {F F' : Nat → Prop} {w w' : World} (h1 : w'.os = w.os) (h2 : w'.tape = w.tape) (h3 : w'.output = w.output) (hs : w.heap.size ≤ w'.heap.size) (hF : ∀ k, F k → F' k) (hk : ∀ k, k < w.heap.size → ¬ F k → ¬ F' k ∧ w'.heap[k]? = w.heap[k]?) : Below (mask F (fun _ => Classical.propDecidable _) w).heap.size (mask F (fun _ => Classical.propDecidable _) w) (mask F' (fun _ => Classical.propDecidable _) w') := by
  refine ⟨h1, h2, h3, by rw [mask_size, mask_size]; exact hs, fun k hk' => ?_⟩
  rw [mask_size] at hk'
  by_cases h : F k
  · rw [mask_on h hk', mask_on (hF k h) (Nat.lt_of_lt_of_le hk' hs)]
  · obtain ⟨h', e⟩ := hk k hk' h
    rw [mask_off h, mask_off h', e]

theorem mask_step {F : Nat → Prop} {w w' : World} (hb : Below w.heap.size w w') : Below (mask F (fun _ => Classical.propDecidable _) w).heap.size (mask F (fun _ => Classical.propDecidable _) w) (mask F (fun _ => Classical.propDecidable _) w') :=
  mask_below hb.os hb.tape hb.output hb.size (fun _ h => h) fun k hk h => ⟨h, hb.block k hk⟩

theorem CI.cov {w w' : World} {g o : Nat} {n : Int} (h : CI w g o n) (c : Cov w w') : CI w' g o n := ⟨c.2 _ _ _ h.1, h.2⟩
theorem CU.cov {w w' : World} {g o : Nat} {n : Int} (h : CU w g o n) (c : Cov w w') : CU w' g o n := ⟨c.2 _ _ _ h.1, h.2⟩
theorem CS.cov {w w' : World} {g o : Nat} {s : QSl} (h : CS w g o s) (c : Cov w w') : CS w' g o s := ⟨c.2 _ _ _ h.1, h.2⟩

theorem Has.cov {k : IntKind} {w w' : World} {a : Option Addr} {len : Nat} {zs : List Int} (h : Has k w a len zs) (c : Cov w w') : Has k w' a len zs := by
  refine ⟨h.1, h.2.1, ?_⟩
  rcases h.2.2 with h | ⟨b, off, rfl, hlt, hc⟩
  · exact .inl h
  · exact .inr ⟨b, off, rfl, Nat.lt_of_lt_of_le hlt c.1, fun i hi => c.2 _ _ _ (hc i hi)⟩

def Covs {α : Type} (P : α → World → Nat → Nat → Prop) : Prop := ∀ {d : α} {w w' : World} {g o : Nat}, P d w g o → Cov w w' → P d w' g o

theorem QRow.cov {α : Type} {k : Nat} {P : α → World → Nat → Nat → Prop} {w w' : World} {s : QSl} {S : List α} (h : QRow k P w s S) (hP : Covs P) (c : Cov w w') : QRow k P w' s S :=
  ⟨h.1, fun i d hd => by obtain ⟨g, off, e, hp⟩ := h.2 i d hd; exact ⟨g, off, e, hP hp c⟩⟩

theorem RefD.covs : Covs RefD.lie := fun h c => ⟨h.1.cov c, h.2.cov c⟩
theorem PushD.covs : Covs PushD.lie := fun h c => ⟨h.1.cov c, h.2.1.cov c, h.2.2.1.cov c, h.2.2.2.cov c⟩
theorem CaseD.covs : Covs CaseD.lie := fun h c => ⟨h.1.cov c, h.2.1.cov c, h.2.2.cov c⟩
theorem OpD.covs : Covs OpD.lie := fun h c => ⟨h.1.cov c, h.2.1.cov c, h.2.2.1.cov c, h.2.2.2.1.cov c, h.2.2.2.2.1.cov c, h.2.2.2.2.2.cov PushD.covs c⟩
end Go.Proofs.YtajelgjbgehahaaGreat

namespace Go.Proofs.YtajelgjbgehahaaGreat
open Go.RowKit

/-- a kind of things: their cells, and what lies elsewhere -/
structure Kd (α : Type) where
  k : Nat
  cells : α → List Value
  lie : α → World → Nat → Nat → Prop
  inn : α → World → Prop
  pos : 0 < k
  len : ∀ x, (cells x).length = k
  lay : ∀ {x : α} {w : World} {g o : Nat}, (∀ j u, (cells x)[j]? = some u → w.cell? ⟨g, o + j, none⟩ = some u) → inn x w → lie x w g o
  cell : ∀ {x : α} {w : World} {g o : Nat}, lie x w g o → ∀ j u, (cells x)[j]? = some u → w.cell? ⟨g, o + j, none⟩ = some u
  out : ∀ {x : α} {w : World} {g o : Nat}, lie x w g o → inn x w
  cov : ∀ {x : α} {w w' : World}, inn x w → Cov w w' → inn x w'
  step : ∀ {x : α} {w w' : World}, inn x w → Below w.heap.size w w' → inn x w'
  one : ∀ x, ∀ u ∈ cells x, u.oneCell' = true

namespace Kd
variable {α : Type} (K : Kd α)

theorem flat_len (S : List α) : (S.flatMap K.cells).length = S.length * K.k := by
  induction S with
  | nil => simp
  | cons s S ih => rw [List.flatMap_cons, List.length_append, ih, K.len, List.length_cons, Nat.add_mul, Nat.one_mul, Nat.add_comm]

theorem flat_at {S : List α} {i r : Nat} {s : α} {u : Value} (h : S[i]? = some s) (hu : (K.cells s)[r]? = some u) : (S.flatMap K.cells)[i * K.k + r]? = some u := by
  have hr : r < K.k := by have := (List.getElem?_eq_some_iff.1 hu).1; rwa [K.len] at this
  induction S generalizing i with
  | nil => simp at h
  | cons x S ih =>
    cases i with
    | zero =>
      simp only [List.getElem?_cons_zero, Option.some.injEq] at h
      subst h
      rw [List.flatMap_cons, Nat.zero_mul, Nat.zero_add, List.getElem?_append_left (by rw [K.len]; exact hr), hu]
    | succ i =>
      simp only [List.getElem?_cons_succ] at h
      rw [List.flatMap_cons, List.getElem?_append_right (by rw [K.len, Nat.add_mul]; omega), K.len, show (i + 1) * K.k + r - K.k = i * K.k + r by rw [Nat.add_mul]; omega]
      exact ih h

theorem flat_of {S : List α} {j : Nat} {u : Value} (h : (S.flatMap K.cells)[j]? = some u) : ∃ i r s, S[i]? = some s ∧ (K.cells s)[r]? = some u ∧ j = i * K.k + r := by
  induction S generalizing j with
  | nil => simp at h
  | cons x S ih =>
    rw [List.flatMap_cons] at h
    by_cases hj : j < K.k
    · rw [List.getElem?_append_left (by rw [K.len]; exact hj)] at h
      exact ⟨0, j, x, rfl, h, by omega⟩
    · rw [List.getElem?_append_right (by rw [K.len]; omega), K.len] at h
      obtain ⟨i, r, s, h1, h2, h3⟩ := ih h
      exact ⟨i + 1, r, s, h1, h2, by rw [Nat.add_mul]; omega⟩

theorem flat_one (S : List α) : ∀ u ∈ S.flatMap K.cells, u.oneCell' = true := by
  intro u hu
  obtain ⟨s, _, hs⟩ := List.mem_flatMap.1 hu
  exact K.one s u hs

/-- what is owned lies -/
theorem row {w : World} {base n c : Nat} {T : TypeId} {a : Option Addr} {S : List α} (h : w.ownsRow base T K.k (.slice a n c) n (S.flatMap K.cells)) (hi : ∀ s ∈ S, K.inn s w) : QRow K.k K.lie w ⟨a, n, c⟩ S := by
  have hl : S.length = n := by
    have := h.1
    rw [K.flat_len] at this
    exact Nat.eq_of_mul_eq_mul_right K.pos this
  refine ⟨hl, fun i s hs => ?_⟩
  have hin : i < n := by have := (List.getElem?_eq_some_iff.1 hs).1; omega
  rcases h.2 with ⟨_, e⟩ | ⟨g, cap, cur, e, _⟩
  · omega
  · simp only [Value.slice.injEq] at e
    obtain ⟨rfl, _, rfl⟩ := e
    refine ⟨g, 0, rfl, K.lay (fun j u hu => ?_) (hi s (List.mem_of_getElem? hs))⟩
    have hr : j < K.k := by have := (List.getElem?_eq_some_iff.1 hu).1; rwa [K.len] at this
    rw [Nat.zero_add, h.cellAt (i * K.k + j) ?_, K.flat_at hs hu]
    have : (i + 1) * K.k ≤ n * K.k := Nat.mul_le_mul_right _ (by omega)
    rw [Nat.add_mul] at this
    omega

theorem own_nil0 {w : World} {base n c e k : Nat} {a : Option Addr} {xs : List Value} (h : w.ownsRow base e k (.slice a n c) n xs) : a = none → n = 0 ∧ c = 0 := by
  intro ha
  rcases h.2 with ⟨e, _⟩ | ⟨g, cap, cur, e, _⟩
  · simp only [Value.slice.injEq] at e
    exact ⟨e.2.1, e.2.2⟩
  · simp only [Value.slice.injEq] at e
    rw [ha] at e
    cases e.1

/-- where the cells of a row are -/
theorem src {w : World} {s : QSl} {S : List α} (h : QRow K.k K.lie w s S) {g off : Nat} (ea : s.a = some ⟨g, off, none⟩) : ∀ j u, (S.flatMap K.cells)[j]? = some u → w.cell? ((⟨g, off, none⟩ : Addr).add j) = some u := by
  intro j u hu
  obtain ⟨i, r, x, h1, h2, rfl⟩ := K.flat_of hu
  obtain ⟨g', off', e, hp⟩ := h.2 i x h1
  rw [ea] at e
  simp only [Option.some.injEq, Addr.mk.injEq, and_true] at e
  obtain ⟨rfl, rfl⟩ := e
  rw [Addr.add_lit, ← Nat.add_assoc]
  exact K.cell hp r u h2

theorem inns {w : World} {s : QSl} {S : List α} (h : QRow K.k K.lie w s S) : ∀ x ∈ S, K.inn x w := by
  intro x hx
  obtain ⟨i, hi, rfl⟩ := List.getElem_of_mem hx
  obtain ⟨g, off, _, hp⟩ := h.2 i _ (List.getElem?_eq_getElem hi)
  exact K.out hp
end Kd

@[reducible] def wfI (n : Int) : Prop := (Lit.int .i64 n).wf = true
@[reducible] def wfU (n : Int) : Prop := (Lit.int .u64 n).wf = true

def kRef : Kd RefD where
  k := 2
  cells x := [.int .i64 x.h, .int .i64 x.f]
  lie := RefD.lie
  inn x _ := wfI x.h ∧ wfI x.f
  pos := by decide
  len _ := rfl
  lay h i := ⟨⟨h 0 _ rfl, i.1⟩, ⟨h 1 _ rfl, i.2⟩⟩
  cell h j u hu := by
    match j, hu with
    | 0, hu => cases hu; exact h.1.1
    | 1, hu => cases hu; exact h.2.1
    | j + 2, hu => simp at hu
  out h := ⟨h.1.2, h.2.2⟩
  cov i _ := i
  step i _ := i
  one x u hu := by simp at hu; rcases hu with rfl | rfl <;> rfl

def kPush : Kd PushD where
  k := 4
  cells x := [.int .i64 x.op, .int .i64 x.r.h, .int .i64 x.r.f, .int .u64 x.n]
  lie := PushD.lie
  inn x _ := wfI x.op ∧ wfI x.r.h ∧ wfI x.r.f ∧ wfU x.n
  pos := by decide
  len _ := rfl
  lay h i := ⟨⟨h 0 _ rfl, i.1⟩, ⟨h 1 _ rfl, i.2.1⟩, ⟨h 2 _ rfl, i.2.2.1⟩, ⟨h 3 _ rfl, i.2.2.2⟩⟩
  cell h j u hu := by
    match j, hu with
    | 0, hu => cases hu; exact h.1.1
    | 1, hu => cases hu; exact h.2.1.1
    | 2, hu => cases hu; exact h.2.2.1.1
    | 3, hu => cases hu; exact h.2.2.2.1
    | j + 4, hu => simp at hu
  out h := ⟨h.1.2, h.2.1.2, h.2.2.1.2, h.2.2.2.2⟩
  cov i _ := i
  step i _ := i
  one x u hu := by simp at hu; rcases hu with rfl | rfl | rfl | rfl <;> rfl

def kCase : Kd CaseD where
  k := 3
  cells x := [.int .u64 x.value, .int .u64 x.mask, .int .i64 x.to]
  lie := CaseD.lie
  inn x _ := wfU x.value ∧ wfU x.mask ∧ wfI x.to
  pos := by decide
  len _ := rfl
  lay h i := ⟨⟨h 0 _ rfl, i.1⟩, ⟨h 1 _ rfl, i.2.1⟩, ⟨h 2 _ rfl, i.2.2⟩⟩
  cell h j u hu := by
    match j, hu with
    | 0, hu => cases hu; exact h.1.1
    | 1, hu => cases hu; exact h.2.1.1
    | 2, hu => cases hu; exact h.2.2.1
    | j + 3, hu => simp at hu
  out h := ⟨h.1.2, h.2.1.2, h.2.2.2⟩
  cov i _ := i
  step i _ := i
  one x u hu := by simp at hu; rcases hu with rfl | rfl | rfl <;> rfl

def kHead : Kd HeadD where
  k := 1
  cells x := [.slice x.w.a x.w.n x.w.c]
  lie := HeadD.lie
  inn x w := x.w.nil0 ∧ Has .i64 w x.w.a x.w.n x.ws
  pos := by decide
  len _ := rfl
  lay h i := ⟨⟨h 0 _ rfl, i.1⟩, i.2⟩
  cell h j u hu := by
    match j, hu with
    | 0, hu => cases hu; exact h.1.1
    | j + 1, hu => simp at hu
  out h := ⟨h.1.2, h.2⟩
  cov i c := ⟨i.1, i.2.cov c⟩
  step i b := ⟨i.1, i.2.step b⟩
  one x u hu := by simp at hu; subst hu; rfl

def kState : Kd StateD where
  k := 5
  cells x := [.int .i64 x.head, .int .i64 x.r.h, .int .i64 x.r.f, .slice x.cases.a x.cases.n x.cases.c, .int .i64 x.els]
  lie := StateD.lie
  inn x w := (wfI x.head ∧ wfI x.r.h ∧ wfI x.r.f ∧ x.cases.nil0 ∧ wfI x.els) ∧ QRow 3 CaseD.lie w x.cases x.cs
  pos := by decide
  len _ := rfl
  lay h i := ⟨⟨h 0 _ rfl, i.1.1⟩, ⟨h 1 _ rfl, i.1.2.1⟩, ⟨h 2 _ rfl, i.1.2.2.1⟩, ⟨h 3 _ rfl, i.1.2.2.2.1⟩, ⟨h 4 _ rfl, i.1.2.2.2.2⟩, i.2⟩
  cell h j u hu := by
    match j, hu with
    | 0, hu => cases hu; exact h.1.1
    | 1, hu => cases hu; exact h.2.1.1
    | 2, hu => cases hu; exact h.2.2.1.1
    | 3, hu => cases hu; exact h.2.2.2.1.1
    | 4, hu => cases hu; exact h.2.2.2.2.1.1
    | j + 5, hu => simp at hu
  out h := ⟨⟨h.1.2, h.2.1.2, h.2.2.1.2, h.2.2.2.1.2, h.2.2.2.2.1.2⟩, h.2.2.2.2.2⟩
  cov i c := ⟨i.1, i.2.cov CaseD.covs c⟩
  step i b := ⟨i.1, i.2.step CaseD.keeps b⟩
  one x u hu := by simp at hu; rcases hu with rfl | rfl | rfl | rfl | rfl <;> rfl

def kOp : Kd OpD where
  k := 5
  cells x := [.int .i64 x.kind, .int .i64 x.r.h, .int .i64 x.r.f, .int .i64 x.head, .slice x.e.a x.e.n x.e.c]
  lie := OpD.lie
  inn x w := (wfI x.kind ∧ wfI x.r.h ∧ wfI x.r.f ∧ wfI x.head ∧ x.e.nil0) ∧ QRow 4 PushD.lie w x.e x.es
  pos := by decide
  len _ := rfl
  lay h i := ⟨⟨h 0 _ rfl, i.1.1⟩, ⟨h 1 _ rfl, i.1.2.1⟩, ⟨h 2 _ rfl, i.1.2.2.1⟩, ⟨h 3 _ rfl, i.1.2.2.2.1⟩, ⟨h 4 _ rfl, i.1.2.2.2.2⟩, i.2⟩
  cell h j u hu := by
    match j, hu with
    | 0, hu => cases hu; exact h.1.1
    | 1, hu => cases hu; exact h.2.1.1
    | 2, hu => cases hu; exact h.2.2.1.1
    | 3, hu => cases hu; exact h.2.2.2.1.1
    | 4, hu => cases hu; exact h.2.2.2.2.1.1
    | j + 5, hu => simp at hu
  out h := ⟨⟨h.1.2, h.2.1.2, h.2.2.1.2, h.2.2.2.1.2, h.2.2.2.2.1.2⟩, h.2.2.2.2.2⟩
  cov i c := ⟨i.1, i.2.cov PushD.covs c⟩
  step i b := ⟨i.1, i.2.step PushD.keeps b⟩
  one x u hu := by simp at hu; rcases hu with rfl | rfl | rfl | rfl | rfl <;> rfl

def kAct : Kd ActD where
  k := 2
  cells x := [.slice x.w.a x.w.n x.w.c, .slice x.ops.a x.ops.n x.ops.c]
  lie := ActD.lie
  inn x w := (x.w.nil0 ∧ x.ops.nil0) ∧ Has .i64 w x.w.a x.w.n x.ws ∧ QRow 5 OpD.lie w x.ops x.os
  pos := by decide
  len _ := rfl
  lay h i := ⟨⟨h 0 _ rfl, i.1.1⟩, ⟨h 1 _ rfl, i.1.2⟩, i.2⟩
  cell h j u hu := by
    match j, hu with
    | 0, hu => cases hu; exact h.1.1
    | 1, hu => cases hu; exact h.2.1.1
    | j + 2, hu => simp at hu
  out h := ⟨⟨h.1.2, h.2.1.2⟩, h.2.2⟩
  cov i c := ⟨i.1, i.2.1.cov c, i.2.2.cov OpD.covs c⟩
  step i b := ⟨i.1, i.2.1.step b, i.2.2.step OpD.keeps b⟩
  one x u hu := by simp at hu; rcases hu with rfl | rfl <;> rfl

def kTab : Kd TabD where
  k := 6
  cells x := [.int .i64 x.kind, .slice x.keys.a x.keys.n x.keys.c, .slice x.acts.a x.acts.n x.acts.c, .int .i64 x.cap, .int .i64 x.dflt, .slice x.args.a x.args.n x.args.c]
  lie := TabD.lie
  inn x w := (wfI x.kind ∧ x.keys.nil0 ∧ x.acts.nil0 ∧ wfI x.cap ∧ wfI x.dflt ∧ x.args.nil0) ∧ QRow 2 RefD.lie w x.keys x.ks ∧ Has .i64 w x.acts.a x.acts.n x.al ∧ Has .u64 w x.args.a x.args.n x.zs
  pos := by decide
  len _ := rfl
  lay h i := ⟨⟨h 0 _ rfl, i.1.1⟩, ⟨h 1 _ rfl, i.1.2.1⟩, ⟨h 2 _ rfl, i.1.2.2.1⟩, ⟨h 3 _ rfl, i.1.2.2.2.1⟩, ⟨h 4 _ rfl, i.1.2.2.2.2.1⟩, ⟨h 5 _ rfl, i.1.2.2.2.2.2⟩, i.2⟩
  cell h j u hu := by
    match j, hu with
    | 0, hu => cases hu; exact h.1.1
    | 1, hu => cases hu; exact h.2.1.1
    | 2, hu => cases hu; exact h.2.2.1.1
    | 3, hu => cases hu; exact h.2.2.2.1.1
    | 4, hu => cases hu; exact h.2.2.2.2.1.1
    | 5, hu => cases hu; exact h.2.2.2.2.2.1.1
    | j + 6, hu => simp at hu
  out h := ⟨⟨h.1.2, h.2.1.2, h.2.2.1.2, h.2.2.2.1.2, h.2.2.2.2.1.2, h.2.2.2.2.2.1.2⟩, h.2.2.2.2.2.2⟩
  cov i c := ⟨i.1, i.2.1.cov RefD.covs c, i.2.2.1.cov c, i.2.2.2.cov c⟩
  step i b := ⟨i.1, i.2.1.step RefD.keeps b, i.2.2.1.step b, i.2.2.2.step b⟩
  one x u hu := by simp at hu; rcases hu with rfl | rfl | rfl | rfl | rfl | rfl <;> rfl

def kNode : Kd NodeD where
  k := 5
  cells x := [.int .i64 x.kind, .int .i64 x.n, .slice x.e.a x.e.n x.e.c, .int .i64 x.yes, .int .i64 x.no]
  lie := NodeD.lie
  inn x w := (wfI x.kind ∧ wfI x.n ∧ x.e.nil0 ∧ wfI x.yes ∧ wfI x.no) ∧ QRow 4 PushD.lie w x.e x.es
  pos := by decide
  len _ := rfl
  lay h i := ⟨⟨h 0 _ rfl, i.1.1⟩, ⟨h 1 _ rfl, i.1.2.1⟩, ⟨h 2 _ rfl, i.1.2.2.1⟩, ⟨h 3 _ rfl, i.1.2.2.2.1⟩, ⟨h 4 _ rfl, i.1.2.2.2.2⟩, i.2⟩
  cell h j u hu := by
    match j, hu with
    | 0, hu => cases hu; exact h.1.1
    | 1, hu => cases hu; exact h.2.1.1
    | 2, hu => cases hu; exact h.2.2.1.1
    | 3, hu => cases hu; exact h.2.2.2.1.1
    | 4, hu => cases hu; exact h.2.2.2.2.1.1
    | j + 5, hu => simp at hu
  out h := ⟨⟨h.1.2, h.2.1.2, h.2.2.1.2, h.2.2.2.1.2, h.2.2.2.2.1.2⟩, h.2.2.2.2.2⟩
  cov i c := ⟨i.1, i.2.cov PushD.covs c⟩
  step i b := ⟨i.1, i.2.step PushD.keeps b⟩
  one x u hu := by simp at hu; rcases hu with rfl | rfl | rfl | rfl | rfl <;> rfl

/-- a smaller mask -/
theorem cov_less {F F' : Nat → Prop} (w : World) (h : ∀ b, F' b → F b) : Cov (mask F (fun _ => Classical.propDecidable _) w) (mask F' (fun _ => Classical.propDecidable _) w) := by
  refine ⟨by rw [mask_size, mask_size]; exact Nat.le_refl _, fun g o v hc => ?_⟩
  by_cases hF : F g
  · have hg : g < w.heap.size := by have := World.block_lt_of_cell? _ _ hc; rwa [mask_size] at this
    simp only [World.cell?, mask_on hF hg] at hc
    simp at hc
  · exact mask_cell ((cov_mask F w).2 _ _ _ hc) (fun h' => hF (h g h'))
end Go.Proofs.YtajelgjbgehahaaGreat

namespace Go.Proofs.YtajelgjbgehahaaGreat
open Go.RowKit

theorem run_appK {w : World} {T TS : TypeId} {z : Value} {k bs : Nat} (ty : TypeId) (hT : Tryz.prog.underlying TS = some (.slice T)) (hinfo : (Tryz.prog.info? T).map (fun i => (i.zero, i.size, i.bytes)) = some (some z, k, bs)) (hzs : z.cells.size = k) (hk : 0 < k)
    {base n cap : Nat} {la : Option Addr} {xs news : List Value} {ad : Addr} {m c : Nat} (hown : w.ownsRow base T k (.slice la n cap) n xs) (hl : news.length = m * k) (hn : ∀ j u, news[j]? = some u → w.cell? (ad.add j) = some u) (h1 : ∀ u ∈ news, u.oneCell' = true) (hm : 0 < m)
    (hsm : n + m ≤ maxLen) (hby : (n + m) * bs ≤ 140737488355328) (hbase : base ≤ w.heap.size) :
    ∃ g cap' w', (Builtin.append_ #[TS, TS] ty #[.slice la n cap, .slice (some ad) m c]).run Tryz.prog w = .ok (.slice (some ⟨g, 0, none⟩) (n + m) cap') w' ∧ w'.ownsRow base T k (.slice (some ⟨g, 0, none⟩) (n + m) cap') (n + m) (xs ++ news) ∧ w.grownBy w' (Value.slice la n cap).ownBlock ∧ (la = some ⟨g, 0, none⟩ ∨ w.heap.size ≤ g) := by
  obtain ⟨i0, hi, hz0, hz1, hz2⟩ := info_parts hinfo
  have form : ∀ {v' : Value} {w' : World} {B : Nat} {ys : List Value}, w'.ownsRow B T k v' (n + m) ys → ∃ g c, v' = .slice (some ⟨g, 0, none⟩) (n + m) c := by
    intro v' w' B ys h
    rcases h.2 with ⟨_, e⟩ | ⟨g, c, cur, e, _⟩
    · omega
    · exact ⟨g, c, e⟩
  rcases hown.2 with ⟨e1, e2⟩ | ⟨g, cap1, cur, e, hb, hh, hc1, hc2, hc3, hc4⟩
  · simp only [Value.slice.injEq] at e1
    obtain ⟨rfl, _, rfl⟩ := e1
    subst e2
    have hx0 : xs = [] := List.eq_nil_of_length_eq_zero (by have := hown.1; omega)
    subst hx0
    obtain ⟨v', w', hrun, r1, r2, -⟩ := run_append_own (P := Tryz.prog) w w.heap.size TS ty T i0 z k bs hT hi hz0 hz1 hz2 hzs hk (.slice none 0 0) 0 [] (World.ownsRow_nil _ _ _ _) ad m c news hl hn h1 hsm hby (Nat.le_refl _)
    obtain ⟨g', c', rfl⟩ := form r1
    exact ⟨g', c', w', hrun, ⟨r1.1, by
      rcases r1.2 with h | ⟨g2, c2, cur2, hv, hb2, r⟩
      · exact .inl h
      · exact .inr ⟨g2, c2, cur2, hv, Nat.le_trans hbase hb2, r⟩⟩, r2, .inr (r1.lt g' rfl).1⟩
  · simp only [Value.slice.injEq, true_and] at e
    obtain ⟨rfl, rfl⟩ := e
    by_cases hroom : n + m ≤ cap
    · obtain ⟨w', hrun, r1, r2⟩ := run_append_fits (P := Tryz.prog) w base TS ty T i0 k hT hi hz1 g n cap xs hown ad m c news hl hn h1 hroom
      exact ⟨g, cap, w', hrun, r1, r2, .inl rfl⟩
    · obtain ⟨v', w', hrun, r1, r2, -⟩ := run_append_own (P := Tryz.prog) w base TS ty T i0 z k bs hT hi hz0 hz1 hz2 hzs hk (.slice (some ⟨g, 0, none⟩) n cap) n xs hown ad m c news hl hn h1 hsm hby hbase
      obtain ⟨g', c', rfl⟩ := form r1
      have hgrow := run_append_grow (P := Tryz.prog) w TS ty T i0 z hT hi hz0 ⟨g, 0, none⟩ n cap xs (by rw [hz1]; exact hown.1) (fun j v hj => hown.cells rfl j v hj) ad m c news (by rw [hz1]; exact hl) hn (by omega) (by unfold maxLen at hsm; omega) (by rw [hz2]; exact growslice_fits (by omega) (by omega))
      rw [hrun] at hgrow
      simp only [Result.ok.injEq, Value.slice.injEq, Option.some.injEq, Addr.mk.injEq, and_true] at hgrow
      exact ⟨g', c', w', hrun, r1, r2, .inr (Nat.le_of_eq hgrow.1.1.symm)⟩

/-- one thing more, as a step of a region that draws -/
theorem pushK {ops : Array Oper} {o : Oper} {a : Act} {w : World} {K : Act → World → Prop} {Q : Exit → Act → World → Prop} {E : Prop} {T TS : TypeId} {z : Value} {k bs : Nat}
    (hT : Tryz.prog.underlying TS = some (.slice T)) (hinfo : (Tryz.prog.info? T).map (fun i => (i.zero, i.size, i.bytes)) = some (some z, k, bs)) (hzs : z.cells.size = k) (hk : 0 < k) (hbs : bs ≤ 1000) (hgd : o.guard = none) (s x : Operand)
    (ho : o.op = .call { callee := .builtin .append, args := #[s, x], argTypes := #[TS, TS] }) (base n cap c : Nat) (la : Option Addr) (xs news : List Value) (ad : Addr)
    (hs : a.eval s = .slice la n cap) (hx : a.eval x = .slice (some ad) 1 c) (hown : w.ownsRow base T k (.slice la n cap) n xs) (hl : news.length = k) (hn : ∀ j u, news[j]? = some u → w.cell? (ad.add j) = some u) (h1 : ∀ u ∈ news, u.oneCell' = true) (hsm : n ≤ 100000) (hbase : base ≤ w.heap.size)
    (h : ∀ g cap' w', w'.ownsRow base T k (.slice (some ⟨g, 0, none⟩) (n + 1) cap') (n + 1) (xs ++ news) → w.grownBy w' (Value.slice la n cap).ownBlock → (la = some ⟨g, 0, none⟩ ∨ w.heap.size ≤ g) → K (a.put o.dst (.slice (some ⟨g, 0, none⟩) (n + 1) cap')) w') :
    if Region.wanted o (yielded ops a.tmps) = true then Oper.wp Tryz.prog o a w K Q else E := by
  have hw : Region.wanted o (yielded ops a.tmps) = true := by simp [Region.wanted, hgd]
  rw [if_pos hw]
  obtain ⟨g, cap', w', hrun, r1, r2, r3⟩ := run_appK (c := c) o.type hT hinfo hzs hk hown (m := 1) (by omega) hn h1 (by omega) (by unfold maxLen; omega) (by
    have : (n + 1) * bs ≤ 100001 * 1000 := Nat.mul_le_mul (by omega) hbs
    omega) hbase
  unfold Oper.wp execOp
  simp only [ho, resolve, invoke, builtin, Sem.run_bind, Sem.run_pure, Result.andThen_ok, List.map_toArray, List.map_cons, List.map_nil, hs, hx, hrun]
  exact h g cap' w' r1 r2 r3

/-- the run of a copy: append(nil, l...) -/
theorem run_copyK {α : Type} (K : Kd α) {w : World} {T TS : TypeId} {z : Value} {bs : Nat} (ty : TypeId) (hT : Tryz.prog.underlying TS = some (.slice T)) (hinfo : (Tryz.prog.info? T).map (fun i => (i.zero, i.size, i.bytes)) = some (some z, K.k, bs)) (hzs : z.cells.size = K.k) (hbs : bs ≤ 1000)
    {s : QSl} {S : List α} (hr : QRow K.k K.lie w s S) (h0 : s.nil0) (hsm : s.n ≤ 100000) :
    ∃ a c w', (Builtin.append_ #[TS, TS] ty #[.slice none 0 0, .slice s.a s.n s.c]).run Tryz.prog w = .ok (.slice a s.n c) w' ∧ w'.ownsRow w.heap.size T K.k (.slice a s.n c) s.n (S.flatMap K.cells) ∧ Below w.heap.size w w' := by
  obtain ⟨i0, hi, hz0, hz1, hz2⟩ := info_parts hinfo
  have hlen : (S.flatMap K.cells).length = s.n * K.k := by rw [K.flat_len, hr.1]
  obtain ⟨sa, sn, sc⟩ := s
  cases sa with
  | none =>
    obtain ⟨e1, e2⟩ := h0 rfl
    dsimp only at e1 e2
    subst e1; subst e2
    refine ⟨none, 0, w, run_append_owned_none (P := Tryz.prog) w w.heap.size TS ty T i0 K.k hT hi (.slice none 0 0) 0 [] (World.ownsRow_nil _ _ _ _), ?_, Below.refl _ _⟩
    have : S = [] := List.eq_nil_of_length_eq_zero hr.1
    subst this
    exact World.ownsRow_nil _ _ _ _
  | some ad =>
    have hlo : S ≠ [] → ∃ g off, ad = ⟨g, off, none⟩ := by
      intro hne
      obtain ⟨x, S', rfl⟩ := List.exists_cons_of_ne_nil hne
      obtain ⟨g, off, e, _⟩ := hr.2 0 x rfl
      exact ⟨g, off, Option.some.inj e⟩
    have hsrc : ∀ j u, (S.flatMap K.cells)[j]? = some u → w.cell? (ad.add j) = some u := by
      by_cases hne : S = []
      · subst hne
        intro j u hu
        simp at hu
      · obtain ⟨g, off, rfl⟩ := hlo hne
        exact K.src hr rfl
    have hsm' : sn * bs ≤ 100000 * 1000 := Nat.mul_le_mul hsm hbs
    obtain ⟨v', w', hrun, r1, r2, -⟩ := run_append_own (P := Tryz.prog) w w.heap.size TS ty T i0 z K.k bs hT hi hz0 hz1 hz2 hzs K.pos (.slice none 0 0) 0 [] (World.ownsRow_nil _ _ _ _) ad sn sc (S.flatMap K.cells) hlen hsrc (K.flat_one S) (by unfold maxLen; dsimp only at hsm; omega) (by rw [Nat.zero_add]; omega) (Nat.le_refl _)
    rw [Nat.zero_add, List.nil_append] at r1
    obtain ⟨a, c, e⟩ : ∃ a c, v' = .slice a sn c := by
      rcases r1.2 with ⟨e, e2⟩ | ⟨g, c, cur, e, _⟩
      · exact ⟨none, 0, by rw [e, e2]⟩
      · exact ⟨_, c, e⟩
    subst e
    exact ⟨a, c, w', hrun, r1, (Below.refl _ _).grown r2 (Nat.le_refl _) (by intro j hj; simp [Value.ownBlock] at hj)⟩

/-- an append whose run is known, as a step of the walk -/
theorem append_run {w w' : World} {ops : Array Oper} {rest : List Oper} {o : Oper} {a : Act} {Q : Exit → Act → World → Prop} {TS : TypeId} (hgd : o.guard = none) (s x : Operand)
    (ho : o.op = .call { callee := .builtin .append, args := #[s, x], argTypes := #[TS, TS] }) {vs vx v' : Value} (hs : a.eval s = vs) (hx : a.eval x = vx) (hrun : (Builtin.append_ #[TS, TS] o.type #[vs, vx]).run Tryz.prog w = .ok v' w')
    (h : wpList Tryz.prog ops Q rest (a.put o.dst v') w') : wpList Tryz.prog ops Q (o :: rest) a w :=
  wpList_plain hgd fun _ hK => by
    unfold Oper.wp execOp
    simp only [ho, resolve, invoke, builtin, Sem.run_bind, Sem.run_pure, Result.andThen_ok, List.map_toArray, List.map_cons, List.map_nil, hs, hx, hrun]
    exact hK _ _ h

/-- the same in a region that draws -/
theorem append_runR {w w' : World} {ops : Array Oper} {o : Oper} {a : Act} {K : Act → World → Prop} {Q : Exit → Act → World → Prop} {E : Prop} {TS : TypeId} (hgd : o.guard = none) (s x : Operand)
    (ho : o.op = .call { callee := .builtin .append, args := #[s, x], argTypes := #[TS, TS] }) {vs vx v' : Value} (hs : a.eval s = vs) (hx : a.eval x = vx) (hrun : (Builtin.append_ #[TS, TS] o.type #[vs, vx]).run Tryz.prog w = .ok v' w')
    (h : K (a.put o.dst v') w') : if Region.wanted o (yielded ops a.tmps) = true then Oper.wp Tryz.prog o a w K Q else E := by
  have hw : Region.wanted o (yielded ops a.tmps) = true := by simp [Region.wanted, hgd]
  rw [if_pos hw]
  unfold Oper.wp execOp
  simp only [ho, resolve, invoke, builtin, Sem.run_bind, Sem.run_pure, Result.andThen_ok, List.map_toArray, List.map_cons, List.map_nil, hs, hx, hrun]
  exact h
end Go.Proofs.YtajelgjbgehahaaGreat

namespace Go.Proofs.YtajelgjbgehahaaGreat
open Go.RowKit

/-- ints, one cell each -/
def kInt : Kd Int where
  k := 1
  cells x := [.int .i64 x]
  lie x w g o := CI w g o x
  inn x _ := wfI x
  pos := by decide
  len _ := rfl
  lay h i := ⟨h 0 _ rfl, i⟩
  cell h j u hu := by
    match j, hu with
    | 0, hu => cases hu; exact h.1
    | j + 1, hu => simp at hu
  out h := h.2
  cov i _ := i
  step i _ := i
  one x u hu := by simp at hu; subst hu; rfl

def kNum : Kd Int where
  k := 1
  cells x := [.int .u64 x]
  lie x w g o := CU w g o x
  inn x _ := wfU x
  pos := by decide
  len _ := rfl
  lay h i := ⟨h 0 _ rfl, i⟩
  cell h j u hu := by
    match j, hu with
    | 0, hu => cases hu; exact h.1
    | j + 1, hu => simp at hu
  out h := h.2
  cov i _ := i
  step i _ := i
  one x u hu := by simp at hu; subst hu; rfl

/-- a list of ints is a row -/
theorem has_rowI {w : World} {s : QSl} {zs : List Int} (h : Has .i64 w s.a s.n zs) : QRow kInt.k kInt.lie w s zs := by
  refine ⟨h.1, fun i x hx => ?_⟩
  have hi := (List.getElem?_eq_some_iff.1 hx).1
  obtain ⟨b, off, e, _, hc⟩ := h.some (by rw [← h.1]; omega)
  have := hc i (by rw [← h.1]; exact hi)
  rw [List.getD_eq_getElem?_getD, hx, Option.getD_some] at this
  refine ⟨b, off, e, ?_, h.2.1 x (List.mem_of_getElem? hx)⟩
  rw [show kInt.k = 1 from rfl, Nat.mul_one]
  exact this

theorem row_hasI {w : World} {s : QSl} {zs : List Int} (h : QRow kInt.k kInt.lie w s zs) : Has .i64 w s.a s.n zs := by
  refine ⟨h.1, fun x hx => ?_, ?_⟩
  · exact kInt.inns h x hx
  · cases zs with
    | nil => exact .inl rfl
    | cons z zs =>
      obtain ⟨g, off, e, h0⟩ := h.2 0 z rfl
      refine .inr ⟨g, off, e, World.block_lt_of_cell? w _ h0.1, fun i hi => ?_⟩
      have hi' : i < (z :: zs).length := by rw [h.1]; exact hi
      obtain ⟨g', off', e', h1⟩ := h.2 i _ (List.getElem?_eq_getElem hi')
      rw [e] at e'
      simp only [Option.some.injEq, Addr.mk.injEq, and_true] at e'
      obtain ⟨rfl, rfl⟩ := e'
      have := h1.1
      rw [show kInt.k = 1 from rfl, Nat.mul_one] at this
      rw [this, List.getD_eq_getElem?_getD, List.getElem?_eq_getElem hi', Option.getD_some]

theorem has_rowU {w : World} {s : QSl} {zs : List Int} (h : Has .u64 w s.a s.n zs) : QRow kNum.k kNum.lie w s zs := by
  refine ⟨h.1, fun i x hx => ?_⟩
  have hi := (List.getElem?_eq_some_iff.1 hx).1
  obtain ⟨b, off, e, _, hc⟩ := h.some (by rw [← h.1]; omega)
  have := hc i (by rw [← h.1]; exact hi)
  rw [List.getD_eq_getElem?_getD, hx, Option.getD_some] at this
  refine ⟨b, off, e, ?_, h.2.1 x (List.mem_of_getElem? hx)⟩
  rw [show kNum.k = 1 from rfl, Nat.mul_one]
  exact this

theorem row_hasU {w : World} {s : QSl} {zs : List Int} (h : QRow kNum.k kNum.lie w s zs) : Has .u64 w s.a s.n zs := by
  refine ⟨h.1, fun x hx => ?_, ?_⟩
  · exact kNum.inns h x hx
  · cases zs with
    | nil => exact .inl rfl
    | cons z zs =>
      obtain ⟨g, off, e, h0⟩ := h.2 0 z rfl
      refine .inr ⟨g, off, e, World.block_lt_of_cell? w _ h0.1, fun i hi => ?_⟩
      have hi' : i < (z :: zs).length := by rw [h.1]; exact hi
      obtain ⟨g', off', e', h1⟩ := h.2 i _ (List.getElem?_eq_getElem hi')
      rw [e] at e'
      simp only [Option.some.injEq, Addr.mk.injEq, and_true] at e'
      obtain ⟨rfl, rfl⟩ := e'
      have := h1.1
      rw [show kNum.k = 1 from rfl, Nat.mul_one] at this
      rw [this, List.getD_eq_getElem?_getD, List.getElem?_eq_getElem hi', Option.getD_some]

/-- what a copy is -/
def CopyDone {α : Type} (K : Kd α) (T : TypeId) (S : List α) (n : Nat) (w : World) (e : Ending) (w' : World) : Prop :=
  ∃ a c, e = .returned (.slice a n c) ∧ w'.ownsRow w.heap.size T K.k (.slice a n c) n (S.flatMap K.cells) ∧ Below w.heap.size w w'

/-- all that is new lies outside of what was there -/
abbrev old (w : World) : Nat → Prop := fun b => b < w.heap.size

theorem fresh_row {α : Type} (K : Kd α) {T : TypeId} {w w' : World} {n c : Nat} {a : Option Addr} {S : List α} (h : w'.ownsRow w.heap.size T K.k (.slice a n c) n (S.flatMap K.cells)) (hi : ∀ s ∈ S, K.inn s (mask (old w) (fun _ => Classical.propDecidable _) w')) : QRow K.k K.lie (mask (old w) (fun _ => Classical.propDecidable _) w') ⟨a, n, c⟩ S := by
  refine K.row (base := w.heap.size) (T := T) ⟨h.1, ?_⟩ hi
  rcases h.2 with h2 | ⟨g, cap, cur, e, hb, hh, r⟩
  · exact .inl h2
  · exact .inr ⟨g, cap, cur, e, hb, (mask_off (F := old w) (k := g) (show ¬ g < w.heap.size by omega)).trans hh, r⟩

theorem CopyDone.row {α : Type} {K : Kd α} {T : TypeId} {S : List α} {n : Nat} {w : World} {e : Ending} {w' : World} (h : CopyDone K T S n w e w') (hi : ∀ s ∈ S, K.inn s (mask (old w) (fun _ => Classical.propDecidable _) w')) : ∃ a c, e = .returned (.slice a n c) ∧ QRow K.k K.lie (mask (old w) (fun _ => Classical.propDecidable _) w') ⟨a, n, c⟩ S ∧ QSl.nil0 ⟨a, n, c⟩ ∧ Below w.heap.size w w' := by
  obtain ⟨a, c, e, h1, h2⟩ := h
  exact ⟨a, c, e, fresh_row K h1 hi, Kd.own_nil0 h1, h2⟩

theorem Tryz.infoRef : (Tryz.prog.info? 61).map (fun i => (i.zero, i.size, i.bytes)) = some (some (.agg #[.int .i64 0, .int .i64 0]), 2, 16) := by kernel_rfl
theorem Tryz.infoPush : (Tryz.prog.info? 68).map (fun i => (i.zero, i.size, i.bytes)) = some (some (.agg #[.int .i64 0, .int .i64 0, .int .i64 0, .int .u64 0]), 4, 32) := by kernel_rfl
theorem Tryz.infoCase : (Tryz.prog.info? 137).map (fun i => (i.zero, i.size, i.bytes)) = some (some (.agg #[.int .u64 0, .int .u64 0, .int .i64 0]), 3, 24) := by kernel_rfl
theorem Tryz.infoHeader : (Tryz.prog.info? 63).map (fun i => (i.zero, i.size, i.bytes)) = some (some (.agg #[.slice none 0 0]), 1, 24) := by kernel_rfl
theorem Tryz.infoState : (Tryz.prog.info? 66).map (fun i => (i.zero, i.size, i.bytes)) = some (some (.agg #[.int .i64 0, .int .i64 0, .int .i64 0, .slice none 0 0, .int .i64 0]), 5, 56) := by kernel_rfl
theorem Tryz.infoOp : (Tryz.prog.info? 71).map (fun i => (i.zero, i.size, i.bytes)) = some (some (.agg #[.int .i64 0, .int .i64 0, .int .i64 0, .int .i64 0, .slice none 0 0]), 5, 56) := by kernel_rfl
theorem Tryz.infoAction : (Tryz.prog.info? 74).map (fun i => (i.zero, i.size, i.bytes)) = some (some (.agg #[.slice none 0 0, .slice none 0 0]), 2, 48) := by kernel_rfl
theorem Tryz.infoTable : (Tryz.prog.info? 55).map (fun i => (i.zero, i.size, i.bytes)) = some (some (.agg #[.int .i64 0, .slice none 0 0, .slice none 0 0, .int .i64 0, .int .i64 0, .slice none 0 0]), 6, 96) := by kernel_rfl
theorem Tryz.infoNode : (Tryz.prog.info? 76).map (fun i => (i.zero, i.size, i.bytes)) = some (some (.agg #[.int .i64 0, .int .i64 0, .slice none 0 0, .int .i64 0, .int .i64 0]), 5, 56) := by kernel_rfl
theorem Tryz.infoNum : (Tryz.prog.info? 22).map (fun i => (i.zero, i.size, i.bytes)) = some (some (.int .u64 0), 1, 8) := by kernel_rfl
theorem Tryz.infoInt0 : (Tryz.prog.info? 3).map (fun i => (i.zero, i.size, i.bytes)) = some (some (.int .i64 0), 1, 8) := by kernel_rfl

set_option maxHeartbeats 1000000 in
set_option maxRecDepth 20000 in
theorem copied_ref (s : QSl) (S : List RefD) (w : World) (h : QRow 2 RefD.lie w s S) (h0 : s.nil0) (hn : s.n ≤ 100000) : Calls Tryz.prog 53 #[.slice s.a s.n s.c] w (CopyDone kRef 61 S s.n w) := by
  obtain ⟨a, c, w', hrun, ho, hb⟩ := run_copyK kRef 52 Tryz.underlying52 Tryz.infoRef rfl (by decide) (s := s) h h0 hn
  have HD : Hid (CopyDone kRef 61 S s.n w (.returned (.slice a s.n c)) w') := ⟨a, c, rfl, ho, hb⟩
  clear ho hb h h0
  go_enter Tryz.func53, Tryz.ntmps53
  go_wp2_with (at_builtin; refine append_run rfl _ _ rfl rfl rfl hrun ?_)
  go_ret
  exact HD.out

set_option maxHeartbeats 1000000 in
set_option maxRecDepth 20000 in
theorem copied_push (s : QSl) (S : List PushD) (w : World) (h : QRow 4 PushD.lie w s S) (h0 : s.nil0) (hn : s.n ≤ 100000) : Calls Tryz.prog 56 #[.slice s.a s.n s.c] w (CopyDone kPush 68 S s.n w) := by
  obtain ⟨a, c, w', hrun, ho, hb⟩ := run_copyK kPush 69 Tryz.underlying69 Tryz.infoPush rfl (by decide) (s := s) h h0 hn
  have HD : Hid (CopyDone kPush 68 S s.n w (.returned (.slice a s.n c)) w') := ⟨a, c, rfl, ho, hb⟩
  clear ho hb h h0
  go_enter Tryz.func56, Tryz.ntmps56
  go_wp2_with (at_builtin; refine append_run rfl _ _ rfl rfl rfl hrun ?_)
  go_ret
  exact HD.out

set_option maxHeartbeats 1000000 in
set_option maxRecDepth 20000 in
theorem copied_case (s : QSl) (S : List CaseD) (w : World) (h : QRow 3 CaseD.lie w s S) (h0 : s.nil0) (hn : s.n ≤ 100000) : Calls Tryz.prog 48 #[.slice s.a s.n s.c] w (CopyDone kCase 137 S s.n w) := by
  obtain ⟨a, c, w', hrun, ho, hb⟩ := run_copyK kCase 64 Tryz.underlying64 Tryz.infoCase rfl (by decide) (s := s) h h0 hn
  have HD : Hid (CopyDone kCase 137 S s.n w (.returned (.slice a s.n c)) w') := ⟨a, c, rfl, ho, hb⟩
  clear ho hb h h0
  go_enter Tryz.func48, Tryz.ntmps48
  go_wp2_with (at_builtin; refine append_run rfl _ _ rfl rfl rfl hrun ?_)
  go_ret
  exact HD.out

set_option maxHeartbeats 1000000 in
set_option maxRecDepth 20000 in
theorem copied_head (s : QSl) (S : List HeadD) (w : World) (h : QRow 1 HeadD.lie w s S) (h0 : s.nil0) (hn : s.n ≤ 100000) : Calls Tryz.prog 46 #[.slice s.a s.n s.c] w (CopyDone kHead 63 S s.n w) := by
  obtain ⟨a, c, w', hrun, ho, hb⟩ := run_copyK kHead 31 Tryz.underlying31 Tryz.infoHeader rfl (by decide) (s := s) h h0 hn
  have HD : Hid (CopyDone kHead 63 S s.n w (.returned (.slice a s.n c)) w') := ⟨a, c, rfl, ho, hb⟩
  clear ho hb h h0
  go_enter Tryz.func46, Tryz.ntmps46
  go_wp2_with (at_builtin; refine append_run rfl _ _ rfl rfl rfl hrun ?_)
  go_ret
  exact HD.out

set_option maxHeartbeats 1000000 in
set_option maxRecDepth 20000 in
theorem copied_state (s : QSl) (S : List StateD) (w : World) (h : QRow 5 StateD.lie w s S) (h0 : s.nil0) (hn : s.n ≤ 100000) : Calls Tryz.prog 47 #[.slice s.a s.n s.c] w (CopyDone kState 66 S s.n w) := by
  obtain ⟨a, c, w', hrun, ho, hb⟩ := run_copyK kState 33 Tryz.underlying33 Tryz.infoState rfl (by decide) (s := s) h h0 hn
  have HD : Hid (CopyDone kState 66 S s.n w (.returned (.slice a s.n c)) w') := ⟨a, c, rfl, ho, hb⟩
  clear ho hb h h0
  go_enter Tryz.func47, Tryz.ntmps47
  go_wp2_with (at_builtin; refine append_run rfl _ _ rfl rfl rfl hrun ?_)
  go_ret
  exact HD.out

set_option maxHeartbeats 1000000 in
set_option maxRecDepth 20000 in
theorem copied_op (s : QSl) (S : List OpD) (w : World) (h : QRow 5 OpD.lie w s S) (h0 : s.nil0) (hn : s.n ≤ 100000) : Calls Tryz.prog 77 #[.slice s.a s.n s.c] w (CopyDone kOp 71 S s.n w) := by
  obtain ⟨a, c, w', hrun, ho, hb⟩ := run_copyK kOp 72 Tryz.underlying72 Tryz.infoOp rfl (by decide) (s := s) h h0 hn
  have HD : Hid (CopyDone kOp 71 S s.n w (.returned (.slice a s.n c)) w') := ⟨a, c, rfl, ho, hb⟩
  clear ho hb h h0
  go_enter Tryz.func77, Tryz.ntmps77
  go_wp2_with (at_builtin; refine append_run rfl _ _ rfl rfl rfl hrun ?_)
  go_ret
  exact HD.out

set_option maxHeartbeats 1000000 in
set_option maxRecDepth 20000 in
theorem copied_act (s : QSl) (S : List ActD) (w : World) (h : QRow 2 ActD.lie w s S) (h0 : s.nil0) (hn : s.n ≤ 100000) : Calls Tryz.prog 49 #[.slice s.a s.n s.c] w (CopyDone kAct 74 S s.n w) := by
  obtain ⟨a, c, w', hrun, ho, hb⟩ := run_copyK kAct 34 Tryz.underlying34 Tryz.infoAction rfl (by decide) (s := s) h h0 hn
  have HD : Hid (CopyDone kAct 74 S s.n w (.returned (.slice a s.n c)) w') := ⟨a, c, rfl, ho, hb⟩
  clear ho hb h h0
  go_enter Tryz.func49, Tryz.ntmps49
  go_wp2_with (at_builtin; refine append_run rfl _ _ rfl rfl rfl hrun ?_)
  go_ret
  exact HD.out

set_option maxHeartbeats 1000000 in
set_option maxRecDepth 20000 in
theorem copied_tab (s : QSl) (S : List TabD) (w : World) (h : QRow 6 TabD.lie w s S) (h0 : s.nil0) (hn : s.n ≤ 100000) : Calls Tryz.prog 52 #[.slice s.a s.n s.c] w (CopyDone kTab 55 S s.n w) := by
  obtain ⟨a, c, w', hrun, ho, hb⟩ := run_copyK kTab 35 Tryz.underlying35 Tryz.infoTable rfl (by decide) (s := s) h h0 hn
  have HD : Hid (CopyDone kTab 55 S s.n w (.returned (.slice a s.n c)) w') := ⟨a, c, rfl, ho, hb⟩
  clear ho hb h h0
  go_enter Tryz.func52, Tryz.ntmps52
  go_wp2_with (at_builtin; refine append_run rfl _ _ rfl rfl rfl hrun ?_)
  go_ret
  exact HD.out

set_option maxHeartbeats 1000000 in
set_option maxRecDepth 20000 in
theorem copied_node (s : QSl) (S : List NodeD) (w : World) (h : QRow 5 NodeD.lie w s S) (h0 : s.nil0) (hn : s.n ≤ 100000) : Calls Tryz.prog 55 #[.slice s.a s.n s.c] w (CopyDone kNode 76 S s.n w) := by
  obtain ⟨a, c, w', hrun, ho, hb⟩ := run_copyK kNode 36 Tryz.underlying36 Tryz.infoNode rfl (by decide) (s := s) h h0 hn
  have HD : Hid (CopyDone kNode 76 S s.n w (.returned (.slice a s.n c)) w') := ⟨a, c, rfl, ho, hb⟩
  clear ho hb h h0
  go_enter Tryz.func55, Tryz.ntmps55
  go_wp2_with (at_builtin; refine append_run rfl _ _ rfl rfl rfl hrun ?_)
  go_ret
  exact HD.out

set_option maxHeartbeats 1000000 in
set_option maxRecDepth 20000 in
theorem copied_int (s : QSl) (S : List Int) (w : World) (h : Has .i64 w s.a s.n S) (h0 : s.nil0) (hn : s.n ≤ 100000) : Calls Tryz.prog 24 #[.slice s.a s.n s.c] w (CopyDone kInt 3 S s.n w) := by
  obtain ⟨a, c, w', hrun, ho, hb⟩ := run_copyK kInt 32 Tryz.underlying32 Tryz.infoInt0 rfl (by decide) (s := s) (has_rowI h) h0 hn
  have HD : Hid (CopyDone kInt 3 S s.n w (.returned (.slice a s.n c)) w') := ⟨a, c, rfl, ho, hb⟩
  clear ho hb h h0
  go_enter Tryz.func24, Tryz.ntmps24
  go_wp2_with (at_builtin; refine append_run rfl _ _ rfl rfl rfl hrun ?_)
  go_ret
  exact HD.out

set_option maxHeartbeats 1000000 in
set_option maxRecDepth 20000 in
theorem copied_num (s : QSl) (S : List Int) (w : World) (h : Has .u64 w s.a s.n S) (h0 : s.nil0) (hn : s.n ≤ 100000) : Calls Tryz.prog 54 #[.slice s.a s.n s.c] w (CopyDone kNum 22 S s.n w) := by
  obtain ⟨a, c, w', hrun, ho, hb⟩ := run_copyK kNum 53 Tryz.underlying53 Tryz.infoNum rfl (by decide) (s := s) (has_rowU h) h0 hn
  have HD : Hid (CopyDone kNum 22 S s.n w (.returned (.slice a s.n c)) w') := ⟨a, c, rfl, ho, hb⟩
  clear ho hb h h0
  go_enter Tryz.func54, Tryz.ntmps54
  go_wp2_with (at_builtin; refine append_run rfl _ _ rfl rfl rfl hrun ?_)
  go_ret
  exact HD.out

end Go.Proofs.YtajelgjbgehahaaGreat
