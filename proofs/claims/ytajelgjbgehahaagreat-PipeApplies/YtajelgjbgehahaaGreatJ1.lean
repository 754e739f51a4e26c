/- Texts of one chain, joined: Base, QLay, Open, QOpen, Math, JMath, RMath, PMath, QQuiet, U64, SInts, Small, Read, Write, Calls, Ones, Begun, Join, Part, Ref1. -/
import Derived.Test.YtajelgjbgehahaaGreatRows
import Derived.WalkKit
import Derived.WalkSpells
import Derived.WalkLawsBesides
import Derived.Lib.SliceRun
import Derived.OpenShut
import Derived.Deep.QuietTactic
import Derived.BigQuiet
import Derived.Laws.ShiftsVarLaws
import Derived.Deep.RegionWith
import Derived.Laws.AppendOwnNone
import Derived.Deep.Slices
import Derived.ProofKit
import Derived.Shelf.SlSortCmp.QuietGrown
namespace Go.Proofs.YtajelgjbgehahaaGreat.Mth
/-- each is a byte -/
def Bytes (zs : List Int) : Prop := ∀ i, 0 ≤ zs.getD i 0 ∧ zs.getD i 0 < 256
end Go.Proofs.YtajelgjbgehahaaGreat.Mth
namespace Go.Proofs.YtajelgjbgehahaaGreat
open Go.RowKit

theorem ret_int {k : IntKind} {a b : Int} (h : a = b) : Ending.returned (.int k a) = .returned (.int k b) := by rw [h]

theorem vint {k : IntKind} {a b : Int} (h : a = b) : Value.int k a = .int k b := by rw [h]

theorem wrap_small (n : Int) (h0 : 0 ≤ n) (h : n < 9223372036854775808) : IntKind.i64.wrap n = n := by
  simp [IntKind.wrap, IntKind.bits, IntKind.signed]; omega

def BB (zs : List Int) : List Value := zs.map (Value.int .u8)

/-- a slice of integers, as it lies: its first 'len' cells are the numbers zs -/
def Has (k : IntKind) (w : World) (a : Option Addr) (len : Nat) (zs : List Int) : Prop :=
  zs.length = len ∧ (∀ n ∈ zs, (Lit.int k n).wf = true) ∧ (zs = [] ∨ ∃ b off, a = some ⟨b, off, none⟩ ∧ b < w.heap.size ∧ ∀ i, i < len → w.cell? ⟨b, off + i, none⟩ = some (.int k (zs.getD i 0)))

theorem Has.below {k : IntKind} {w w' : World} {a : Option Addr} {len B : Nat} {zs : List Int} (h : Has k w a len zs) (hb : Below B w w') (hB : w.heap.size ≤ B) : Has k w' a len zs := by
  refine ⟨h.1, h.2.1, ?_⟩
  rcases h.2.2 with h | ⟨b, off, rfl, hlt, hc⟩
  · exact .inl h
  · refine .inr ⟨b, off, rfl, Nat.lt_of_lt_of_le hlt hb.size, fun i hi => ?_⟩
    rw [hb.cell (p := ⟨b, off + i, none⟩) (Nat.lt_of_lt_of_le hlt hB)]
    exact hc i hi

theorem Has.bytes {w : World} {a : Option Addr} {len : Nat} {zs : List Int} (h : Has .u8 w a len zs) : Mth.Bytes zs := by
  intro i
  by_cases hi : i < zs.length
  · have hw := h.2.1 zs[i] (List.getElem_mem hi)
    have := bounds_u8 hw
    simp only [List.getD_eq_getElem?_getD, List.getElem?_eq_getElem hi, Option.getD_some]
    omega
  · simp [List.getD_eq_getElem?_getD, List.getElem?_eq_none (Nat.le_of_not_lt hi)]

theorem wf_u8 (n : Int) (h : 0 ≤ n ∧ n < 256) : (Lit.int .u8 n).wf = true := by
  simp [Lit.wf, IntKind.min, IntKind.max, IntKind.bits, IntKind.signed]
  omega

theorem Tryz.info5 : (Tryz.prog.info? 5).map (fun i => (i.zero, i.size, i.bytes)) = some (some (.int .u8 0), 1, 1) := by kernel_rfl

theorem bb_at {b off len : Nat} {zs : List Int} {w : World} {o : Obj} (hz : zs.length = len) (hc : ∀ i, i < len → w.cell? ⟨b, off + i, none⟩ = some (.int .u8 (zs.getD i 0))) :
    ∀ (j : Nat) (u : Value), (BB zs)[j]? = some u → (w.alloc o).cell? ((⟨b, off, none⟩ : Addr).add j) = some u := by
  intro j u hj
  have hj' : j < zs.length := by
    have := (List.getElem?_eq_some_iff.1 hj).1
    simpa [BB] using this
  have h1 := hc j (by omega)
  have h2 : ((w.alloc o).cell? ⟨b, off + j, none⟩) = w.cell? ⟨b, off + j, none⟩ :=
    ((Below.refl w.heap.size w).alloc (Nat.le_refl _) o).cell (p := ⟨b, off + j, none⟩) (World.block_lt_of_cell? w _ h1)
  rw [Addr.add_lit, h2, h1]
  simp only [BB, List.getElem?_map, List.getElem?_eq_getElem hj', Option.map_some, Option.some.injEq] at hj
  simp only [List.getD_eq_getElem?_getD, List.getElem?_eq_getElem hj', Option.getD_some, hj]

theorem bb_one (zs : List Int) : ∀ u ∈ BB zs, u.oneCell' = true := by
  intro u hu
  simp only [BB, List.mem_map] at hu
  obtain ⟨x, _, rfl⟩ := hu
  rfl

theorem Has.some {k : IntKind} {w : World} {a : Option Addr} {len : Nat} {zs : List Int} (h : Has k w a len zs) (h0 : 0 < len) :
    ∃ b off, a = some ⟨b, off, none⟩ ∧ b < w.heap.size ∧ ∀ i, i < len → w.cell? ⟨b, off + i, none⟩ = some (.int k (zs.getD i 0)) := by
  rcases h.2.2 with h1 | h1
  · have := h.1; rw [h1] at this; simp at this; omega
  · exact h1

theorem has_of_owns {w : World} {base g len cap : Nat} {zs : List Int} (h : w.ownsRow base 5 1 (.slice (some ⟨g, 0, none⟩) len cap) len (BB zs)) (hb : Mth.Bytes zs) : Has .u8 w (some ⟨g, 0, none⟩) len zs := by
  have hl : zs.length = len := by simpa [BB] using h.1
  refine ⟨hl, ?_, .inr ⟨g, 0, rfl, (h.lt g rfl).2, fun i hi => ?_⟩⟩
  · intro n hn
    obtain ⟨i, hi, rfl⟩ := List.getElem_of_mem hn
    have := hb i
    simp only [List.getD_eq_getElem?_getD, List.getElem?_eq_getElem hi, Option.getD_some] at this
    exact wf_u8 _ this
  · rw [Nat.zero_add, h.cellAt i (by omega)]
    simp only [BB, List.getElem?_map, List.getD_eq_getElem?_getD]
    rw [List.getElem?_eq_getElem (by omega)]; rfl

theorem bl_alloc {W w : World} (h : Below W.heap.size W w) {o : Obj} : Below W.heap.size W (w.alloc o) := h.alloc h.size o

theorem bl_step {W w w' : World} (h : Below W.heap.size W w) (k : Below w.heap.size w w') : Below W.heap.size W w' := h.trans (k.mono h.size)

theorem Has.alloc {k : IntKind} {w : World} {a : Option Addr} {len : Nat} {zs : List Int} (h : Has k w a len zs) {o : Obj} : Has k (w.alloc o) a len zs := h.below (bl_alloc (Below.refl _ _)) (Nat.le_refl _)

theorem Has.step {k : IntKind} {w w' : World} {a : Option Addr} {len : Nat} {zs : List Int} (h : Has k w a len zs) (b : Below w.heap.size w w') : Has k w' a len zs := h.below b (Nat.le_refl _)

/-- a row that is owned and not empty has a head -/
theorem owns_head {w : World} {base n : Nat} {v : Value} {xs : List Value} (h : w.ownsRow base 5 1 v n xs) (h0 : 0 < n) : ∃ g cap, v = .slice (some ⟨g, 0, none⟩) n cap ∧ n ≤ cap ∧ cap ≤ maxLen := by
  rcases h.2 with ⟨_, e⟩ | ⟨g, cap, cur, e, _, _, h1, h2, _⟩
  · omega
  · exact ⟨g, cap, e, h1, h2⟩

/-- what is owned lies as Has says -/
theorem has_of_owns8 {w : World} {base len : Nat} {v : Value} {zs : List Int} (h : w.ownsRow base 5 1 v len (BB zs)) (hb : Mth.Bytes zs) : ∃ a cap, v = .slice a len cap ∧ Has .u8 w a len zs := by
  rcases h.2 with ⟨rfl, rfl⟩ | ⟨g, cap, cur, rfl, _⟩
  · have hl : zs.length = 0 := by simpa [BB] using h.1
    exact ⟨none, 0, rfl, hl, by rw [List.eq_nil_of_length_eq_zero hl]; simp, .inl (List.eq_nil_of_length_eq_zero hl)⟩
  · exact ⟨_, cap, rfl, has_of_owns h hb⟩

theorem has_cells {w : World} {ad : Addr} {m : Nat} {zs : List Int} (h : Has .u8 w (some ad) m zs) : ∀ (j : Nat) (u : Value), (BB zs)[j]? = some u → w.cell? (ad.add j) = some u := by
  intro j u hj
  have hj' : j < zs.length := by
    have := (List.getElem?_eq_some_iff.1 hj).1
    simpa [BB] using this
  have hl := h.1
  obtain ⟨b, off, e, _, hc⟩ := h.some (by omega)
  simp only [Option.some.injEq] at e
  subst e
  rw [Addr.add_lit, hc j (by omega)]
  simp only [BB, List.getElem?_map, List.getElem?_eq_getElem hj', Option.map_some, Option.some.injEq] at hj
  simp only [List.getD_eq_getElem?_getD, List.getElem?_eq_getElem hj', Option.getD_some, hj]

theorem first_of (P : Nat → Prop) (m : Nat) : (∀ j, j < m → P j) ∨ ∃ i, i < m ∧ ¬ P i ∧ ∀ j, j < i → P j := by
  induction m with
  | zero => exact .inl (fun j hj => absurd hj (Nat.not_lt_zero _))
  | succ m ih =>
    rcases ih with h | ⟨i, hi, h1, h2⟩
    · by_cases hp : P m
      · refine .inl (fun j hj => ?_)
        by_cases e : j = m
        · subst e; exact hp
        · exact h j (by omega)
      · exact .inr ⟨m, Nat.lt_succ_self _, hp, h⟩
    · exact .inr ⟨i, by omega, h1, h2⟩

theorem has_nil (k : IntKind) (w : World) : Has k w none 0 [] := ⟨rfl, by simp, .inl rfl⟩

/-- bytes put behind nothing: a row of the call's own -/
theorem copy_law {w : World} {ops : Array Oper} {rest : List Oper} {o : Oper} {a : Act} {Q : Exit → Act → World → Prop} (hgd : o.guard = none) (s x : Operand)
    (ho : o.op = .call { callee := .builtin .append, args := #[s, x], argTypes := #[40, 40] }) (hs : a.eval s = .slice none 0 0) (ad : Option Addr) (m c : Nat) (zs : List Int) (hx : a.eval x = .slice ad m c)
    (hn : ad = none → m = 0 ∧ c = 0) (hz : Has .u8 w ad m zs) (hsmall : m ≤ 10000000)
    (h : ∀ v' w', w'.ownsRow w.heap.size 5 1 v' m (BB zs) → Below w.heap.size w w' → wpList Tryz.prog ops Q rest (a.put o.dst v') w') : wpList Tryz.prog ops Q (o :: rest) a w := by
  obtain ⟨i0, hi, hz0, hz1, hz2⟩ := info_parts Tryz.info5
  cases ad with
  | none =>
    obtain ⟨rfl, rfl⟩ := hn rfl
    have e : zs = [] := List.eq_nil_of_length_eq_zero hz.1
    subst e
    exact wpList_append_own_none hgd s x 40 ho w.heap.size 5 i0 1 Tryz.underlying40 hi (.slice none 0 0) 0 [] hs (World.ownsRow_nil _ _ _ _) hx (h _ _ (World.ownsRow_nil _ _ _ _) (Below.refl _ _))
  | some ad =>
    refine wpList_append_own w hgd s x 40 ho w.heap.size 5 i0 (.int .u8 0) 1 1 Tryz.underlying40 hi hz0 hz1 hz2 rfl (by decide) (.slice none 0 0) 0 [] hs (World.ownsRow_nil _ _ _ _) ad m c (BB zs) hx (by have := hz.1; simp [BB]; omega) (has_cells hz) (bb_one zs) (by unfold maxLen; omega) (by omega) (Nat.le_refl _) ?_
    intro v' w' h1 h2 _
    rw [Nat.zero_add, List.nil_append] at h1
    exact h v' w' h1 ((Below.refl _ _).grown h2 (Nat.le_refl _) (by intro k hk; simp [Value.ownBlock] at hk))

theorem owns_below {w w' : World} {base : Nat} {e : TypeId} {size : Nat} {v : Value} {n : Nat} {xs : List Value} (h : w.ownsRow base e size v n xs) (hb : Below w.heap.size w w') : w'.ownsRow base e size v n xs := by
  refine ⟨h.1, ?_⟩
  rcases h.2 with h2 | ⟨g, cap, cur, hv, hg, hh, r⟩
  · exact .inl h2
  · exact .inr ⟨g, cap, cur, hv, hg, by rw [hb.block g (Array.getElem?_eq_some_iff.1 hh).1]; exact hh, r⟩

theorem hid {p : Prop} (h : p) : Hid p := h

/-- bytes put behind bytes of a row of the call's own -/
theorem more_law {w : World} {ops : Array Oper} {rest : List Oper} {o : Oper} {a : Act} {Q : Exit → Act → World → Prop} (hgd : o.guard = none) (s x : Operand)
    (ho : o.op = .call { callee := .builtin .append, args := #[s, x], argTypes := #[40, 40] }) (base : Nat) (vs : Value) (n : Nat) (ys : List Int) (hs : a.eval s = vs) (hown : w.ownsRow base 5 1 vs n (BB ys)) (hbase : base ≤ w.heap.size)
    (ad : Option Addr) (m c : Nat) (zs : List Int) (hx : a.eval x = .slice ad m c)
    (hn : ad = none → m = 0 ∧ c = 0) (hz : Has .u8 w ad m zs) (hsmall : n + m ≤ 10000000)
    (h : ∀ v' w', w'.ownsRow base 5 1 v' (n + m) (BB (ys ++ zs)) → w.grownBy w' vs.ownBlock → wpList Tryz.prog ops Q rest (a.put o.dst v') w') : wpList Tryz.prog ops Q (o :: rest) a w := by
  obtain ⟨i0, hi, hz0, hz1, hz2⟩ := info_parts Tryz.info5
  have eB : BB (ys ++ zs) = BB ys ++ BB zs := by simp [BB]
  cases ad with
  | none =>
    obtain ⟨rfl, rfl⟩ := hn rfl
    have e : zs = [] := List.eq_nil_of_length_eq_zero hz.1
    subst e
    rw [List.append_nil] at h
    exact wpList_append_own_none hgd s x 40 ho base 5 i0 1 Tryz.underlying40 hi vs n (BB ys) hs hown hx (h _ _ hown (World.grownBy.refl _ _))
  | some ad =>
    refine wpList_append_own w hgd s x 40 ho base 5 i0 (.int .u8 0) 1 1 Tryz.underlying40 hi hz0 hz1 hz2 rfl (by decide) vs n (BB ys) hs hown ad m c (BB zs) hx (by have := hz.1; simp [BB]; omega) (has_cells hz) (bb_one zs) (by unfold maxLen; omega) (by omega) hbase ?_
    intro v' w' h1 h2 _
    rw [← eB] at h1
    exact h v' w' h1 h2
end Go.Proofs.YtajelgjbgehahaaGreat

namespace Go.Proofs.YtajelgjbgehahaaGreat
open Go.RowKit

/-- a slice -/
structure QSl where
  a : Option Addr
  n : Nat
  c : Nat

def QSl.nil0 (s : QSl) : Prop := s.a = none → s.n = 0 ∧ s.c = 0

def CI (w : World) (g o : Nat) (n : Int) : Prop := w.cell? ⟨g, o, none⟩ = some (.int .i64 n) ∧ (Lit.int .i64 n).wf = true
def CU (w : World) (g o : Nat) (n : Int) : Prop := w.cell? ⟨g, o, none⟩ = some (.int .u64 n) ∧ (Lit.int .u64 n).wf = true
def CS (w : World) (g o : Nat) (s : QSl) : Prop := w.cell? ⟨g, o, none⟩ = some (.slice s.a s.n s.c) ∧ s.nil0

theorem cell_keep {w w' : World} {g o : Nat} {v : Value} (h : w.cell? ⟨g, o, none⟩ = some v) (b : Below w.heap.size w w') : w'.cell? ⟨g, o, none⟩ = some v :=
  (b.cell (p := ⟨g, o, none⟩) (World.block_lt_of_cell? w _ h)).trans h

theorem CI.step {w w' : World} {g o : Nat} {n : Int} (h : CI w g o n) (b : Below w.heap.size w w') : CI w' g o n := ⟨cell_keep h.1 b, h.2⟩
theorem CU.step {w w' : World} {g o : Nat} {n : Int} (h : CU w g o n) (b : Below w.heap.size w w') : CU w' g o n := ⟨cell_keep h.1 b, h.2⟩
theorem CS.step {w w' : World} {g o : Nat} {s : QSl} (h : CS w g o s) (b : Below w.heap.size w w') : CS w' g o s := ⟨cell_keep h.1 b, h.2⟩

/-- a list whose elements have k cells each -/
def QRow {α : Type} (k : Nat) (P : α → World → Nat → Nat → Prop) (w : World) (s : QSl) (S : List α) : Prop :=
  S.length = s.n ∧ ∀ (i : Nat) (d : α), S[i]? = some d → ∃ g off, s.a = some ⟨g, off, none⟩ ∧ P d w g (off + i * k)

/-- what stays while nothing old turns -/
def Keeps {α : Type} (P : α → World → Nat → Nat → Prop) : Prop := ∀ {d : α} {w w' : World} {g o : Nat}, P d w g o → Below w.heap.size w w' → P d w' g o

theorem QRow.step {α : Type} {k : Nat} {P : α → World → Nat → Nat → Prop} {w w' : World} {s : QSl} {S : List α} (h : QRow k P w s S) (hP : Keeps P) (b : Below w.heap.size w w') : QRow k P w' s S :=
  ⟨h.1, fun i d hd => by obtain ⟨g, off, e, hp⟩ := h.2 i d hd; exact ⟨g, off, e, hP hp b⟩⟩

structure RefD where
  h : Int
  f : Int
def RefD.lie (d : RefD) (w : World) (g o : Nat) : Prop := CI w g o d.h ∧ CI w g (o + 1) d.f
theorem RefD.keeps : Keeps RefD.lie := fun h b => ⟨h.1.step b, h.2.step b⟩

structure PushD where
  op : Int
  r : RefD
  n : Int
def PushD.lie (d : PushD) (w : World) (g o : Nat) : Prop := CI w g o d.op ∧ CI w g (o + 1) d.r.h ∧ CI w g (o + 2) d.r.f ∧ CU w g (o + 3) d.n
theorem PushD.keeps : Keeps PushD.lie := fun h b => ⟨h.1.step b, h.2.1.step b, h.2.2.1.step b, h.2.2.2.step b⟩

structure CaseD where
  value : Int
  mask : Int
  to : Int
def CaseD.lie (d : CaseD) (w : World) (g o : Nat) : Prop := CU w g o d.value ∧ CU w g (o + 1) d.mask ∧ CI w g (o + 2) d.to
theorem CaseD.keeps : Keeps CaseD.lie := fun h b => ⟨h.1.step b, h.2.1.step b, h.2.2.step b⟩

structure HeadD where
  w : QSl
  ws : List Int
def HeadD.lie (d : HeadD) (w : World) (g o : Nat) : Prop := CS w g o d.w ∧ Has .i64 w d.w.a d.w.n d.ws
@[reducible] def HeadD.z : HeadD := ⟨⟨none, 0, 0⟩, []⟩
theorem HeadD.keeps : Keeps HeadD.lie := fun h b => ⟨h.1.step b, h.2.step b⟩

structure StateD where
  head : Int
  r : RefD
  cases : QSl
  cs : List CaseD
  els : Int
def StateD.lie (d : StateD) (w : World) (g o : Nat) : Prop := CI w g o d.head ∧ CI w g (o + 1) d.r.h ∧ CI w g (o + 2) d.r.f ∧ CS w g (o + 3) d.cases ∧ CI w g (o + 4) d.els ∧ QRow 3 CaseD.lie w d.cases d.cs
theorem StateD.keeps : Keeps StateD.lie := fun h b => ⟨h.1.step b, h.2.1.step b, h.2.2.1.step b, h.2.2.2.1.step b, h.2.2.2.2.1.step b, h.2.2.2.2.2.step CaseD.keeps b⟩

structure OpD where
  kind : Int
  r : RefD
  head : Int
  e : QSl
  es : List PushD
def OpD.lie (d : OpD) (w : World) (g o : Nat) : Prop := CI w g o d.kind ∧ CI w g (o + 1) d.r.h ∧ CI w g (o + 2) d.r.f ∧ CI w g (o + 3) d.head ∧ CS w g (o + 4) d.e ∧ QRow 4 PushD.lie w d.e d.es
theorem OpD.keeps : Keeps OpD.lie := fun h b => ⟨h.1.step b, h.2.1.step b, h.2.2.1.step b, h.2.2.2.1.step b, h.2.2.2.2.1.step b, h.2.2.2.2.2.step PushD.keeps b⟩

structure ActD where
  w : QSl
  ws : List Int
  ops : QSl
  os : List OpD
def ActD.lie (d : ActD) (w : World) (g o : Nat) : Prop := CS w g o d.w ∧ CS w g (o + 1) d.ops ∧ Has .i64 w d.w.a d.w.n d.ws ∧ QRow 5 OpD.lie w d.ops d.os
@[reducible] def ActD.z : ActD := ⟨⟨none, 0, 0⟩, [], ⟨none, 0, 0⟩, []⟩
theorem ActD.keeps : Keeps ActD.lie := fun h b => ⟨h.1.step b, h.2.1.step b, h.2.2.1.step b, h.2.2.2.step OpD.keeps b⟩

structure TabD where
  kind : Int
  keys : QSl
  ks : List RefD
  acts : QSl
  al : List Int
  cap : Int
  dflt : Int
  args : QSl
  zs : List Int
def TabD.lie (d : TabD) (w : World) (g o : Nat) : Prop := CI w g o d.kind ∧ CS w g (o + 1) d.keys ∧ CS w g (o + 2) d.acts ∧ CI w g (o + 3) d.cap ∧ CI w g (o + 4) d.dflt ∧ CS w g (o + 5) d.args ∧
  QRow 2 RefD.lie w d.keys d.ks ∧ Has .i64 w d.acts.a d.acts.n d.al ∧ Has .u64 w d.args.a d.args.n d.zs
theorem TabD.keeps : Keeps TabD.lie := fun h b => ⟨h.1.step b, h.2.1.step b, h.2.2.1.step b, h.2.2.2.1.step b, h.2.2.2.2.1.step b, h.2.2.2.2.2.1.step b, h.2.2.2.2.2.2.1.step RefD.keeps b, h.2.2.2.2.2.2.2.1.step b, h.2.2.2.2.2.2.2.2.step b⟩

structure NodeD where
  kind : Int
  n : Int
  e : QSl
  es : List PushD
  yes : Int
  no : Int
def NodeD.lie (d : NodeD) (w : World) (g o : Nat) : Prop := CI w g o d.kind ∧ CI w g (o + 1) d.n ∧ CS w g (o + 2) d.e ∧ CI w g (o + 3) d.yes ∧ CI w g (o + 4) d.no ∧ QRow 4 PushD.lie w d.e d.es
theorem NodeD.keeps : Keeps NodeD.lie := fun h b => ⟨h.1.step b, h.2.1.step b, h.2.2.1.step b, h.2.2.2.1.step b, h.2.2.2.2.1.step b, h.2.2.2.2.2.step PushD.keeps b⟩

structure PlanD where
  heads : QSl
  hs : List HeadD
  mta : QSl
  ms : List Int
  states : QSl
  ss : List StateD
  acts : QSl
  al : List ActD
  tabs : QSl
  ts : List TabD
  nodes : QSl
  ns : List NodeD
  out : QSl
  os : List Int

structure PlanD.lie (d : PlanD) (w : World) : Prop where
  hs : QRow 1 HeadD.lie w d.heads d.hs
  ms : Has .i64 w d.mta.a d.mta.n d.ms
  ss : QRow 5 StateD.lie w d.states d.ss
  al : QRow 2 ActD.lie w d.acts d.al
  ts : QRow 6 TabD.lie w d.tabs d.ts
  ns : QRow 5 NodeD.lie w d.nodes d.ns
  os : Has .i64 w d.out.a d.out.n d.os
  oc : d.out.n ≤ d.out.c

structure PlanD.nil0 (d : PlanD) : Prop where
  hs : d.heads.nil0
  ms : d.mta.nil0
  ss : d.states.nil0
  al : d.acts.nil0
  ts : d.tabs.nil0
  ns : d.nodes.nil0
  os : d.out.nil0

theorem PlanD.lie.step {d : PlanD} {w w' : World} (h : d.lie w) (b : Below w.heap.size w w') : d.lie w' :=
  ⟨h.hs.step HeadD.keeps b, h.ms.step b, h.ss.step StateD.keeps b, h.al.step ActD.keeps b, h.ts.step TabD.keeps b, h.ns.step NodeD.keeps b, h.os.step b, h.oc⟩

/-- the value of a plan -/
@[reducible] def PlanD.v (d : PlanD) : Value := .agg #[.slice d.heads.a d.heads.n d.heads.c, .slice d.mta.a d.mta.n d.mta.c, .slice d.states.a d.states.n d.states.c, .slice d.acts.a d.acts.n d.acts.c, .slice d.tabs.a d.tabs.n d.tabs.c, .slice d.nodes.a d.nodes.n d.nodes.c, .slice d.out.a d.out.n d.out.c]
end Go.Proofs.YtajelgjbgehahaaGreat

namespace Go.Proofs.YtajelgjbgehahaaGreat
open Go.RowKit

/-- it is nil; or it leads to a row of 'cap' cells, the numbers zs, each fitting its kind -/
def IsRow (k : IntKind) (w : World) (a : Option Addr) (len cap : Nat) (zs : List Int) : Prop :=
  (a = none ∧ len = 0 ∧ cap = 0 ∧ zs = []) ∨
  ∃ x, a = some x ∧ len ≤ cap ∧ cap ≤ maxLen ∧ zs.length = cap ∧ (∀ i, i < zs.length → w.cell? (x.add i) = some (.int k (zs.getD i 0))) ∧ ∀ n ∈ zs, (Lit.int k n).wf = true

theorem IsRow.has {k : IntKind} {w : World} {a : Option Addr} {len cap : Nat} {zs : List Int} (h : IsRow k w a len cap zs) : Has k w a len (zs.take len) := by
  rcases h with ⟨rfl, rfl, rfl, rfl⟩ | ⟨x, rfl, hl, hm, hz, hcell, hwz⟩
  · exact ⟨rfl, by simp, .inl rfl⟩
  · refine ⟨by rw [List.length_take]; omega, fun n hn => hwz n (List.mem_of_mem_take hn), ?_⟩
    by_cases h0 : len = 0
    · subst h0; exact .inl (by simp)
    · obtain ⟨b, off, spot⟩ := x
      have hc := hcell 0 (by omega)
      have hspot : spot = none := by simpa [Addr.add] using World.cell?_spot hc
      subst hspot
      have hlt := World.block_lt_of_cell? w _ hc
      rw [Addr.add_lit] at hlt
      refine .inr ⟨b, off, rfl, hlt, fun i hi => ?_⟩
      have := hcell i (by omega)
      rw [Addr.add_lit] at this
      rw [this]
      simp only [List.getD_eq_getElem?_getD, List.getElem?_take, if_pos hi]

end Go.Proofs.YtajelgjbgehahaaGreat

namespace Go.Proofs.YtajelgjbgehahaaGreat
open Go.RowKit Go.Maps Go.ChangeShapes Go.WideShapes Go.ChangeAt Go.Deep

theorem Tryz.qcInt : Tryz.prog.cellsOf 3 = 1 := by kernel_rfl
theorem Tryz.qcNum : Tryz.prog.cellsOf 22 = 1 := by kernel_rfl
theorem Tryz.qcRef : Tryz.prog.cellsOf 61 = 2 := by kernel_rfl
theorem Tryz.qcPush : Tryz.prog.cellsOf 68 = 4 := by kernel_rfl
theorem Tryz.qcCase : Tryz.prog.cellsOf 137 = 3 := by kernel_rfl
theorem Tryz.qcHead : Tryz.prog.cellsOf 63 = 1 := by kernel_rfl
theorem Tryz.qcState : Tryz.prog.cellsOf 66 = 5 := by kernel_rfl
theorem Tryz.qcOp : Tryz.prog.cellsOf 71 = 5 := by kernel_rfl
theorem Tryz.qcAct : Tryz.prog.cellsOf 74 = 2 := by kernel_rfl
theorem Tryz.qcTab : Tryz.prog.cellsOf 55 = 6 := by kernel_rfl
theorem Tryz.qcNode : Tryz.prog.cellsOf 76 = 5 := by kernel_rfl
theorem Tryz.qcPlan : Tryz.prog.cellsOf 38 = 7 := by kernel_rfl
theorem Tryz.qcInts : Tryz.prog.cellsOf 32 = 1 := by kernel_rfl
theorem Tryz.qcNums : Tryz.prog.cellsOf 53 = 1 := by kernel_rfl
theorem Tryz.qcRefs : Tryz.prog.cellsOf 52 = 1 := by kernel_rfl
theorem Tryz.qcPushs : Tryz.prog.cellsOf 69 = 1 := by kernel_rfl
theorem Tryz.qcCases : Tryz.prog.cellsOf 64 = 1 := by kernel_rfl
theorem Tryz.qcHeads : Tryz.prog.cellsOf 31 = 1 := by kernel_rfl
theorem Tryz.qcStates : Tryz.prog.cellsOf 33 = 1 := by kernel_rfl
theorem Tryz.qcOps : Tryz.prog.cellsOf 72 = 1 := by kernel_rfl
theorem Tryz.qcActs : Tryz.prog.cellsOf 34 = 1 := by kernel_rfl
theorem Tryz.qcTabs : Tryz.prog.cellsOf 35 = 1 := by kernel_rfl
theorem Tryz.qcNodes : Tryz.prog.cellsOf 36 = 1 := by kernel_rfl

variable {H : Type} {enc : TypeId × Value → H} {W : World} {base : Nat} {held : Bool}

theorem qopen_num {fuel : Nat} {v : Value} {x : DataW H × List MemPlace} (h : DataW.trod enc Tryz.prog W base (fun _ => true) held fuel 3 [v] = some x) : ∃ n, v = .int .i64 n ∧ (Lit.int .i64 n).wf = true := by
  obtain ⟨n, hcs, _, hw⟩ := DataW.trod_int Tryz.underlying3 h
  exact ⟨n, by simpa using hcs, hw⟩

theorem qopen_unum {fuel : Nat} {v : Value} {x : DataW H × List MemPlace} (h : DataW.trod enc Tryz.prog W base (fun _ => true) held fuel 22 [v] = some x) : ∃ n, v = .int .u64 n ∧ (Lit.int .u64 n).wf = true := by
  obtain ⟨n, hcs, _, hw⟩ := DataW.trod_int Tryz.underlying22 h
  exact ⟨n, by simpa using hcs, hw⟩

theorem qopen_ints {fuel : Nat} {v : Value} {x : DataW H × List MemPlace} (h : DataW.trod enc Tryz.prog W base (fun _ => true) held fuel 32 [v] = some x) : ∃ s : QSl, ∃ zs, v = .slice s.a s.n s.c ∧ s.nil0 ∧ Has .i64 W s.a s.n zs := by
  rcases open_ints Tryz.underlying32 Tryz.underlying3 (by kernel_rfl) h with ⟨hcs, _⟩ | ⟨y, l, c, zs, hcs, _, hl, hm, hz, _, hcell, hwz⟩
  · have e : v = .slice none 0 0 := by simpa using hcs
    exact ⟨⟨none, 0, 0⟩, [], e, fun _ => ⟨rfl, rfl⟩, has_nil _ _⟩
  · have e : v = .slice (some y) l c := by simpa using hcs
    have hr : IsRow .i64 W (some y) l c zs := .inr ⟨_, rfl, hl, hm, by simpa using hz, hcell, hwz⟩
    exact ⟨⟨some y, l, c⟩, zs.take l, e, by simp [QSl.nil0], hr.has⟩

theorem qopen_intsc {fuel : Nat} {v : Value} {x : DataW H × List MemPlace} (h : DataW.trod enc Tryz.prog W base (fun _ => true) held fuel 32 [v] = some x) : ∃ s : QSl, ∃ zs, v = .slice s.a s.n s.c ∧ s.nil0 ∧ Has .i64 W s.a s.n zs ∧ s.n ≤ s.c := by
  rcases open_ints Tryz.underlying32 Tryz.underlying3 (by kernel_rfl) h with ⟨hcs, _⟩ | ⟨y, l, c, zs, hcs, _, hl, hm, hz, _, hcell, hwz⟩
  · have e : v = .slice none 0 0 := by simpa using hcs
    exact ⟨⟨none, 0, 0⟩, [], e, fun _ => ⟨rfl, rfl⟩, has_nil _ _, Nat.le_refl _⟩
  · have e : v = .slice (some y) l c := by simpa using hcs
    have hr : IsRow .i64 W (some y) l c zs := .inr ⟨_, rfl, hl, hm, by simpa using hz, hcell, hwz⟩
    exact ⟨⟨some y, l, c⟩, zs.take l, e, by simp [QSl.nil0], hr.has, hl⟩

theorem qopen_nums {fuel : Nat} {v : Value} {x : DataW H × List MemPlace} (h : DataW.trod enc Tryz.prog W base (fun _ => true) held fuel 53 [v] = some x) : ∃ s : QSl, ∃ zs, v = .slice s.a s.n s.c ∧ s.nil0 ∧ Has .u64 W s.a s.n zs := by
  rcases open_ints Tryz.underlying53 Tryz.underlying22 (by kernel_rfl) h with ⟨hcs, _⟩ | ⟨y, l, c, zs, hcs, _, hl, hm, hz, _, hcell, hwz⟩
  · have e : v = .slice none 0 0 := by simpa using hcs
    exact ⟨⟨none, 0, 0⟩, [], e, fun _ => ⟨rfl, rfl⟩, has_nil _ _⟩
  · have e : v = .slice (some y) l c := by simpa using hcs
    have hr : IsRow .u64 W (some y) l c zs := .inr ⟨_, rfl, hl, hm, by simpa using hz, hcell, hwz⟩
    exact ⟨⟨some y, l, c⟩, zs.take l, e, by simp [QSl.nil0], hr.has⟩

/-- a list of things of k cells, each of which opens -/
theorem qopen_row {α : Type} {T E : TypeId} {k : Nat} {P : α → World → Nat → Nat → Prop} (hT : Tryz.prog.underlying T = some (.slice E)) (hk : Tryz.prog.cellsOf E = k) (k0 : 0 < k)
    (hP : ∀ {fuel g o : Nat} {cs : List Value} {x : DataW H × List MemPlace}, cs.length = k → (∀ i, i < k → W.cell? ⟨g, o + i, none⟩ = cs[i]?) → DataW.trod enc Tryz.prog W base (fun _ => true) held fuel E cs = some x → ∃ d : α, P d W g o)
    {fuel : Nat} {v : Value} {x : DataW H × List MemPlace} (h : DataW.trod enc Tryz.prog W base (fun _ => true) held fuel T [v] = some x) : ∃ s : QSl, ∃ S, v = .slice s.a s.n s.c ∧ s.nil0 ∧ QRow k P W s S := by
  rcases open_slice hT h with ⟨hcs, _⟩ | ⟨y, n, cap, m, k', D, Pl, hcs, _, hl, _, hm, _, hel⟩
  · have e : v = .slice none 0 0 := by simpa using hcs
    exact ⟨⟨none, 0, 0⟩, [], e, fun _ => ⟨rfl, rfl⟩, rfl, by simp⟩
  · have e : v = .slice (some y) n cap := by simpa using hcs
    simp only [if_true] at hm
    have key : ∀ i, i < n → ∃ d : α, ∃ g off, y = ⟨g, off, none⟩ ∧ P d W g (off + i * k) := by
      intro i hi
      obtain ⟨cs', hcells, htr⟩ := hel i (by omega)
      rw [hk] at hcells
      obtain ⟨_, hlen, hget⟩ := World.cells?_some hcells
      obtain ⟨cs0, hcells0, _⟩ := hel 0 (by omega)
      rw [hk] at hcells0
      obtain ⟨_, hlen0, hget0⟩ := World.cells?_some hcells0
      obtain ⟨g, off, spot⟩ := y
      have h0 := hget0 0 (by omega)
      rw [List.getElem?_eq_getElem (by omega)] at h0
      have hspot : spot = none := by simpa [Addr.add] using World.cell?_spot h0
      subst hspot
      obtain ⟨d, h1⟩ := hP (g := g) (o := off + i * k) (by simpa using hlen) (fun j hj => by
        have := hget j (by omega)
        rw [Addr.add_lit, Addr.add_lit] at this
        exact this) htr
      exact ⟨d, g, off, rfl, h1⟩
    by_cases h0 : n = 0
    · subst h0
      exact ⟨⟨some y, 0, cap⟩, [], e, by simp [QSl.nil0], rfl, by simp⟩
    obtain ⟨d0, _⟩ := key 0 (by omega)
    haveI : Inhabited α := ⟨d0⟩
    obtain ⟨f, hf⟩ := choose_lt key
    refine ⟨⟨some y, n, cap⟩, (List.range n).map f, e, by simp [QSl.nil0], by simp, fun i d hd => ?_⟩
    simp only [List.getElem?_map, Option.map_eq_some_iff] at hd
    obtain ⟨j, hj, rfl⟩ := hd
    have hi : i < n := by
      have := (List.getElem?_eq_some_iff.1 hj).1
      simpa using this
    rw [List.getElem?_range hi] at hj
    have e : i = j := by simpa using hj
    subst e
    obtain ⟨g, off, e, r⟩ := hf i hi
    exact ⟨g, off, by rw [e], r⟩


theorem q1 {α : Type} {l : List α} (h : l.length = 1) : ∃ a, l = [a] := by
  match l, h with
  | [a], _ => exact ⟨a, rfl⟩
theorem q2 {α : Type} {l : List α} (h : l.length = 2) : ∃ a b, l = [a, b] := by
  match l, h with
  | [a, b], _ => exact ⟨a, b, rfl⟩
theorem q3 {α : Type} {l : List α} (h : l.length = 3) : ∃ a b c, l = [a, b, c] := by
  match l, h with
  | [a, b, c], _ => exact ⟨a, b, c, rfl⟩
theorem q4 {α : Type} {l : List α} (h : l.length = 4) : ∃ a b c d, l = [a, b, c, d] := by
  match l, h with
  | [a, b, c, d], _ => exact ⟨a, b, c, d, rfl⟩
theorem q5 {α : Type} {l : List α} (h : l.length = 5) : ∃ a b c d e, l = [a, b, c, d, e] := by
  match l, h with
  | [a, b, c, d, e], _ => exact ⟨a, b, c, d, e, rfl⟩
theorem q6 {α : Type} {l : List α} (h : l.length = 6) : ∃ a b c d e f, l = [a, b, c, d, e, f] := by
  match l, h with
  | [a, b, c, d, e, f], _ => exact ⟨a, b, c, d, e, f, rfl⟩
theorem q7 {α : Type} {l : List α} (h : l.length = 7) : ∃ a b c d e f g, l = [a, b, c, d, e, f, g] := by
  match l, h with
  | [a, b, c, d, e, f, g], _ => exact ⟨a, b, c, d, e, f, g, rfl⟩

theorem qopen_ref {fuel : Nat} {v0 v1 : Value} {x : DataW H × List MemPlace} (h : DataW.trod enc Tryz.prog W base (fun _ => true) held fuel 61 [v0, v1] = some x) : ∃ d : RefD, v0 = .int .i64 d.h ∧ v1 = .int .i64 d.f ∧ (Lit.int .i64 d.h).wf = true ∧ (Lit.int .i64 d.f).wf = true := by
  obtain ⟨y0, y1, n, _, hl, h0, h1⟩ := trod_struct2 Tryz.underlying61 h
  simp only [Tryz.qcInt, List.drop_zero, List.take_succ_cons, List.take_zero] at h0
  simp only [Tryz.qcInt, List.drop_succ_cons, List.drop_zero, List.take_succ_cons, List.take_zero] at h1
  obtain ⟨a, rfl, ha⟩ := qopen_num h0
  obtain ⟨b, rfl, hb⟩ := qopen_num h1
  exact ⟨⟨a, b⟩, rfl, rfl, ha, hb⟩

theorem qlie_ref {fuel g o : Nat} {cs : List Value} {x : DataW H × List MemPlace} (hl : cs.length = 2) (hc : ∀ i, i < 2 → W.cell? ⟨g, o + i, none⟩ = cs[i]?) (h : DataW.trod enc Tryz.prog W base (fun _ => true) held fuel 61 cs = some x) : ∃ d : RefD, d.lie W g o := by
  obtain ⟨v0, v1, rfl⟩ := q2 hl
  obtain ⟨d, rfl, rfl, h1, h2⟩ := qopen_ref h
  exact ⟨d, ⟨hc 0 (by omega), h1⟩, ⟨hc 1 (by omega), h2⟩⟩

theorem qlie_push {fuel g o : Nat} {cs : List Value} {x : DataW H × List MemPlace} (hl : cs.length = 4) (hc : ∀ i, i < 4 → W.cell? ⟨g, o + i, none⟩ = cs[i]?) (h : DataW.trod enc Tryz.prog W base (fun _ => true) held fuel 68 cs = some x) : ∃ d : PushD, d.lie W g o := by
  obtain ⟨v0, v1, v2, v3, rfl⟩ := q4 hl
  obtain ⟨xs, m, _, _, _, hxl, hf⟩ := DataW.trod_struct Tryz.underlying68 h
  have f0 := hf 0 _ rfl
  have f1 := hf 1 _ rfl
  have f2 := hf 2 _ rfl
  have hxl3 : xs.length = 3 := hxl
  rw [List.getElem?_eq_getElem (by omega)] at f0 f1 f2
  simp only [List.getElem_toArray, List.getElem_cons_zero, List.getElem_cons_succ, Tryz.qcInt, Tryz.qcRef, Tryz.qcNum, List.drop_succ_cons, List.drop_zero, List.take_succ_cons, List.take_zero] at f0 f1 f2
  obtain ⟨a, rfl, ha⟩ := qopen_num f0
  obtain ⟨r, rfl, rfl, hr1, hr2⟩ := qopen_ref f1
  obtain ⟨n, rfl, hn⟩ := qopen_unum f2
  exact ⟨⟨a, r, n⟩, ⟨hc 0 (by omega), ha⟩, ⟨hc 1 (by omega), hr1⟩, ⟨hc 2 (by omega), hr2⟩, ⟨hc 3 (by omega), hn⟩⟩

theorem qlie_case {fuel g o : Nat} {cs : List Value} {x : DataW H × List MemPlace} (hl : cs.length = 3) (hc : ∀ i, i < 3 → W.cell? ⟨g, o + i, none⟩ = cs[i]?) (h : DataW.trod enc Tryz.prog W base (fun _ => true) held fuel 137 cs = some x) : ∃ d : CaseD, d.lie W g o := by
  obtain ⟨v0, v1, v2, rfl⟩ := q3 hl
  obtain ⟨xs, m, _, _, _, hxl, hf⟩ := DataW.trod_struct Tryz.underlying137 h
  have f0 := hf 0 _ rfl
  have f1 := hf 1 _ rfl
  have f2 := hf 2 _ rfl
  have hxl3 : xs.length = 3 := hxl
  rw [List.getElem?_eq_getElem (by omega)] at f0 f1 f2
  simp only [List.getElem_toArray, List.getElem_cons_zero, List.getElem_cons_succ, Tryz.qcInt, Tryz.qcNum, List.drop_succ_cons, List.drop_zero, List.take_succ_cons, List.take_zero] at f0 f1 f2
  obtain ⟨a, rfl, ha⟩ := qopen_unum f0
  obtain ⟨b, rfl, hb⟩ := qopen_unum f1
  obtain ⟨n, rfl, hn⟩ := qopen_num f2
  exact ⟨⟨a, b, n⟩, ⟨hc 0 (by omega), ha⟩, ⟨hc 1 (by omega), hb⟩, ⟨hc 2 (by omega), hn⟩⟩

theorem qlie_head {fuel g o : Nat} {cs : List Value} {x : DataW H × List MemPlace} (hl : cs.length = 1) (hc : ∀ i, i < 1 → W.cell? ⟨g, o + i, none⟩ = cs[i]?) (h : DataW.trod enc Tryz.prog W base (fun _ => true) held fuel 63 cs = some x) : ∃ d : HeadD, d.lie W g o := by
  obtain ⟨v0, rfl⟩ := q1 hl
  obtain ⟨xs, m, _, _, _, hxl, hf⟩ := DataW.trod_struct Tryz.underlying63 h
  have f0 := hf 0 _ rfl
  have hxl3 : xs.length = 1 := hxl
  rw [List.getElem?_eq_getElem (by omega)] at f0
  simp only [List.getElem_toArray, List.getElem_cons_zero, Tryz.qcInts, List.drop_zero, List.take_succ_cons, List.take_zero] at f0
  obtain ⟨s, zs, rfl, hs, hz⟩ := qopen_ints f0
  exact ⟨⟨s, zs⟩, ⟨hc 0 (by omega), hs⟩, hz⟩

theorem qlie_state {fuel g o : Nat} {cs : List Value} {x : DataW H × List MemPlace} (hl : cs.length = 5) (hc : ∀ i, i < 5 → W.cell? ⟨g, o + i, none⟩ = cs[i]?) (h : DataW.trod enc Tryz.prog W base (fun _ => true) held fuel 66 cs = some x) : ∃ d : StateD, d.lie W g o := by
  obtain ⟨v0, v1, v2, v3, v4, rfl⟩ := q5 hl
  obtain ⟨xs, m, _, _, _, hxl, hf⟩ := DataW.trod_struct Tryz.underlying66 h
  have f0 := hf 0 _ rfl
  have f1 := hf 1 _ rfl
  have f2 := hf 2 _ rfl
  have f3 := hf 3 _ rfl
  have hxl3 : xs.length = 4 := hxl
  rw [List.getElem?_eq_getElem (by omega)] at f0 f1 f2 f3
  simp only [List.getElem_toArray, List.getElem_cons_zero, List.getElem_cons_succ, Tryz.qcInt, Tryz.qcRef, Tryz.qcCases, List.drop_succ_cons, List.drop_zero, List.take_succ_cons, List.take_zero] at f0 f1 f2 f3
  obtain ⟨a, rfl, ha⟩ := qopen_num f0
  obtain ⟨r, rfl, rfl, hr1, hr2⟩ := qopen_ref f1
  obtain ⟨s, S, rfl, hs, hS⟩ := qopen_row Tryz.underlying64 Tryz.qcCase (by omega) (P := CaseD.lie) (fun h1 h2 h3 => qlie_case h1 h2 h3) f2
  obtain ⟨n, rfl, hn⟩ := qopen_num f3
  exact ⟨⟨a, r, s, S, n⟩, ⟨hc 0 (by omega), ha⟩, ⟨hc 1 (by omega), hr1⟩, ⟨hc 2 (by omega), hr2⟩, ⟨hc 3 (by omega), hs⟩, ⟨hc 4 (by omega), hn⟩, hS⟩

theorem qlie_op {fuel g o : Nat} {cs : List Value} {x : DataW H × List MemPlace} (hl : cs.length = 5) (hc : ∀ i, i < 5 → W.cell? ⟨g, o + i, none⟩ = cs[i]?) (h : DataW.trod enc Tryz.prog W base (fun _ => true) held fuel 71 cs = some x) : ∃ d : OpD, d.lie W g o := by
  obtain ⟨v0, v1, v2, v3, v4, rfl⟩ := q5 hl
  obtain ⟨xs, m, _, _, _, hxl, hf⟩ := DataW.trod_struct Tryz.underlying71 h
  have f0 := hf 0 _ rfl
  have f1 := hf 1 _ rfl
  have f2 := hf 2 _ rfl
  have f3 := hf 3 _ rfl
  have hxl3 : xs.length = 4 := hxl
  rw [List.getElem?_eq_getElem (by omega)] at f0 f1 f2 f3
  simp only [List.getElem_toArray, List.getElem_cons_zero, List.getElem_cons_succ, Tryz.qcInt, Tryz.qcRef, Tryz.qcPushs, List.drop_succ_cons, List.drop_zero, List.take_succ_cons, List.take_zero] at f0 f1 f2 f3
  obtain ⟨a, rfl, ha⟩ := qopen_num f0
  obtain ⟨r, rfl, rfl, hr1, hr2⟩ := qopen_ref f1
  obtain ⟨n, rfl, hn⟩ := qopen_num f2
  obtain ⟨s, S, rfl, hs, hS⟩ := qopen_row Tryz.underlying69 Tryz.qcPush (by omega) (P := PushD.lie) (fun h1 h2 h3 => qlie_push h1 h2 h3) f3
  exact ⟨⟨a, r, n, s, S⟩, ⟨hc 0 (by omega), ha⟩, ⟨hc 1 (by omega), hr1⟩, ⟨hc 2 (by omega), hr2⟩, ⟨hc 3 (by omega), hn⟩, ⟨hc 4 (by omega), hs⟩, hS⟩

theorem qlie_act {fuel g o : Nat} {cs : List Value} {x : DataW H × List MemPlace} (hl : cs.length = 2) (hc : ∀ i, i < 2 → W.cell? ⟨g, o + i, none⟩ = cs[i]?) (h : DataW.trod enc Tryz.prog W base (fun _ => true) held fuel 74 cs = some x) : ∃ d : ActD, d.lie W g o := by
  obtain ⟨v0, v1, rfl⟩ := q2 hl
  obtain ⟨xs, m, _, _, _, hxl, hf⟩ := DataW.trod_struct Tryz.underlying74 h
  have f0 := hf 0 _ rfl
  have f1 := hf 1 _ rfl
  have hxl3 : xs.length = 2 := hxl
  rw [List.getElem?_eq_getElem (by omega)] at f0 f1
  simp only [List.getElem_toArray, List.getElem_cons_zero, List.getElem_cons_succ, Tryz.qcInts, Tryz.qcOps, List.drop_succ_cons, List.drop_zero, List.take_succ_cons, List.take_zero] at f0 f1
  obtain ⟨s, zs, rfl, hs, hz⟩ := qopen_ints f0
  obtain ⟨s', S, rfl, hs', hS⟩ := qopen_row Tryz.underlying72 Tryz.qcOp (by omega) (P := OpD.lie) (fun h1 h2 h3 => qlie_op h1 h2 h3) f1
  exact ⟨⟨s, zs, s', S⟩, ⟨hc 0 (by omega), hs⟩, ⟨hc 1 (by omega), hs'⟩, hz, hS⟩

theorem qopen_tab {fuel : Nat} {v0 v1 v2 v3 v4 v5 : Value} {x : DataW H × List MemPlace} (h : DataW.trod enc Tryz.prog W base (fun _ => true) held fuel 55 [v0, v1, v2, v3, v4, v5] = some x) : ∃ d : TabD, v0 = .int .i64 d.kind ∧ v1 = .slice d.keys.a d.keys.n d.keys.c ∧ v2 = .slice d.acts.a d.acts.n d.acts.c ∧ v3 = .int .i64 d.cap ∧ v4 = .int .i64 d.dflt ∧ v5 = .slice d.args.a d.args.n d.args.c ∧
    ((Lit.int .i64 d.kind).wf = true ∧ (Lit.int .i64 d.cap).wf = true ∧ (Lit.int .i64 d.dflt).wf = true ∧ d.keys.nil0 ∧ d.acts.nil0 ∧ d.args.nil0) ∧ QRow 2 RefD.lie W d.keys d.ks ∧ Has .i64 W d.acts.a d.acts.n d.al ∧ Has .u64 W d.args.a d.args.n d.zs := by
  obtain ⟨xs, m, _, _, _, hxl, hf⟩ := DataW.trod_struct Tryz.underlying55 h
  have f0 := hf 0 _ rfl
  have f1 := hf 1 _ rfl
  have f2 := hf 2 _ rfl
  have f3 := hf 3 _ rfl
  have f4 := hf 4 _ rfl
  have f5 := hf 5 _ rfl
  have hxl3 : xs.length = 6 := hxl
  rw [List.getElem?_eq_getElem (by omega)] at f0 f1 f2 f3 f4 f5
  simp only [List.getElem_toArray, List.getElem_cons_zero, List.getElem_cons_succ, Tryz.qcInt, Tryz.qcInts, Tryz.qcNums, Tryz.qcRefs, List.drop_succ_cons, List.drop_zero, List.take_succ_cons, List.take_zero] at f0 f1 f2 f3 f4 f5
  obtain ⟨a, rfl, ha⟩ := qopen_num f0
  obtain ⟨s, S, rfl, hs, hS⟩ := qopen_row Tryz.underlying52 Tryz.qcRef (by omega) (P := RefD.lie) (fun h1 h2 h3 => qlie_ref h1 h2 h3) f1
  obtain ⟨s2, z2, rfl, hs2, hz2⟩ := qopen_ints f2
  obtain ⟨b, rfl, hb⟩ := qopen_num f3
  obtain ⟨c, rfl, hc⟩ := qopen_num f4
  obtain ⟨s5, z5, rfl, hs5, hz5⟩ := qopen_nums f5
  exact ⟨⟨a, s, S, s2, z2, b, c, s5, z5⟩, rfl, rfl, rfl, rfl, rfl, rfl, ⟨ha, hb, hc, hs, hs2, hs5⟩, hS, hz2, hz5⟩

theorem qlie_tab {fuel g o : Nat} {cs : List Value} {x : DataW H × List MemPlace} (hl : cs.length = 6) (hc : ∀ i, i < 6 → W.cell? ⟨g, o + i, none⟩ = cs[i]?) (h : DataW.trod enc Tryz.prog W base (fun _ => true) held fuel 55 cs = some x) : ∃ d : TabD, d.lie W g o := by
  obtain ⟨v0, v1, v2, v3, v4, v5, rfl⟩ := q6 hl
  obtain ⟨d, rfl, rfl, rfl, rfl, rfl, rfl, ⟨e1, e2, e3, e4, e5, e6⟩, h1, h2, h3⟩ := qopen_tab h
  exact ⟨d, ⟨hc 0 (by omega), e1⟩, ⟨hc 1 (by omega), e4⟩, ⟨hc 2 (by omega), e5⟩, ⟨hc 3 (by omega), e2⟩, ⟨hc 4 (by omega), e3⟩, ⟨hc 5 (by omega), e6⟩, h1, h2, h3⟩

theorem qlie_node {fuel g o : Nat} {cs : List Value} {x : DataW H × List MemPlace} (hl : cs.length = 5) (hc : ∀ i, i < 5 → W.cell? ⟨g, o + i, none⟩ = cs[i]?) (h : DataW.trod enc Tryz.prog W base (fun _ => true) held fuel 76 cs = some x) : ∃ d : NodeD, d.lie W g o := by
  obtain ⟨v0, v1, v2, v3, v4, rfl⟩ := q5 hl
  obtain ⟨xs, m, _, _, _, hxl, hf⟩ := DataW.trod_struct Tryz.underlying76 h
  have f0 := hf 0 _ rfl
  have f1 := hf 1 _ rfl
  have f2 := hf 2 _ rfl
  have f3 := hf 3 _ rfl
  have f4 := hf 4 _ rfl
  have hxl3 : xs.length = 5 := hxl
  rw [List.getElem?_eq_getElem (by omega)] at f0 f1 f2 f3 f4
  simp only [List.getElem_toArray, List.getElem_cons_zero, List.getElem_cons_succ, Tryz.qcInt, Tryz.qcPushs, List.drop_succ_cons, List.drop_zero, List.take_succ_cons, List.take_zero] at f0 f1 f2 f3 f4
  obtain ⟨a, rfl, ha⟩ := qopen_num f0
  obtain ⟨b, rfl, hb⟩ := qopen_num f1
  obtain ⟨s, S, rfl, hs, hS⟩ := qopen_row Tryz.underlying69 Tryz.qcPush (by omega) (P := PushD.lie) (fun h1 h2 h3 => qlie_push h1 h2 h3) f2
  obtain ⟨c, rfl, hc'⟩ := qopen_num f3
  obtain ⟨d, rfl, hd⟩ := qopen_num f4
  exact ⟨⟨a, b, s, S, c, d⟩, ⟨hc 0 (by omega), ha⟩, ⟨hc 1 (by omega), hb⟩, ⟨hc 2 (by omega), hs⟩, ⟨hc 3 (by omega), hc'⟩, ⟨hc 4 (by omega), hd⟩, hS⟩

set_option maxRecDepth 20000 in
theorem qopen_plan {fuel : Nat} {cs : List Value} {x : DataW H × List MemPlace} (hl : cs.length = 7) (h : DataW.trod enc Tryz.prog W base (fun _ => true) held fuel 38 cs = some x) : ∃ d : PlanD, Value.agg cs.toArray = d.v ∧ d.nil0 ∧ d.lie W := by
  obtain ⟨v0, v1, v2, v3, v4, v5, v6, rfl⟩ := q7 hl
  obtain ⟨xs, m, _, _, _, hxl, hf⟩ := DataW.trod_struct Tryz.underlying38 h
  have f0 := hf 0 _ rfl
  have f1 := hf 1 _ rfl
  have f2 := hf 2 _ rfl
  have f3 := hf 3 _ rfl
  have f4 := hf 4 _ rfl
  have f5 := hf 5 _ rfl
  have f6 := hf 6 _ rfl
  have hxl3 : xs.length = 7 := hxl
  rw [List.getElem?_eq_getElem (by omega)] at f0 f1 f2 f3 f4 f5 f6
  simp only [List.getElem_toArray, List.getElem_cons_zero, List.getElem_cons_succ, Tryz.qcHeads, Tryz.qcInts, Tryz.qcStates, Tryz.qcActs, Tryz.qcTabs, Tryz.qcNodes, List.drop_succ_cons, List.drop_zero, List.take_succ_cons, List.take_zero] at f0 f1 f2 f3 f4 f5 f6
  obtain ⟨s0, z0, rfl, n0, r0⟩ := qopen_row Tryz.underlying31 Tryz.qcHead (by omega) (P := HeadD.lie) (fun h1 h2 h3 => qlie_head h1 h2 h3) f0
  obtain ⟨s1, z1, rfl, n1, r1⟩ := qopen_ints f1
  obtain ⟨s2, z2, rfl, n2, r2⟩ := qopen_row Tryz.underlying33 Tryz.qcState (by omega) (P := StateD.lie) (fun h1 h2 h3 => qlie_state h1 h2 h3) f2
  obtain ⟨s3, z3, rfl, n3, r3⟩ := qopen_row Tryz.underlying34 Tryz.qcAct (by omega) (P := ActD.lie) (fun h1 h2 h3 => qlie_act h1 h2 h3) f3
  obtain ⟨s4, z4, rfl, n4, r4⟩ := qopen_row Tryz.underlying35 Tryz.qcTab (by omega) (P := TabD.lie) (fun h1 h2 h3 => qlie_tab h1 h2 h3) f4
  obtain ⟨s5, z5, rfl, n5, r5⟩ := qopen_row Tryz.underlying36 Tryz.qcNode (by omega) (P := NodeD.lie) (fun h1 h2 h3 => qlie_node h1 h2 h3) f5
  obtain ⟨s6, z6, rfl, n6, r6, l6⟩ := qopen_intsc f6
  exact ⟨⟨s0, z0, s1, z1, s2, z2, s3, z3, s4, z4, s5, z5, s6, z6⟩, rfl, ⟨n0, n1, n2, n3, n4, n5, n6⟩, ⟨r0, r1, r2, r3, r4, r5, r6, l6⟩⟩
end Go.Proofs.YtajelgjbgehahaaGreat

namespace Go.Proofs.YtajelgjbgehahaaGreat.Mth

/-- the bit i of bytes, the highest one of each byte first -/
def bit (zs : List Int) (i : Nat) : Bool := (zs.getD (i / 8) 0).toNat.testBit (7 - i % 8)

/-- the number of the k bits from the bit t on -/
def rd (zs : List Int) (t : Nat) : Nat → Nat
  | 0 => 0
  | k + 1 => 2 * rd zs t k + (bit zs (t + k)).toNat

/-- one byte with one bit set or cleared -/
def one (x : Nat) (p : Nat) (c : Bool) : Nat := if c then x ||| 2 ^ p else x &&& (255 - 2 ^ p)

def put1 (zs : List Int) (i : Nat) (c : Bool) : List Int := zs.set (i / 8) ((one (zs.getD (i / 8) 0).toNat (7 - i % 8) c : Nat) : Int)

/-- behind k rounds: the bits from t on are the highest of the low n of v -/
def wr (zs : List Int) (t n v : Nat) : Nat → List Int
  | 0 => zs
  | k + 1 => put1 (wr zs t n v k) (t + k) (v.testBit (n - 1 - k))

theorem rd_lt (zs : List Int) (t k : Nat) : rd zs t k < 2 ^ k := by
  induction k with
  | zero => simp [rd]
  | succ k ih => simp only [rd, Nat.pow_succ]; have := (bit zs (t + k)).toNat_le; omega

theorem one_lt (x p : Nat) (c : Bool) (hx : x < 256) (hp : p < 8) : one x p c < 256 := by
  unfold one
  split
  · exact Nat.or_lt_two_pow (n := 8) hx (Nat.pow_lt_pow_right (by decide) hp)
  · exact Nat.lt_of_le_of_lt Nat.and_le_left hx

theorem one_bit (x p q : Nat) (c : Bool) (hx : x < 256) (hp : p < 8) : (one x p c).testBit q = if q = p then c else x.testBit q := by
  have hq : (255 - 2 ^ p).testBit q = (decide (q < 8) && !(2 ^ p).testBit q) := by
    have h := Nat.testBit_two_pow_sub_succ (x := 2 ^ p) (n := 8) (Nat.pow_lt_pow_right (by decide) hp) q
    rw [show 2 ^ 8 - (2 ^ p + 1) = 255 - 2 ^ p from by omega] at h
    exact h
  unfold one
  by_cases e : q = p
  · subst e
    cases c
    · simp [Nat.testBit_and, hq, Nat.testBit_two_pow_self]
    · simp [Nat.testBit_or, Nat.testBit_two_pow_self]
  · have h2 : (2 ^ p).testBit q = false := Nat.testBit_two_pow_of_ne (fun h => e h.symm)
    cases c
    · rw [if_neg (by decide), Nat.testBit_and, hq, h2, if_neg e]
      by_cases h8 : q < 8
      · simp [h8]
      · have : x.testBit q = false := Nat.testBit_lt_two_pow (Nat.lt_of_lt_of_le hx (by
          have := Nat.pow_le_pow_right (n := 2) (by decide) (show 8 ≤ q by omega); simpa using this))
        simp [this]
    · simp [Nat.testBit_or, h2, e]

theorem getD_set (zs : List Int) (j i : Nat) (x : Int) : (zs.set j x).getD i 0 = if i = j ∧ j < zs.length then x else zs.getD i 0 := by
  simp only [List.getD_eq_getElem?_getD, List.getElem?_set]
  by_cases h : j = i
  · subst h
    by_cases h2 : j < zs.length
    · simp [h2]
    · simp [h2]
  · have h' : ¬ i = j := fun e => h e.symm
    simp [h, h']

theorem put1_length (zs : List Int) (i : Nat) (c : Bool) : (put1 zs i c).length = zs.length := by simp [put1]

theorem put1_bytes (zs : List Int) (i : Nat) (c : Bool) (h : Bytes zs) : Bytes (put1 zs i c) := by
  intro j
  unfold put1
  rw [getD_set]
  have hb := h (i / 8)
  split
  · have := one_lt (zs.getD (i / 8) 0).toNat (7 - i % 8) c (by omega) (by omega)
    omega
  · exact h j

theorem put1_bit (zs : List Int) (i j : Nat) (c : Bool) (h : Bytes zs) (hi : i < 8 * zs.length) : bit (put1 zs i c) j = if j = i then c else bit zs j := by
  unfold bit put1
  rw [getD_set]
  have hb := h (i / 8)
  by_cases e : j / 8 = i / 8
  · rw [if_pos ⟨e, by omega⟩, Int.toNat_natCast, one_bit _ _ _ _ (by omega) (by omega), e]
    by_cases e2 : j = i
    · subst e2; simp
    · rw [if_neg (by omega), if_neg e2]
  · rw [if_neg (by omega), if_neg (by omega)]

theorem wr_length (zs : List Int) (t n v k : Nat) : (wr zs t n v k).length = zs.length := by
  induction k with
  | zero => rfl
  | succ k ih => rw [wr, put1_length, ih]

theorem wr_bytes (zs : List Int) (t n v k : Nat) (h : Bytes zs) : Bytes (wr zs t n v k) := by
  induction k with
  | zero => exact h
  | succ k ih => exact put1_bytes _ _ _ ih

theorem wr_bit (zs : List Int) (t n v k j : Nat) (h : Bytes zs) (hk : t + k ≤ 8 * zs.length) :
    bit (wr zs t n v k) j = if t ≤ j ∧ j < t + k then v.testBit (n - 1 - (j - t)) else bit zs j := by
  induction k with
  | zero => rw [if_neg (by omega)]; rfl
  | succ k ih =>
    rw [wr, put1_bit _ _ _ _ (wr_bytes _ _ _ _ _ h) (by rw [wr_length]; omega), ih (by omega)]
    by_cases e : j = t + k
    · subst e; rw [if_pos rfl, if_pos (by omega), show t + k - t = k from by omega]
    · rw [if_neg e]
      by_cases e2 : t ≤ j ∧ j < t + k
      · rw [if_pos e2, if_pos (by omega)]
      · rw [if_neg e2, if_neg (by omega)]

/-- bytes with the same bits are the same -/
theorem ext (xs ys : List Int) (hx : Bytes xs) (hy : Bytes ys) (hl : xs.length = ys.length) (h : ∀ j, j < 8 * xs.length → bit xs j = bit ys j) : xs = ys := by
  apply List.ext_getElem hl
  intro i h1 h2
  have a := hx i
  have b := hy i
  have e1 : xs.getD i 0 = xs[i] := by simp [List.getD_eq_getElem?_getD, h1]
  have e2 : ys.getD i 0 = ys[i] := by simp [List.getD_eq_getElem?_getD, h2]
  have key : (xs.getD i 0).toNat = (ys.getD i 0).toNat := by
    apply Nat.eq_of_testBit_eq
    intro q
    by_cases hq : q < 8
    · have := h (8 * i + (7 - q)) (by omega)
      unfold bit at this
      rw [show (8 * i + (7 - q)) / 8 = i from by omega, show 7 - (8 * i + (7 - q)) % 8 = q from by omega] at this
      exact this
    · have big : 256 ≤ 2 ^ q := by have := Nat.pow_le_pow_right (n := 2) (by decide) (show 8 ≤ q by omega); simpa using this
      rw [Nat.testBit_lt_two_pow (by omega), Nat.testBit_lt_two_pow (by omega)]
  rw [← e1, ← e2]
  omega

theorem rd_congr (xs ys : List Int) (t k : Nat) (h : ∀ j, t ≤ j → j < t + k → bit xs j = bit ys j) : rd xs t k = rd ys t k := by
  induction k with
  | zero => rfl
  | succ k ih => rw [rd, rd, ih (fun j a b => h j a (by omega)), h (t + k) (by omega) (by omega)]

theorem rd_of_bits (zs : List Int) (t n v k : Nat) (hk : k ≤ n) (h : ∀ j, j < n → bit zs (t + j) = v.testBit (n - 1 - j)) : rd zs t k = v / 2 ^ (n - k) % 2 ^ k := by
  induction k with
  | zero => simp [rd, Nat.mod_one]
  | succ k ih =>
    rw [rd, ih (by omega), h k (by omega)]
    have e : v / 2 ^ (n - k) = v / 2 ^ (n - (k + 1)) / 2 := by
      rw [Nat.div_div_eq_div_mul, ← Nat.pow_succ, show (n - (k + 1)).succ = n - k from by omega]
    rw [e, show n - 1 - k = n - (k + 1) from by omega, Nat.testBit_eq_decide_div_mod_eq]
    generalize v / 2 ^ (n - (k + 1)) = u
    rw [Nat.pow_succ, Nat.mul_comm (2 ^ k) 2, Nat.mod_mul]
    have : u % 2 = 0 ∨ u % 2 = 1 := by omega
    rcases this with e | e <;> simp [e] <;> omega

/-- what was put is got -/
theorem rd_wr (zs : List Int) (t n v : Nat) (h : Bytes zs) (hk : t + n ≤ 8 * zs.length) : rd (wr zs t n v n) t n = v % 2 ^ n := by
  rw [rd_of_bits (wr zs t n v n) t n v n (Nat.le_refl _) ?_]
  · simp
  · intro j hj
    rw [wr_bit _ _ _ _ _ _ h hk, if_pos (by omega), show t + j - t = j from by omega]

end Go.Proofs.YtajelgjbgehahaaGreat.Mth

namespace Go.Proofs.YtajelgjbgehahaaGreat.Mth

/-- where the number i begins -/
def off (ws : List Int) : Nat → Nat
  | 0 => 0
  | i + 1 => off ws i + (ws.getD i 0).toNat

def Wide (ws : List Int) (i : Nat) : Prop := 1 ≤ ws.getD i 0 ∧ ws.getD i 0 ≤ 64

/-- the bytes behind k numbers -/
def jn (ls ws : List Int) (len : Nat) : Nat → List Int
  | 0 => List.replicate len 0
  | i + 1 => wr (jn ls ws len i) (off ws i) (ws.getD i 0).toNat (ls.getD i 0).toNat (ws.getD i 0).toNat

theorem off_le (ws : List Int) (k : Nat) (h : ∀ j, j < k → Wide ws j) : off ws k ≤ 64 * k := by
  induction k with
  | zero => simp [off]
  | succ k ih =>
    have := ih (fun j hj => h j (by omega))
    have h2 := h k (by omega)
    unfold Wide at h2
    simp only [off]
    omega

theorem off_mono (ws : List Int) (i k : Nat) (h : i ≤ k) : off ws i ≤ off ws k := by
  induction k with
  | zero => rw [show i = 0 from by omega]; exact Nat.le_refl _
  | succ k ih =>
    by_cases e : i = k + 1
    · subst e; exact Nat.le_refl _
    · have := ih (by omega); simp only [off]; omega

theorem bytes_zero (len : Nat) : Bytes (List.replicate len 0) := by
  intro i
  by_cases h : i < len
  · simp [List.getD_eq_getElem?_getD, h]
  · simp [List.getD_eq_getElem?_getD, h]

theorem jn_length (ls ws : List Int) (len k : Nat) : (jn ls ws len k).length = len := by
  induction k with
  | zero => simp [jn]
  | succ k ih => rw [jn, wr_length, ih]

theorem jn_bytes (ls ws : List Int) (len k : Nat) : Bytes (jn ls ws len k) := by
  induction k with
  | zero => exact bytes_zero len
  | succ k ih => exact wr_bytes _ _ _ _ _ ih

/-- what was joined is parted -/
theorem rd_jn (ls ws : List Int) (len k i : Nat) (hi : i < k) (hlen : off ws k ≤ 8 * len) :
    rd (jn ls ws len k) (off ws i) (ws.getD i 0).toNat = (ls.getD i 0).toNat % 2 ^ (ws.getD i 0).toNat := by
  induction k with
  | zero => omega
  | succ k ih =>
    have hl2 : off ws k + (ws.getD k 0).toNat ≤ 8 * len := by simpa [off] using hlen
    rw [jn]
    by_cases e : i = k
    · subst e
      exact rd_wr _ _ _ _ (jn_bytes _ _ _ _) (by rw [jn_length]; exact hl2)
    · rw [← ih (by omega) (by omega)]
      apply rd_congr
      intro j h1 h2
      rw [wr_bit _ _ _ _ _ _ (jn_bytes _ _ _ _) (by rw [jn_length]; exact hl2), if_neg]
      have := off_mono ws (i + 1) k (by omega)
      simp only [off] at this
      omega

/-- the numbers of the first k widths from the bit t on -/
def parts (zs : List Int) (t : Int) (ws : List Int) (k : Nat) : List Int :=
  (List.range k).map fun j => (rd zs (t + (off ws j : Int)).toNat (ws.getD j 0).toNat : Int)

theorem parts_succ (zs : List Int) (t : Int) (ws : List Int) (k : Nat) : parts zs t ws (k + 1) = parts zs t ws k ++ [(rd zs (t + (off ws k : Int)).toNat (ws.getD k 0).toNat : Int)] := by
  simp [parts, List.range_succ]

theorem parts_length (zs : List Int) (t : Int) (ws : List Int) (k : Nat) : (parts zs t ws k).length = k := by simp [parts]

theorem parts_at (zs : List Int) (t : Int) (ws : List Int) (k i : Nat) (h : i < k) : (parts zs t ws k).getD i 0 = (rd zs (t + (off ws i : Int)).toNat (ws.getD i 0).toNat : Int) := by
  simp [parts, List.getD_eq_getElem?_getD, List.getElem?_map, List.getElem?_range h]

end Go.Proofs.YtajelgjbgehahaaGreat.Mth

namespace Go.Proofs.YtajelgjbgehahaaGreat.Mth

/-- the first k bits of bytes, a number each -/
def bo (zs : List Int) (k : Nat) : List Int := (List.range k).map fun i => ((bit zs i).toNat : Int)

/-- the first k of the low n bits of a number, the highest first -/
def nb (v n k : Nat) : List Int := (List.range k).map fun j => ((v.testBit (n - 1 - j)).toNat : Int)

/-- the number of the first k bits of a list -/
def num (l : List Int) : Nat → Nat
  | 0 => 0
  | k + 1 => 2 * num l k + (l.getD k 0).toNat

/-- the byte that begins at the bit i, behind k of its bits -/
def px (l : List Int) (i : Nat) : Nat → Nat
  | 0 => 0
  | k + 1 => 2 * px l i k + (l.getD (i + k) 0).toNat

/-- the first q bytes of a list of bits -/
def by8 (l : List Int) (q : Nat) : List Int := (List.range q).map fun i => (px l (8 * i) 8 : Int)

def IsBits (l : List Int) : Prop := ∀ i, l.getD i 0 = 0 ∨ l.getD i 0 = 1

theorem bo_succ (zs : List Int) (k : Nat) : bo zs (k + 1) = bo zs k ++ [((bit zs k).toNat : Int)] := by simp [bo, List.range_succ]
theorem bo_length (zs : List Int) (k : Nat) : (bo zs k).length = k := by simp [bo]
theorem bo_at (zs : List Int) (k i : Nat) (h : i < k) : (bo zs k).getD i 0 = ((bit zs i).toNat : Int) := by
  simp [bo, List.getD_eq_getElem?_getD, List.getElem?_range h]
theorem nb_succ (v n k : Nat) : nb v n (k + 1) = nb v n k ++ [((v.testBit (n - 1 - k)).toNat : Int)] := by simp [nb, List.range_succ]
theorem nb_length (v n k : Nat) : (nb v n k).length = k := by simp [nb]
theorem nb_at (v n k i : Nat) (h : i < k) : (nb v n k).getD i 0 = ((v.testBit (n - 1 - i)).toNat : Int) := by
  simp [nb, List.getD_eq_getElem?_getD, List.getElem?_range h]
theorem by8_succ (l : List Int) (q : Nat) : by8 l (q + 1) = by8 l q ++ [(px l (8 * q) 8 : Int)] := by simp [by8, List.range_succ]
theorem by8_length (l : List Int) (q : Nat) : (by8 l q).length = q := by simp [by8]
theorem by8_at (l : List Int) (q i : Nat) (h : i < q) : (by8 l q).getD i 0 = (px l (8 * i) 8 : Int) := by
  simp [by8, List.getD_eq_getElem?_getD, List.getElem?_range h]

theorem getD_ge (l : List Int) (i : Nat) (h : l.length ≤ i) : l.getD i 0 = 0 := by
  simp [List.getD_eq_getElem?_getD, List.getElem?_eq_none h]

theorem bo_bits (zs : List Int) (k : Nat) : IsBits (bo zs k) := by
  intro i
  by_cases h : i < k
  · rw [bo_at _ _ _ h]; cases bit zs i <;> simp
  · left; exact getD_ge _ _ (by rw [bo_length]; omega)

theorem nb_bits (v n k : Nat) : IsBits (nb v n k) := by
  intro i
  by_cases h : i < k
  · rw [nb_at _ _ _ _ h]; cases v.testBit (n - 1 - i) <;> simp
  · left; exact getD_ge _ _ (by rw [nb_length]; omega)

theorem px_lt (l : List Int) (i k : Nat) (h : IsBits l) : px l i k < 2 ^ k := by
  induction k with
  | zero => simp [px]
  | succ k ih =>
    have := h (i + k)
    simp only [px, Nat.pow_succ]
    rcases this with e | e <;> rw [e] <;> simp <;> omega

theorem num_lt (l : List Int) (k : Nat) (h : IsBits l) : num l k < 2 ^ k := by
  induction k with
  | zero => simp [num]
  | succ k ih =>
    have := h k
    simp only [num, Nat.pow_succ]
    rcases this with e | e <;> rw [e] <;> simp <;> omega

theorem num_rd (zs l : List Int) (t k : Nat) (h : ∀ j, j < k → l.getD j 0 = ((bit zs (t + j)).toNat : Int)) : num l k = rd zs t k := by
  induction k with
  | zero => rfl
  | succ k ih => rw [num, rd, ih (fun j hj => h j (by omega)), h k (by omega)]; simp

/-- the bit r of the byte that begins at i -/
theorem px_bit (l : List Int) (i k r : Nat) (h : IsBits l) (hr : r < k) : (px l i k).testBit (k - 1 - r) = decide (l.getD (i + r) 0 = 1) := by
  induction k with
  | zero => omega
  | succ k ih =>
    have hb := h (i + k)
    have hp := px_lt l i k h
    rw [px]
    by_cases e : r = k
    · subst e
      rw [show r + 1 - 1 - r = 0 from by omega, Nat.testBit_zero]
      rcases hb with e | e <;> rw [e] <;> simp
    · rw [show k + 1 - 1 - r = (k - 1 - r) + 1 from by omega, Nat.testBit_succ, ← ih (by omega)]
      congr 1
      rcases hb with e | e <;> rw [e] <;> simp <;> omega

theorem by8_bytes (l : List Int) (q : Nat) (h : IsBits l) : Bytes (by8 l q) := by
  intro i
  by_cases hi : i < q
  · rw [by8_at _ _ _ hi]
    have := px_lt l (8 * i) 8 h
    omega
  · rw [getD_ge _ _ (by rw [by8_length]; omega)]; omega

theorem by8_bit (l : List Int) (q j : Nat) (h : IsBits l) (hj : j < 8 * q) : bit (by8 l q) j = decide (l.getD j 0 = 1) := by
  unfold bit
  rw [by8_at _ _ _ (by omega), Int.toNat_natCast]
  have := px_bit l (8 * (j / 8)) 8 (j % 8) h (by omega)
  rw [show 8 - 1 - j % 8 = 7 - j % 8 from by omega, show 8 * (j / 8) + j % 8 = j from by omega] at this
  exact this

/-- the bits of what is put -/
def pl (zs : List Int) (t n v : Nat) : List Int := (bo zs (8 * zs.length)).take t ++ nb v n n ++ (bo zs (8 * zs.length)).drop (t + n)

theorem pl_length (zs : List Int) (t n v : Nat) (h : t + n ≤ 8 * zs.length) : (pl zs t n v).length = 8 * zs.length := by
  simp only [pl, List.length_append, List.length_take, List.length_drop, bo_length, nb_length]
  omega

theorem pl_at (zs : List Int) (t n v i : Nat) (h : t + n ≤ 8 * zs.length) (hi : i < 8 * zs.length) :
    (pl zs t n v).getD i 0 = ((if t ≤ i ∧ i < t + n then v.testBit (n - 1 - (i - t)) else bit zs i).toNat : Int) := by
  have hl : ((bo zs (8 * zs.length)).take t).length = t := by rw [List.length_take, bo_length]; omega
  have hb := bo_at zs (8 * zs.length)
  simp only [List.getD_eq_getElem?_getD] at hb ⊢
  unfold pl
  by_cases h1 : i < t
  · rw [if_neg (by omega), List.append_assoc, List.getElem?_append_left (by omega), List.getElem?_take, if_pos h1]
    exact hb i hi
  · by_cases h2 : i < t + n
    · rw [if_pos (by omega), List.append_assoc, List.getElem?_append_right (by omega), hl, List.getElem?_append_left (by rw [nb_length]; omega)]
      have := nb_at v n n (i - t) (by omega)
      simpa [List.getD_eq_getElem?_getD] using this
    · rw [if_neg (by omega), List.getElem?_append_right (by rw [List.length_append, hl, nb_length]; omega), List.length_append, hl, nb_length, List.getElem?_drop, show t + n + (i - (t + n)) = i from by omega]
      exact hb i hi

theorem pl_bits (zs : List Int) (t n v : Nat) (h : t + n ≤ 8 * zs.length) : IsBits (pl zs t n v) := by
  intro i
  by_cases hi : i < 8 * zs.length
  · rw [pl_at _ _ _ _ _ h hi]
    generalize (if t ≤ i ∧ i < t + n then v.testBit (n - 1 - (i - t)) else bit zs i) = c
    cases c <;> simp
  · left; exact getD_ge _ _ (by rw [pl_length _ _ _ _ h]; omega)

/-- both ways of putting are one -/
theorem put_same (zs : List Int) (t n v : Nat) (hb : Bytes zs) (h : t + n ≤ 8 * zs.length) : by8 (pl zs t n v) zs.length = wr zs t n v n := by
  apply ext _ _ (by8_bytes _ _ (pl_bits _ _ _ _ h)) (wr_bytes _ _ _ _ _ hb) (by rw [by8_length, wr_length])
  intro j hj
  rw [by8_length] at hj
  rw [by8_bit _ _ _ (pl_bits _ _ _ _ h) hj, pl_at _ _ _ _ _ h hj, wr_bit _ _ _ _ _ _ hb h]
  generalize (if t ≤ j ∧ j < t + n then v.testBit (n - 1 - (j - t)) else bit zs j) = c
  cases c <;> simp

/-- the bits of what is joined -/
def jl (ls ws : List Int) : Nat → List Int
  | 0 => []
  | i + 1 => jl ls ws i ++ nb (ls.getD i 0).toNat (ws.getD i 0).toNat (ws.getD i 0).toNat

theorem jl_length (ls ws : List Int) (k : Nat) : (jl ls ws k).length = off ws k := by
  induction k with
  | zero => rfl
  | succ k ih => rw [jl, List.length_append, ih, nb_length, off]

theorem jl_bits (ls ws : List Int) (k : Nat) : IsBits (jl ls ws k) := by
  induction k with
  | zero => intro i; left; simp [jl]
  | succ k ih =>
    intro i
    rw [jl, List.getD_eq_getElem?_getD]
    by_cases h : i < (jl ls ws k).length
    · rw [List.getElem?_append_left h]; have := ih i; simpa [List.getD_eq_getElem?_getD] using this
    · rw [List.getElem?_append_right (by omega)]
      have := nb_bits (ls.getD k 0).toNat (ws.getD k 0).toNat (ws.getD k 0).toNat (i - (jl ls ws k).length)
      simpa [List.getD_eq_getElem?_getD] using this

theorem zero_bit (len j : Nat) : bit (List.replicate len 0) j = false := by
  unfold bit
  have : (List.replicate len (0 : Int)).getD (j / 8) 0 = 0 := by
    by_cases h : j / 8 < len
    · simp [List.getD_eq_getElem?_getD, h]
    · simp [List.getD_eq_getElem?_getD, h]
  rw [this]; simp

theorem jn_bit (ls ws : List Int) (len k j : Nat) (h : off ws k ≤ 8 * len) : bit (jn ls ws len k) j = decide ((jl ls ws k).getD j 0 = 1) := by
  induction k with
  | zero => rw [jn, zero_bit]; simp [jl]
  | succ k ih =>
    have h2 : off ws k + (ws.getD k 0).toNat ≤ 8 * len := by simpa [off] using h
    rw [jn, wr_bit _ _ _ _ _ _ (jn_bytes _ _ _ _) (by rw [jn_length]; exact h2), ih (by omega), jl]
    have hl := jl_length ls ws k
    simp only [List.getD_eq_getElem?_getD]
    by_cases c : j < off ws k
    · rw [if_neg (by omega), List.getElem?_append_left (by omega)]
    · rw [List.getElem?_append_right (by omega), hl, List.getElem?_eq_none (by omega : (jl ls ws k).length ≤ j)]
      by_cases c2 : j < off ws k + (ws.getD k 0).toNat
      · simp only [List.getD_eq_getElem?_getD] at c2
        rw [if_pos (by omega)]
        have := nb_at (ls[k]?.getD 0).toNat (ws[k]?.getD 0).toNat (ws[k]?.getD 0).toNat (j - off ws k) (by omega)
        simp only [List.getD_eq_getElem?_getD] at this
        rw [this]
        cases (ls[k]?.getD 0).toNat.testBit ((ws[k]?.getD 0).toNat - 1 - (j - off ws k)) <;> simp
      · simp only [List.getD_eq_getElem?_getD] at c2
        rw [if_neg (by omega), List.getElem?_eq_none (by rw [nb_length]; omega)]

/-- both ways of joining are one -/
theorem join_same (ls ws : List Int) (k : Nat) : by8 (jl ls ws k) ((off ws k + 7) / 8) = jn ls ws ((off ws k + 7) / 8) k := by
  apply ext _ _ (by8_bytes _ _ (jl_bits _ _ _)) (jn_bytes _ _ _ _) (by rw [by8_length, jn_length])
  intro j hj
  rw [by8_length] at hj
  rw [by8_bit _ _ _ (jl_bits _ _ _) hj, jn_bit _ _ _ _ _ (by omega)]

end Go.Proofs.YtajelgjbgehahaaGreat.Mth

namespace Go.Proofs.YtajelgjbgehahaaGreat.Mth

abbrev Fit (ws : List Int) (i : Nat) : Prop := 1 ≤ ws.getD i 0 ∧ ws.getD i 0 ≤ 48

/-- a header without a fault -/
def Head (ws : List Int) (m : Nat) : Prop := 1 ≤ m ∧ m ≤ 8 ∧ (∀ j, j < m → Fit ws j) ∧ off ws m % 8 = 0 ∧ off ws m ≤ 256

theorem Fit.wide {ws : List Int} {i : Nat} (h : Fit ws i) : Wide ws i := by
  unfold Fit at h; unfold Wide; omega

theorem fit_off (ws : List Int) (k : Nat) (h : ∀ j, j < k → Fit ws j) : off ws k ≤ 48 * k := by
  induction k with
  | zero => simp [off]
  | succ k ih =>
    have := ih (fun j hj => h j (by omega))
    have h2 := h k (by omega)
    unfold Fit at h2
    simp only [off]
    omega

theorem cut_bit (zs : List Int) (a n j : Nat) (hj : j < 8 * n) : bit ((zs.drop a).take n) j = bit zs (8 * a + j) := by
  unfold bit
  rw [show (8 * a + j) / 8 = a + j / 8 from by omega, show (8 * a + j) % 8 = j % 8 from by omega]
  simp only [List.getD_eq_getElem?_getD, List.getElem?_take, List.getElem?_drop]
  rw [if_pos (by omega)]

theorem cut_rd (zs : List Int) (a n t k : Nat) (h : t + k ≤ 8 * n) : rd ((zs.drop a).take n) t k = rd zs (8 * a + t) k := by
  induction k with
  | zero => rfl
  | succ k ih => rw [rd, rd, ih (by omega), cut_bit _ _ _ _ (by omega), Nat.add_assoc]

/-- the fields of what is cut out are the fields from there on -/
theorem cut_parts (zs ws : List Int) (a n m : Nat) (h : off ws m ≤ 8 * n) : parts ((zs.drop a).take n) 0 ws m = parts zs ((8 * a : Nat) : Int) ws m := by
  unfold parts
  apply List.map_congr_left
  intro j hj
  have hj' : j < m := List.mem_range.1 hj
  have h1 := off_mono ws (j + 1) m (by omega)
  simp only [off] at h1
  have e1 : ((0 : Int) + (off ws j : Int)).toNat = off ws j := by omega
  have e2 : (((8 * a : Nat) : Int) + (off ws j : Int)).toNat = 8 * a + off ws j := by omega
  rw [e1, e2, cut_rd _ _ _ _ _ (by omega)]

theorem rd_bit (zs : List Int) (t k r : Nat) (hr : r < k) : (rd zs t k).testBit (k - 1 - r) = bit zs (t + r) := by
  induction k with
  | zero => omega
  | succ k ih =>
    rw [rd]
    by_cases e : r = k
    · subst e
      rw [show r + 1 - 1 - r = 0 from by omega, Nat.testBit_zero]
      cases bit zs (t + r) <;> simp
    · rw [show k + 1 - 1 - r = (k - 1 - r) + 1 from by omega, Nat.testBit_succ, ← ih (by omega)]
      congr 1
      have := (bit zs (t + k)).toNat_le
      omega

theorem jn_parts (zs ws : List Int) (T N m k j : Nat) (hk : k ≤ m) (h : off ws m ≤ 8 * N) (hj : j < off ws k) : bit (jn (parts zs (T : Int) ws m) ws N k) j = bit zs (T + j) := by
  induction k with
  | zero => simp [off] at hj
  | succ k ih =>
    have h1 := off_mono ws (k + 1) m hk
    have h2 : off ws k + (ws.getD k 0).toNat ≤ 8 * N := by simp only [off] at h1; omega
    rw [jn, wr_bit _ _ _ _ _ _ (jn_bytes _ _ _ _) (by rw [jn_length]; exact h2)]
    by_cases c : j < off ws k
    · rw [if_neg (by omega), ih (by omega) c]
    · simp only [off] at hj
      rw [if_pos (by omega), parts_at _ _ _ _ _ (by omega), Int.toNat_natCast, rd_bit _ _ _ _ (by omega)]
      congr 1
      omega

theorem cut_bytes (zs : List Int) (a n : Nat) (h : Bytes zs) : Bytes ((zs.drop a).take n) := by
  intro i
  by_cases hi : i < n
  · have := h (a + i)
    simp only [List.getD_eq_getElem?_getD, List.getElem?_take, List.getElem?_drop] at this ⊢
    rw [if_pos hi]; exact this
  · simp only [List.getD_eq_getElem?_getD, List.getElem?_take]
    rw [if_neg hi]; simp

/-- what was read is written to the same bytes -/
theorem back_bytes (zs ws : List Int) (a N m : Nat) (hb : Bytes zs) (h : off ws m = 8 * N) (hl : a + N ≤ zs.length) : jn (parts zs ((8 * a : Nat) : Int) ws m) ws N m = (zs.drop a).take N := by
  apply ext _ _ (jn_bytes _ _ _ _) (cut_bytes _ _ _ hb) (by rw [jn_length, List.length_take, List.length_drop]; omega)
  intro j hj
  rw [jn_length] at hj
  rw [jn_parts zs ws (8 * a) N m m j (Nat.le_refl _) (by omega) (by omega), cut_bit _ _ _ _ hj]

/-- what was written is read -/
theorem back_nums (ls ws : List Int) (N m : Nat) (hl : ls.length = m) (h : off ws m ≤ 8 * N) (hf : ∀ j, j < m → 0 ≤ ls.getD j 0 ∧ ls.getD j 0 < ((2 ^ (ws.getD j 0).toNat : Nat) : Int)) : parts (jn ls ws N m) 0 ws m = ls := by
  apply List.ext_getElem (by rw [parts_length, hl])
  intro i h1 h2
  have hi : i < m := by rw [parts_length] at h1; exact h1
  have e := parts_at (jn ls ws N m) 0 ws m i hi
  have hfi := hf i hi
  have e1 : ((0 : Int) + (off ws i : Int)).toNat = off ws i := by omega
  rw [e1, rd_jn _ _ _ _ _ hi h, Nat.mod_eq_of_lt (by omega)] at e
  have e2 : (parts (jn ls ws N m) 0 ws m).getD i 0 = (parts (jn ls ws N m) 0 ws m)[i] := by simp [List.getD_eq_getElem?_getD, h1]
  have e3 : ls.getD i 0 = ls[i] := by simp [List.getD_eq_getElem?_getD, h2]
  rw [e2] at e
  rw [e, ← e3]
  omega

/-- the numbers, the one s being nothing -/
def zap (ls : List Int) (s : Int) (k : Nat) : List Int := (List.range k).map fun (i : Nat) => if (i : Int) = s then 0 else ls.getD i 0

theorem zap_succ (ls : List Int) (s : Int) (k : Nat) : zap ls s (k + 1) = zap ls s k ++ [if (k : Int) = s then 0 else ls.getD k 0] := by
  simp [zap, List.range_succ]

theorem zap_length (ls : List Int) (s : Int) (k : Nat) : (zap ls s k).length = k := by simp [zap]

theorem zap_at (ls : List Int) (s : Int) (k i : Nat) (h : i < k) : (zap ls s k).getD i 0 = if (i : Int) = s then 0 else ls.getD i 0 := by
  simp [zap, List.getD_eq_getElem?_getD, List.getElem?_map, List.getElem?_range h]

theorem zap_none (ls : List Int) (s : Int) (h : s < 0 ∨ (ls.length : Int) ≤ s) : zap ls s ls.length = ls := by
  apply List.ext_getElem (by rw [zap_length])
  intro i h1 h2
  have e := zap_at ls s ls.length i h2
  rw [if_neg (by omega)] at e
  have e2 : (zap ls s ls.length).getD i 0 = (zap ls s ls.length)[i] := by simp [List.getD_eq_getElem?_getD, h1]
  have e3 : ls.getD i 0 = ls[i] := by simp [List.getD_eq_getElem?_getD, h2]
  rw [← e2, e, e3]

theorem zap_set (ls : List Int) (s : Nat) : ls.set s 0 = zap ls (s : Int) ls.length := by
  apply List.ext_getElem (by rw [zap_length, List.length_set])
  intro i h1 h2
  have hi : i < ls.length := by rw [zap_length] at h2; exact h2
  have e := zap_at ls s ls.length i hi
  have e2 : (zap ls s ls.length).getD i 0 = (zap ls s ls.length)[i] := by simp [List.getD_eq_getElem?_getD, h2]
  have e3 : ls.getD i 0 = ls[i] := by simp [List.getD_eq_getElem?_getD, hi]
  rw [← e2, e, List.getElem_set]
  by_cases c : s = i
  · subst c; rw [if_pos rfl, if_pos rfl]
  · rw [if_neg c, if_neg (by omega), e3]
end Go.Proofs.YtajelgjbgehahaaGreat.Mth

namespace Go.Proofs.YtajelgjbgehahaaGreat
open Go.RowKit

/-- a world behind w in which nothing old has turned -/
structure BelowBy (w : World) where
  to : World
  h : Below w.heap.size w to

theorem wp_region_quiet_below {P : Program} {id : Nat} {Q : Exit → Act → World → Prop} {a : Act} {w : World} {l : List Oper} (hm : P.follows .mixedOrders = true) (hB : Region.lexB .any l.toArray = true)
    (h : wpQuiet P l.toArray (fun w' => ∃ p : BelowBy w, w' = p.to) (fun a' => ∀ w', (∃ p : BelowBy w, w' = p.to) → Q .normal a' w') l a) : (Code.region id l.toArray true).wp P Q a w :=
  wp_region_quiet (C := fun w' => ∃ p : BelowBy w, w' = p.to) hm hB ⟨⟨w.drew, (Below.refl _ _).drew⟩, rfl⟩ (by simpa using h)

theorem calls_below {P : Program} {f : FuncId} {args : Array Value} {w : World} {v : Value} (p : BelowBy w) (h : Calls P f args p.to fun e w' => e = .returned v ∧ Below p.to.heap.size p.to w') : Calls P f args p.to fun e w'' => e = .returned v ∧ ∃ p : BelowBy w, w'' = p.to :=
  h.mono fun _ w'' ⟨he, hb⟩ => ⟨he, ⟨w'', bl_step p.h hb⟩, rfl⟩

theorem calls_same {P : Program} {f : FuncId} {args : Array Value} {w : World} {v : Value} (p : BelowBy w) (h : Calls P f args p.to fun e w' => e = .returned v ∧ w' = p.to) : Calls P f args p.to fun e w'' => e = .returned v ∧ ∃ p : BelowBy w, w'' = p.to :=
  h.mono fun _ _ ⟨he, hb⟩ => ⟨he, p, hb⟩

/-- a cell, in every world of the class -/
theorem cell_by {w : World} {g o : Nat} {v : Value} (h : w.cell? ⟨g, o, none⟩ = some v) (p : BelowBy w) : p.to.cell? ⟨g, o, none⟩ = some v := cell_keep h p.h
end Go.Proofs.YtajelgjbgehahaaGreat

namespace Go.Proofs.YtajelgjbgehahaaGreat
open Go.RowKit

def UU (zs : List Int) : List Value := zs.map (Value.int .u64)

theorem Tryz.info22 : (Tryz.prog.info? 22).map (fun i => (i.zero, i.size, i.bytes)) = some (some (.int .u64 0), 1, 8) := by kernel_rfl

theorem wf_u64 (n : Int) (h : 0 ≤ n ∧ n < 18446744073709551616) : (Lit.int .u64 n).wf = true := by
  simp [Lit.wf, IntKind.min, IntKind.max, IntKind.bits, IntKind.signed]
  omega

/-- what is owned lies as Has says -/
theorem has_of_owns64 {w : World} {base len : Nat} {v : Value} {zs : List Int} (h : w.ownsRow base 22 1 v len (UU zs)) (hb : ∀ n ∈ zs, 0 ≤ n ∧ n < 18446744073709551616) : ∃ a cap, v = .slice a len cap ∧ Has .u64 w a len zs := by
  have hl : zs.length = len := by simpa [UU] using h.1
  rcases h.2 with ⟨rfl, rfl⟩ | ⟨g, cap, cur, rfl, _⟩
  · exact ⟨none, 0, rfl, hl, fun n hn => wf_u64 n (hb n hn), .inl (List.eq_nil_of_length_eq_zero hl)⟩
  · refine ⟨some ⟨g, 0, none⟩, cap, rfl, hl, fun n hn => wf_u64 n (hb n hn), .inr ⟨g, 0, rfl, (h.lt g rfl).2, fun i hi => ?_⟩⟩
    rw [Nat.zero_add, h.cellAt i (by omega)]
    simp only [UU, List.getElem?_map, List.getD_eq_getElem?_getD]
    rw [List.getElem?_eq_getElem (by omega)]; rfl

theorem uu_one (zs : List Int) : ∀ u ∈ UU zs, u.oneCell' = true := by
  intro u hu
  simp only [UU, List.mem_map] at hu
  obtain ⟨x, _, rfl⟩ := hu
  rfl

theorem has_cells64 {w : World} {ad : Addr} {m : Nat} {zs : List Int} (h : Has .u64 w (some ad) m zs) : ∀ (j : Nat) (u : Value), (UU zs)[j]? = some u → w.cell? (ad.add j) = some u := by
  intro j u hj
  have hj' : j < zs.length := by
    have := (List.getElem?_eq_some_iff.1 hj).1
    simpa [UU] using this
  have hl := h.1
  obtain ⟨b, off, e, _, hc⟩ := h.some (by omega)
  simp only [Option.some.injEq] at e
  subst e
  rw [Addr.add_lit, hc j (by omega)]
  simp only [UU, List.getElem?_map, List.getElem?_eq_getElem hj', Option.map_some, Option.some.injEq] at hj
  simp only [List.getD_eq_getElem?_getD, List.getElem?_eq_getElem hj', Option.getD_some, hj]

theorem Has.nums {w : World} {a : Option Addr} {len : Nat} {zs : List Int} (h : Has .u64 w a len zs) : ∀ n ∈ zs, 0 ≤ n ∧ n < 18446744073709551616 := fun n hn => by
  have := bounds_u64 (h.2.1 n hn)
  omega

theorem own_at64 {w : World} {base g len cap : Nat} {zs : List Int} (h : w.ownsRow base 22 1 (.slice (some ⟨g, 0, none⟩) len cap) len (UU zs)) (i : Nat) (hi : i < len) : w.cell? ⟨g, i, none⟩ = some (.int .u64 (zs.getD i 0)) := by
  have hl : zs.length = len := by simpa [UU] using h.1
  rw [h.cellAt i (by omega)]
  simp only [UU, List.getElem?_map, List.getD_eq_getElem?_getD]
  rw [List.getElem?_eq_getElem (by omega)]; rfl

theorem push64 {w : World} {base n : Nat} {v : Value} {ys : List Int} {x y : Int} (h : w.ownsRow base 22 1 v (n + 1) (UU ys ++ [.int .u64 x])) (e : x = y) : w.ownsRow base 22 1 v (n + 1) (UU (ys ++ [y])) := by
  subst e
  simpa [UU] using h

/-- numbers put behind nothing: a row of the call's own -/
theorem copy64_law {w : World} {ops : Array Oper} {rest : List Oper} {o : Oper} {a : Act} {Q : Exit → Act → World → Prop} (hgd : o.guard = none) (s x : Operand)
    (ho : o.op = .call { callee := .builtin .append, args := #[s, x], argTypes := #[53, 53] }) (hs : a.eval s = .slice none 0 0) (ad : Option Addr) (m c : Nat) (zs : List Int) (hx : a.eval x = .slice ad m c)
    (hn : ad = none → m = 0 ∧ c = 0) (hz : Has .u64 w ad m zs) (hsmall : m ≤ 10000000)
    (h : ∀ v' w', w'.ownsRow w.heap.size 22 1 v' m (UU zs) → Below w.heap.size w w' → wpList Tryz.prog ops Q rest (a.put o.dst v') w') : wpList Tryz.prog ops Q (o :: rest) a w := by
  obtain ⟨i0, hi, hz0, hz1, hz2⟩ := info_parts Tryz.info22
  cases ad with
  | none =>
    obtain ⟨rfl, rfl⟩ := hn rfl
    have e : zs = [] := List.eq_nil_of_length_eq_zero hz.1
    subst e
    exact wpList_append_own_none hgd s x 53 ho w.heap.size 22 i0 1 Tryz.underlying53 hi (.slice none 0 0) 0 [] hs (World.ownsRow_nil _ _ _ _) hx (h _ _ (World.ownsRow_nil _ _ _ _) (Below.refl _ _))
  | some ad =>
    refine wpList_append_own w hgd s x 53 ho w.heap.size 22 i0 (.int .u64 0) 1 8 Tryz.underlying53 hi hz0 hz1 hz2 rfl (by decide) (.slice none 0 0) 0 [] hs (World.ownsRow_nil _ _ _ _) ad m c (UU zs) hx (by have := hz.1; simp [UU]; omega) (has_cells64 hz) (uu_one zs) (by unfold maxLen; omega) (by omega) (Nat.le_refl _) ?_
    intro v' w' h1 h2 _
    rw [Nat.zero_add, List.nil_append] at h1
    exact h v' w' h1 ((Below.refl _ _).grown h2 (Nat.le_refl _) (by intro k hk; simp [Value.ownBlock] at hk))

/-- a row of one's own: what it is -/
theorem own_is {w : World} {base e len : Nat} {v : Value} {xs : List Value} (h : w.ownsRow base e 1 v len xs) : ∃ a cap, v = .slice a len cap ∧ len ≤ cap ∧ (a = none → len = 0 ∧ cap = 0) := by
  rcases h.2 with ⟨rfl, rfl⟩ | ⟨g, cap, cur, rfl, _, _, h1, _⟩
  · exact ⟨none, 0, rfl, Nat.le_refl _, fun _ => ⟨rfl, rfl⟩⟩
  · exact ⟨_, cap, rfl, h1, fun h => by cases h⟩

theorem has_own64 {w : World} {base len : Nat} {a : Option Addr} {cap : Nat} {zs : List Int} (h : w.ownsRow base 22 1 (.slice a len cap) len (UU zs)) (hb : ∀ n ∈ zs, 0 ≤ n ∧ n < 18446744073709551616) : Has .u64 w a len zs := by
  obtain ⟨a', c', e, h'⟩ := has_of_owns64 h hb
  simp only [Value.slice.injEq] at e
  rw [e.1]; exact h'

/-- it lies from the block B on -/
def From (B : Nat) (a : Option Addr) (n : Nat) : Prop := 0 < n → ∃ b off, a = some ⟨b, off, none⟩ ∧ B ≤ b ∧ off = 0

theorem own_from {w : World} {base e n c : Nat} {a : Option Addr} {xs : List Value} (h : w.ownsRow base e 1 (.slice a n c) n xs) : From base a n := by
  intro h0
  rcases h.2 with ⟨_, e⟩ | ⟨g, cap, cur, e, hb, _⟩
  · omega
  · simp only [Value.slice.injEq] at e
    exact ⟨g, 0, e.1, hb, rfl⟩

theorem From.mono {B B' : Nat} {a : Option Addr} {n : Nat} (h : From B a n) (hB : B' ≤ B) : From B' a n := by
  intro h0
  obtain ⟨b, off, e, hb, h1⟩ := h h0
  exact ⟨b, off, e, Nat.le_trans hB hb, h1⟩

/-- numbers stay while another block is turned -/
theorem Has.off {k : IntKind} {w w' : World} {a : Option Addr} {len g B : Nat} {zs : List Int} (h : Has k w a len zs) (f : From B a len) (hg : g < B) (hr : w.grownBy w' (Option.some g)) : Has k w' a len zs := by
  refine ⟨h.1, h.2.1, ?_⟩
  by_cases h0 : 0 < len
  · obtain ⟨b, off, rfl, hlt, hc⟩ := h.some h0
    obtain ⟨b', off', e, hb, _⟩ := f h0
    simp only [Option.some.injEq, Addr.mk.injEq] at e
    obtain ⟨rfl, rfl, _⟩ := e
    exact .inr ⟨b, off, rfl, Nat.lt_of_lt_of_le hlt hr.size, fun i hi => hr.cell (hc i hi) (by simp; omega)⟩
  · left
    exact List.eq_nil_of_length_eq_zero (by have := h.1; omega)
end Go.Proofs.YtajelgjbgehahaaGreat

namespace Go.Proofs.YtajelgjbgehahaaGreat
open Go.RowKit Mth

def II (zs : List Int) : List Value := zs.map (Value.int .i64)

theorem Tryz.infoInt : (Tryz.prog.info? 3).map (fun i => (i.zero, i.size, i.bytes)) = some (some (.int .i64 0), 1, 8) := by kernel_rfl

theorem ii_one (zs : List Int) : ∀ u ∈ II zs, u.oneCell' = true := by
  intro u hu
  simp only [II, List.mem_map] at hu
  obtain ⟨x, _, rfl⟩ := hu
  rfl

theorem has_cellsI {w : World} {ad : Addr} {m : Nat} {zs : List Int} (h : Has .i64 w (some ad) m zs) : ∀ (j : Nat) (u : Value), (II zs)[j]? = some u → w.cell? (ad.add j) = some u := by
  intro j u hj
  have hj' : j < zs.length := by
    have := (List.getElem?_eq_some_iff.1 hj).1
    simpa [II] using this
  have hl := h.1
  obtain ⟨b, off, e, _, hc⟩ := h.some (by omega)
  simp only [Option.some.injEq] at e
  subst e
  rw [Addr.add_lit, hc j (by omega)]
  simp only [II, List.getElem?_map, List.getElem?_eq_getElem hj', Option.map_some, Option.some.injEq] at hj
  simp only [List.getD_eq_getElem?_getD, List.getElem?_eq_getElem hj', Option.getD_some, hj]

theorem has_ownI {w : World} {base len : Nat} {a : Option Addr} {cap : Nat} {zs : List Int} (h : w.ownsRow base 3 1 (.slice a len cap) len (II zs)) (hb : ∀ n ∈ zs, (Lit.int .i64 n).wf = true) : Has .i64 w a len zs := by
  have hl : zs.length = len := by simpa [II] using h.1
  rcases h.2 with ⟨e, rfl⟩ | ⟨g, cap, cur, e, _⟩
  · exact ⟨hl, hb, .inl (List.eq_nil_of_length_eq_zero hl)⟩
  · simp only [Value.slice.injEq] at e
    obtain ⟨rfl, _, rfl⟩ := e
    refine ⟨hl, hb, .inr ⟨g, 0, rfl, (h.lt g rfl).2, fun i hi => ?_⟩⟩
    rw [Nat.zero_add, h.cellAt i (by omega)]
    simp only [II, List.getElem?_map, List.getD_eq_getElem?_getD]
    rw [List.getElem?_eq_getElem (by omega)]; rfl

/-- one append of a region: numbers behind nothing -/
theorem stepI {ops : Array Oper} {o : Oper} {a : Act} {w : World} {K : Act → World → Prop} {Q : Exit → Act → World → Prop} {E : Prop} (hgd : o.guard = none) (s x : Operand)
    (ho : o.op = .call { callee := .builtin .append, args := #[s, x], argTypes := #[32, 32] }) (m c : Nat) (zs : List Int) (ad : Option Addr)
    (hs : a.eval s = .slice none 0 0) (hx : a.eval x = .slice ad m c) (hn : ad = none → m = 0 ∧ c = 0) (hz : Has .i64 w ad m zs) (hsmall : m ≤ 10000000)
    (h : ∀ v' w', w'.ownsRow w.heap.size 3 1 v' m (II zs) → Below w.heap.size w w' → K (a.put o.dst v') w') :
    if Region.wanted o (yielded ops a.tmps) = true then Oper.wp Tryz.prog o a w K Q else E := by
  have hw : Region.wanted o (yielded ops a.tmps) = true := by simp [Region.wanted, hgd]
  rw [if_pos hw]
  obtain ⟨i0, hi, hz0, hz1, hz2⟩ := info_parts Tryz.infoInt
  cases ad with
  | none =>
    obtain ⟨rfl, rfl⟩ := hn rfl
    have e : zs = [] := List.eq_nil_of_length_eq_zero hz.1
    subst e
    have hrun := run_append_owned_none (P := Tryz.prog) (w := w) w.heap.size 32 o.type 3 i0 1 Tryz.underlying32 hi (.slice none 0 0) 0 [] (World.ownsRow_nil _ _ _ _)
    unfold Oper.wp execOp
    simp only [ho, resolve, invoke, builtin, Sem.run_bind, Sem.run_pure, Result.andThen_ok, List.map_toArray, List.map_cons, List.map_nil, hs, hx, hrun]
    exact h _ _ (World.ownsRow_nil _ _ _ _) (Below.refl _ _)
  | some ad =>
    refine wp_append_own w s x 32 ho w.heap.size 3 i0 (.int .i64 0) 1 8 Tryz.underlying32 hi hz0 hz1 hz2 rfl (by decide) (.slice none 0 0) 0 [] hs (World.ownsRow_nil _ _ _ _) ad m c (II zs) hx (by have := hz.1; simp [II]; omega) (has_cellsI hz) (ii_one zs) (by unfold maxLen; omega) (by omega) (Nat.le_refl _) ?_
    intro v' w' h1 h2 _
    rw [Nat.zero_add, List.nil_append] at h1
    exact h v' w' h1 ((Below.refl _ _).grown h2 (Nat.le_refl _) (by intro k hk; simp [Value.ownBlock] at hk))

/-- the block of a list of ints of one's own bears their type -/
theorem own_shape {w : World} {base g n c : Nat} {xs : List Value} (h : w.ownsRow base 3 1 (.slice (some ⟨g, 0, none⟩) n c) n xs) : ∃ m, w.shape? g = some (3, m) := by
  rcases h.2 with ⟨e, _⟩ | ⟨g', c', cur, e, _, hh, _⟩
  · simp at e
  · simp only [Value.slice.injEq, Option.some.injEq, Addr.mk.injEq, and_true] at e
    obtain ⟨rfl, _⟩ := e
    exact ⟨cur.size, by simp [World.shape?, hh]⟩
end Go.Proofs.YtajelgjbgehahaaGreat

namespace Go.Proofs.YtajelgjbgehahaaGreat
open Go.RowKit

set_option maxHeartbeats 400000 in
set_option maxRecDepth 20000 in
theorem isWidth_yes (n : Int) (w : World) (h1 : 1 ≤ n) (h2 : n ≤ 64) :
    Calls Tryz.prog 91 #[.int .i64 n] w fun e w' => e = .returned (.bool true) ∧ w' = w := by
  go_enter Tryz.func91, Tryz.ntmps91
  go_wp2
  go_ret
  exact ⟨rfl, rfl⟩

set_option maxHeartbeats 400000 in
set_option maxRecDepth 20000 in
theorem isWidth_no (n : Int) (w : World) (h : n < 1 ∨ 64 < n) :
    Calls Tryz.prog 91 #[.int .i64 n] w fun e w' => e = .returned (.bool false) ∧ w' = w := by
  by_cases h1 : 1 ≤ n
  · have h2 : ¬ n ≤ 64 := by omega
    go_enter Tryz.func91, Tryz.ntmps91
    go_wp2
    go_ret
    exact ⟨rfl, rfl⟩
  · go_enter Tryz.func91, Tryz.ntmps91
    go_wp2
    go_ret
    exact ⟨rfl, rfl⟩

theorem place_num (n : Int) (h1 : 0 ≤ n) : (128 : Int) / 2 ^ (n % 8).toNat = ((2 ^ (7 - n.toNat % 8) : Nat) : Int) := by
  obtain ⟨m, rfl⟩ := Int.eq_ofNat_of_zero_le h1
  have e : ((m : Int) % 8).toNat = m % 8 := by omega
  rw [e, Int.toNat_natCast]
  have : m % 8 = 0 ∨ m % 8 = 1 ∨ m % 8 = 2 ∨ m % 8 = 3 ∨ m % 8 = 4 ∨ m % 8 = 5 ∨ m % 8 = 6 ∨ m % 8 = 7 := by omega
  rcases this with h | h | h | h | h | h | h | h <;> rw [h] <;> decide

set_option maxHeartbeats 400000 in
set_option maxRecDepth 20000 in
theorem place_any (n : Int) (w : World) (h1 : 0 ≤ n) :
    Calls Tryz.prog 119 #[.int .i64 n] w fun e w' => e = .returned (.int .u8 ((2 ^ (7 - n.toNat % 8) : Nat) : Int)) ∧ w' = w := by
  go_enter Tryz.func119, Tryz.ntmps119
  go_wp2
  go_ret
  exact ⟨ret_int (place_num n h1), rfl⟩

set_option maxHeartbeats 400000 in
set_option maxRecDepth 20000 in
theorem wrong_width (a : Option Addr) (len cap : Nat) (t n : Int) (w : World) (h : n < 1 ∨ 64 < n) :
    Calls Tryz.prog 146 #[.slice a len cap, .int .i64 t, .int .i64 n] w fun e w' => e = .returned (.int .i64 6) ∧ w' = w := by
  go_enter Tryz.func146, Tryz.ntmps146
  go_wp2_with fail
  refine (isWidth_no _ _ h).mono ?_
  rintro e w' ⟨rfl, rfl⟩
  go_wp2
  go_ret
  exact ⟨rfl, rfl⟩

set_option maxHeartbeats 400000 in
set_option maxRecDepth 20000 in
theorem wrong_range (a : Option Addr) (len cap : Nat) (t n : Int) (w : World) (hl : len ≤ 100000) (h1 : 1 ≤ n) (h2 : n ≤ 64) (h : t < 0 ∨ (len : Int) * 8 - n < t) :
    Calls Tryz.prog 146 #[.slice a len cap, .int .i64 t, .int .i64 n] w fun e w' => e = .returned (.int .i64 1) ∧ w' = w := by
  by_cases h0 : t < 0
  · go_enter Tryz.func146, Tryz.ntmps146
    go_wp2_with fail
    refine (isWidth_yes _ _ h1 h2).mono ?_
    rintro e w' ⟨rfl, rfl⟩
    go_wp2
    go_ret
    exact ⟨rfl, rfl⟩
  · have h3 : (len : Int) * 8 - n < t := by omega
    go_enter Tryz.func146, Tryz.ntmps146
    go_wp2_with fail
    refine (isWidth_yes _ _ h1 h2).mono ?_
    rintro e w' ⟨rfl, rfl⟩
    go_wp2
    go_ret
    exact ⟨rfl, rfl⟩

set_option maxHeartbeats 400000 in
set_option maxRecDepth 20000 in
theorem wrong_none (a : Option Addr) (len cap : Nat) (t n : Int) (w : World) (hl : len ≤ 100000) (h1 : 1 ≤ n) (h2 : n ≤ 64) (h0 : 0 ≤ t) (h3 : t ≤ (len : Int) * 8 - n) :
    Calls Tryz.prog 146 #[.slice a len cap, .int .i64 t, .int .i64 n] w fun e w' => e = .returned (.int .i64 0) ∧ w' = w := by
  go_enter Tryz.func146, Tryz.ntmps146
  go_wp2_with fail
  refine (isWidth_yes _ _ h1 h2).mono ?_
  rintro e w' ⟨rfl, rfl⟩
  go_wp2
  go_ret
  exact ⟨rfl, rfl⟩

theorem mask_num (n : Int) (h1 : 1 ≤ n) (h2 : n ≤ 64) : (18446744073709551615 : Int) / 2 ^ (64 - n).toNat = ((2 ^ n.toNat - 1 : Nat) : Int) := by
  obtain ⟨m, rfl⟩ := Int.eq_ofNat_of_zero_le (show 0 ≤ n by omega)
  have e : (64 - (m : Int)).toNat = 64 - m := by omega
  rw [e, Int.toNat_natCast]
  have key : 18446744073709551615 / 2 ^ (64 - m) = 2 ^ m - 1 := by
    have ab : 2 ^ m * 2 ^ (64 - m) = 18446744073709551616 := by
      rw [← Nat.pow_add, show m + (64 - m) = 64 from by omega]
    have a1 : 1 ≤ 2 ^ m := Nat.one_le_two_pow
    have b1 : 1 ≤ 2 ^ (64 - m) := Nat.one_le_two_pow
    apply Nat.div_eq_of_lt_le
    · rw [Nat.sub_mul, ab]; omega
    · rw [show 2 ^ m - 1 + 1 = 2 ^ m from by omega, ab]; omega
  rw [← key]
  simp

set_option maxHeartbeats 400000 in
set_option maxRecDepth 20000 in
theorem mask_yes (n : Int) (w : World) (h1 : 1 ≤ n) (h2 : n ≤ 64) :
    Calls Tryz.prog 71 #[.int .i64 n] w fun e w' => e = .returned (.int .u64 ((2 ^ n.toNat - 1 : Nat) : Int)) ∧ w' = w := by
  go_enter Tryz.func71, Tryz.ntmps71
  go_wp2_with fail
  refine (isWidth_yes _ _ h1 h2).mono ?_
  rintro e w' ⟨rfl, rfl⟩
  go_wp2
  go_ret
  exact ⟨ret_int (mask_num n h1 h2), rfl⟩

set_option maxHeartbeats 400000 in
set_option maxRecDepth 20000 in
theorem mask_no (n : Int) (w : World) (h : n < 1 ∨ 64 < n) :
    Calls Tryz.prog 71 #[.int .i64 n] w fun e w' => e = .returned (.int .u64 0) ∧ w' = w := by
  go_enter Tryz.func71, Tryz.ntmps71
  go_wp2_with fail
  refine (isWidth_no _ _ h).mono ?_
  rintro e w' ⟨rfl, rfl⟩
  go_wp2
  go_ret
  exact ⟨rfl, rfl⟩

end Go.Proofs.YtajelgjbgehahaaGreat

namespace Go.Proofs.YtajelgjbgehahaaGreat
open Go.RowKit

theorem and_test (x : Int) (p : Nat) (h0 : 0 ≤ x) (h1 : x < 256) (hp : p < 8) : (bits BinOp.and IntKind.u8 x (2 ^ p) != 0) = x.toNat.testBit p := by
  have hq : ((2 : Int) ^ p) < 256 := by
    have := Nat.pow_lt_pow_right (a := 2) (by decide) hp
    have e : ((2 ^ p : Nat) : Int) = (2 : Int) ^ p := by simp
    omega
  have hq0 : (0 : Int) ≤ 2 ^ p := Int.le_of_lt (Int.pow_pos (by decide))
  rw [u8_and x (2 ^ p) h0 h1 hq0 hq, toNat_two_pow, nat_bit, Nat.testBit_eq_decide_div_mod_eq]
  have : 0 < 2 ^ p := Nat.two_pow_pos p
  have h2 : x.toNat / 2 ^ p % 2 = 0 ∨ x.toNat / 2 ^ p % 2 = 1 := by omega
  rcases h2 with h2 | h2
  · simp [h2]
  · have hpos : (0 : Int) < 2 ^ p := Int.pow_pos (by decide)
    rw [h2]; simp; omega

theorem wrap_rd (zs : List Int) (t k : Nat) (hk : k < 64) : IntKind.u64.wrap ((Mth.rd zs t k : Int) * 2) = ((2 * Mth.rd zs t k : Nat) : Int) := by
  rw [IntKind.wrap_u64]
  have h := Mth.rd_lt zs t k
  have h2 : 2 ^ k ≤ 2 ^ 63 := Nat.pow_le_pow_right (by decide) (by omega)
  omega

theorem or_rd (zs : List Int) (t k : Nat) (hk : k < 64) : bits BinOp.or IntKind.u64 (IntKind.u64.wrap ((Mth.rd zs t k : Int) * 2)) 1 = ((2 * Mth.rd zs t k + 1 : Nat) : Int) := by
  rw [wrap_rd zs t k hk]
  have h := Mth.rd_lt zs t k
  have h2 : 2 ^ k ≤ 2 ^ 63 := Nat.pow_le_pow_right (by decide) (by omega)
  rw [show (1 : Int) = ((1 : Nat) : Int) from rfl, u64_or_nat _ _ (by omega) (by omega)]
  have := Nat.two_pow_add_eq_or_of_lt (i := 1) (b := 1) (by decide) (Mth.rd zs t k)
  simp only [Nat.pow_one] at this
  rw [← this]

/-- a round that meets a bit that is 1, or 0 -/
theorem rd_step (zs : List Int) (t k : Nat) (hb : Mth.Bytes zs) (c : Bool) (h : (bits BinOp.and IntKind.u8 (zs[(t + k) / 8]?.getD 0) (2 ^ (7 - (t + k) % 8)) != 0) = c) :
    Mth.rd zs t (k + 1) = 2 * Mth.rd zs t k + c.toNat := by
  have e := hb ((t + k) / 8)
  simp only [List.getD_eq_getElem?_getD] at e
  rw [and_test _ _ e.1 e.2 (by omega)] at h
  rw [Mth.rd, Mth.bit, List.getD_eq_getElem?_getD, h]

set_option maxHeartbeats 1000000 in
set_option maxRecDepth 20000 in
theorem read_any (b off len cap t n : Nat) (zs : List Int) (w : World) (hlen : zs.length = len) (hb : Mth.Bytes zs) (hl : len ≤ 100000) (hn : n ≤ 64) (htn : t + n ≤ 8 * len)
    (hc : ∀ i, i < len → w.cell? ⟨b, off + i, none⟩ = some (.int .u8 (zs.getD i 0))) :
    Calls Tryz.prog 147 #[.slice (some ⟨b, off, none⟩) len cap, .int .i64 t, .int .i64 n] w fun e w' => e = .returned (.int .u64 (Mth.rd zs t n)) ∧ ∃ q, w' = w.drewN q := by
  go_enter Tryz.func147, Tryz.ntmps147
  go_wp2
  go_loopw [7, 10] (fun v i wr => ∃ k : Nat, k ≤ n ∧ i = .int .i64 k ∧ v = .int .u64 (Mth.rd zs t k) ∧ Hid (∃ q, wr = w.drewN q)) (fun _ i _ => n - (intOf i).toNat)
  case atStart => exact ⟨0, Nat.zero_le _, rfl, rfl, 0, rfl⟩
  case round =>
    obtain ⟨k, hk, rfl, rfl, hq⟩ := hrel
    by_cases hlt : k < n
    · have hcx : wr.cell? ⟨b, off + (t + k) / 8, none⟩ = some (.int .u8 (zs.getD ((t + k) / 8) 0)) := by
        obtain ⟨q, e⟩ := hq; rw [e]; exact hc ((t + k) / 8) (by omega)
      have hi : (((t : Int) + (k : Int)) / 8).toNat = (t + k) / 8 := by omega
      have h8 : ((t : Int) + (k : Int)) / 8 < (len : Int) := by omega
      have h9 : 0 ≤ ((t : Int) + (k : Int)) / 8 := by omega
      go_wp2
      go_big_quiet ((go_at_call 119; exact Calls.quiet_of_same (place_any _ _ (by omega))))
      go_wp2
      all_goals
        go_roundw
        case measure => simp [intOf]; omega
      case rel =>
        refine ⟨k + 1, by omega, by go_num, vint ?_, ?_⟩
        · rw [or_rd zs t k (by omega), rd_step zs t k hb true ‹_›]; rfl
        · obtain ⟨q, e⟩ := hq; rw [e]; exact ⟨_, World.drewN_drewN _ _ _⟩
      case rel =>
        refine ⟨k + 1, by omega, by go_num, vint ?_, ?_⟩
        · rw [wrap_rd zs t k (by omega), rd_step zs t k hb false ‹_›]; rfl
        · obtain ⟨q, e⟩ := hq; rw [e]; exact ⟨_, World.drewN_drewN _ _ _⟩
    · go_wp2
      go_ret
      exact ⟨ret_int (by rw [show k = n from by omega]), hq⟩
end Go.Proofs.YtajelgjbgehahaaGreat

namespace Go.Proofs.YtajelgjbgehahaaGreat
open Go.RowKit

theorem two_pow_byte (p : Nat) (hp : p < 8) : (0 : Int) ≤ 2 ^ p ∧ (2 : Int) ^ p < 256 := by
  have h := Nat.pow_lt_pow_right (a := 2) (by decide) hp
  have e : ((2 ^ p : Nat) : Int) = (2 : Int) ^ p := by simp
  have e0 : (0 : Int) < 2 ^ p := Int.pow_pos (by decide)
  omega

theorem or_num (x : Int) (p : Nat) (h : 0 ≤ x ∧ x < 256) (hp : p < 8) : bits BinOp.or IntKind.u8 x (2 ^ p) = ((Mth.one x.toNat p true : Nat) : Int) := by
  have h2 := two_pow_byte p hp
  rw [u8_or x (2 ^ p) h.1 h.2 h2.1 h2.2, toNat_two_pow]
  rfl

theorem andNot_num (x : Int) (p : Nat) (h : 0 ≤ x ∧ x < 256) (hp : p < 8) : bits BinOp.andNot IntKind.u8 x (2 ^ p) = ((Mth.one x.toNat p false : Nat) : Int) := by
  have h2 := two_pow_byte p hp
  rw [u8_andNot x (2 ^ p) h.1 h.2 h2.1 h2.2, toNat_two_pow]
  rfl

theorem v_bit (v m : Nat) (hv : v < 18446744073709551616) (c : Bool) (h : (bits BinOp.and IntKind.u64 ((v : Int) / 2 ^ m) 1 != 0) = c) : v.testBit m = c := by
  have e : ((v : Int) / 2 ^ m) = ((v / 2 ^ m : Nat) : Int) := by simp
  have hd : v / 2 ^ m ≤ v := Nat.div_le_self _ _
  rw [e, and_one_u64 _ (Int.natCast_nonneg _) (by omega)] at h
  rw [Nat.testBit_eq_decide_div_mod_eq]
  rw [← h]
  generalize v / 2 ^ m = u
  have : u % 2 = 0 ∨ u % 2 = 1 := by omega
  rcases this with e | e
  · have e' : (u : Int) % 2 = 0 := by omega
    rw [e, e']; decide
  · have e' : (u : Int) % 2 = 1 := by omega
    rw [e, e']; decide

theorem row_step {base g len cap i : Nat} {ys : List Int} {w wr : World} {x : Int} {c d : Bool}
    (hown : wr.ownsRow base 5 1 (.slice (some ⟨g, 0, none⟩) len cap) len (BB ys)) (hgr : w.grownBy wr (some g))
    (hx : x = ((Mth.one (ys.getD (i / 8) 0).toNat (7 - i % 8) c : Nat) : Int)) (hd : d = c) :
    (wr.setCell ⟨g, i / 8, none⟩ (.int .u8 x)).drew.ownsRow base 5 1 (.slice (some ⟨g, 0, none⟩) len cap) len (BB (Mth.put1 ys i d)) ∧ w.grownBy (wr.setCell ⟨g, i / 8, none⟩ (.int .u8 x)).drew (some g) := by
  subst hd
  have h := hown.stored (i / 8) (.int .u8 x)
  refine ⟨?_, ?_⟩
  · have e : BB (Mth.put1 ys i d) = (BB ys).set (i / 8) (.int .u8 x) := by
      simp only [BB, Mth.put1, List.map_set, hx]
    rw [e]
    exact h.1.drew
  · exact ⟨h.2.os.trans hgr.os, h.2.tape.trans hgr.tape, h.2.output.trans hgr.output, Nat.le_trans hgr.size h.2.size, fun k hk hne => (h.2.block k (Nat.lt_of_lt_of_le hk hgr.size) hne).trans (hgr.block k hk hne)⟩

set_option maxHeartbeats 1000000 in
set_option maxRecDepth 20000 in
theorem write_any (base g len cap t n v : Nat) (zs : List Int) (w : World) (hlen : zs.length = len) (hb : Mth.Bytes zs) (hl : len ≤ 100000) (hn : n ≤ 64) (hv : v < 18446744073709551616) (htn : t + n ≤ 8 * len)
    (hown : w.ownsRow base 5 1 (.slice (some ⟨g, 0, none⟩) len cap) len (BB zs)) :
    Calls Tryz.prog 92 #[.slice (some ⟨g, 0, none⟩) len cap, .int .i64 t, .int .i64 n, .int .u64 v] w fun e w' => e = .returned (.tuple #[]) ∧
      w'.ownsRow base 5 1 (.slice (some ⟨g, 0, none⟩) len cap) len (BB (Mth.wr zs t n v n)) ∧ w.grownBy w' (some g) := by
  go_enter Tryz.func92, Tryz.ntmps92
  go_wp2
  go_loopw [11] (fun i wr => ∃ k : Nat, k ≤ n ∧ i = .int .i64 k ∧ wr.ownsRow base 5 1 (.slice (some ⟨g, 0, none⟩) len cap) len (BB (Mth.wr zs t n v k)) ∧ w.grownBy wr (some g)) (fun i _ => n - (intOf i).toNat)
  case atStart => exact ⟨0, Nat.zero_le _, rfl, hown, ⟨rfl, rfl, rfl, Nat.le_refl _, fun _ _ _ => rfl⟩⟩
  case round =>
    obtain ⟨k, hk, rfl, hown', hgr⟩ := hrel
    by_cases hlt : k < n
    · have hbk := Mth.wr_bytes zs t n v k hb
      have hlk := Mth.wr_length zs t n v k
      generalize hys : Mth.wr zs t n v k = ys at *
      have hcx : wr.cell? ⟨g, (t + k) / 8, none⟩ = some (.int .u8 (ys.getD ((t + k) / 8) 0)) := by
        rw [hown'.cellAt ((t + k) / 8) (by omega)]
        simp only [BB, List.getElem?_map, List.getD_eq_getElem?_getD]
        rw [List.getElem?_eq_getElem (by omega)]; rfl
      have hfx : wr.frozen? ⟨g, (t + k) / 8, none⟩ = false := hown'.frozenAt _
      have hi : (((t : Int) + (k : Int)) / 8).toNat = (t + k) / 8 := by omega
      have h8 : ((t : Int) + (k : Int)) / 8 < (len : Int) := by omega
      have h9 : 0 ≤ ((t : Int) + (k : Int)) / 8 := by omega
      have hwr : IntKind.i64.wrap ((t : Int) + (k : Int)) = (t : Int) + (k : Int) := wrap_small _ (by omega) (by omega)
      have hbx := hbk ((t + k) / 8)
      have HY : Hid (Mth.wr zs t n v k = ys) := hys
      clear hys
      go_wp2
      all_goals go_region_with (go_at_call 119; refine (place_any _ _ (by omega)).mono ?_; rintro e w' ⟨rfl, rfl⟩)
      all_goals go_wp2
      all_goals
        go_roundw
        case measure => simp [intOf]; omega
      · case rel => exact ⟨k + 1, by omega, by go_num, by rw [Mth.wr, HY.out]; exact row_step hown' hgr (or_num _ _ hbx (by omega)) (v_bit v (n - 1 - k) hv true ‹_›)⟩
      · case rel => exact ⟨k + 1, by omega, by go_num, by rw [Mth.wr, HY.out]; exact row_step hown' hgr (or_num _ _ hbx (by omega)) (v_bit v (n - 1 - k) hv true ‹_›)⟩
      · case rel => exact ⟨k + 1, by omega, by go_num, by rw [Mth.wr, HY.out]; exact row_step hown' hgr (andNot_num _ _ hbx (by omega)) (v_bit v (n - 1 - k) hv false ‹_›)⟩
      · case rel => exact ⟨k + 1, by omega, by go_num, by rw [Mth.wr, HY.out]; exact row_step hown' hgr (andNot_num _ _ hbx (by omega)) (v_bit v (n - 1 - k) hv false ‹_›)⟩
    · go_wp2
      go_end0
      have e : k = n := by omega
      subst e
      exact ⟨rfl, hown', hgr⟩
end Go.Proofs.YtajelgjbgehahaaGreat

namespace Go.Proofs.YtajelgjbgehahaaGreat
open Go.RowKit

def codeOf (len : Nat) (t n : Int) : Int := if n < 1 ∨ 64 < n then 6 else if t < 0 ∨ (len : Int) * 8 - n < t then 1 else 0

theorem wrong_any (a : Option Addr) (len cap : Nat) (t n : Int) (w : World) (hl : len ≤ 100000) :
    Calls Tryz.prog 146 #[.slice a len cap, .int .i64 t, .int .i64 n] w fun e w' => e = .returned (.int .i64 (codeOf len t n)) ∧ w' = w := by
  unfold codeOf
  split
  · exact wrong_width a len cap t n w ‹_›
  · split
    · exact wrong_range a len cap t n w hl (by omega) (by omega) ‹_›
    · exact wrong_none a len cap t n w hl (by omega) (by omega) (by omega) (by omega)

theorem code_ok {len : Nat} {t n : Int} (h : codeOf len t n = 0) : 1 ≤ n ∧ n ≤ 64 ∧ 0 ≤ t ∧ t + n ≤ 8 * (len : Int) := by
  unfold codeOf at h
  split at h
  · simp at h
  · split at h
    · simp at h
    · omega

set_option maxHeartbeats 1000000 in
set_option maxRecDepth 20000 in
theorem get_no (a : Option Addr) (len cap : Nat) (t n : Int) (w : World) (hl : len ≤ 100000) (hcode : codeOf len t n ≠ 0) :
    Calls Tryz.prog 138 #[.slice a len cap, .int .i64 t, .int .i64 n] w fun e w' => e = .returned (.tuple #[.int .u64 0, .agg #[.int .i64 (codeOf len t n), .int .i64 (-1)]]) ∧ Below w.heap.size w w' := by
  have hc : (codeOf len t n != 0) = true := by simpa using hcode
  clear hcode
  go_enter Tryz.func138, Tryz.ntmps138
  go_wp2_with fail
  refine (wrong_any _ _ _ _ _ _ hl).mono ?_
  rintro e w' ⟨rfl, rfl⟩
  go_wp2
  exact bodyPost_ret (v := .tuple #[.int .u64 0, .agg #[.int .i64 (codeOf len t n), .int .i64 (-1)]]) (by simp [results, Tryz.results138, go_sem]) rfl ⟨rfl, (Below.refl _ _).alloc (Nat.le_refl _) _⟩

set_option maxHeartbeats 1000000 in
set_option maxRecDepth 20000 in
theorem get_yes (a : Option Addr) (len cap t n : Nat) (zs : List Int) (w : World) (hl : len ≤ 100000) (hz : Has .u8 w a len zs) (hcode : codeOf len t n = 0) :
    Calls Tryz.prog 138 #[.slice a len cap, .int .i64 t, .int .i64 n] w fun e w' => e = .returned (.tuple #[.int .u64 (Mth.rd zs t n), .agg #[.int .i64 0, .int .i64 0]]) ∧ Below w.heap.size w w' := by
  have hk := code_ok hcode
  have hc : (codeOf len t n != 0) = false := by simpa using hcode
  obtain ⟨b, off, rfl, hlt, hcell⟩ := hz.some (by omega)
  have hbytes := hz.bytes
  have hlen := hz.1
  have hcell' : ∀ i, i < len → (w.alloc (.cells #[.int .i64 0, .int .i64 0] 28)).cell? ⟨b, off + i, none⟩ = some (.int .u8 (zs.getD i 0)) := fun i hi =>
    (((Below.refl w.heap.size w).alloc (Nat.le_refl _) _).cell (p := ⟨b, off + i, none⟩) hlt).trans (hcell i hi)
  clear hcode hcell hz
  have hread := read_any b off len cap t n zs _ hlen hbytes hl (by omega) (by omega) hcell'
  have HC : Hid (∀ i, i < len → (w.alloc (.cells #[.int .i64 0, .int .i64 0] 28)).cell? ⟨b, off + i, none⟩ = some (.int .u8 (zs.getD i 0))) := hcell'
  have HL : Hid (zs.length = len) := hlen
  clear hcell' hread hlen
  go_enter Tryz.func138, Tryz.ntmps138
  go_wp2_with fail
  refine (wrong_any _ _ _ _ _ _ hl).mono ?_
  rintro e w' ⟨rfl, rfl⟩
  go_wp2_with fail
  refine (read_any b off len cap t n zs _ HL.out hbytes hl (by omega) (by omega) HC.out).mono ?_
  rintro e w' ⟨rfl, q, rfl⟩
  go_wp2
  exact bodyPost_ret (v := .tuple #[.int .u64 (Mth.rd zs t n), .agg #[.int .i64 0, .int .i64 0]]) (by simp [results, Tryz.results138, go_sem]) rfl ⟨rfl, ((below_drewN ((Below.refl _ _).alloc (Nat.le_refl _) _) q).setCell (Nat.le_refl _) _).setCell (Nat.le_refl _) _⟩

end Go.Proofs.YtajelgjbgehahaaGreat

namespace Go.Proofs.YtajelgjbgehahaaGreat
open Go.RowKit

/-- what Mask tells -/
def maskN (n : Int) : Int := if 1 ≤ n ∧ n ≤ 64 then ((2 ^ n.toNat - 1 : Nat) : Int) else 0

theorem ones_step (k : Nat) (h : k < 64) : IntKind.u64.wrap (IntKind.u64.wrap (2 * ((2 ^ k - 1 : Nat) : Int)) + 1) = ((2 ^ (k + 1) - 1 : Nat) : Int) := by
  have h1 : 2 ^ k ≤ 2 ^ 63 := Nat.pow_le_pow_right (by decide) (by omega)
  have h2 : 1 ≤ 2 ^ k := Nat.one_le_two_pow
  rw [IntKind.wrap_u64, IntKind.wrap_u64, Nat.pow_succ]
  omega

end Go.Proofs.YtajelgjbgehahaaGreat

namespace Go.Proofs.YtajelgjbgehahaaGreat
open Go.RowKit

theorem get_int (a : Option Addr) (len cap : Nat) (t n : Int) (zs : List Int) (w : World) (hl : len ≤ 100000) (hz : Has .u8 w a len zs) (hcode : codeOf len t n = 0) :
    Calls Tryz.prog 138 #[.slice a len cap, .int .i64 t, .int .i64 n] w fun e w' => e = .returned (.tuple #[.int .u64 (Mth.rd zs t.toNat n.toNat), .agg #[.int .i64 0, .int .i64 0]]) ∧ Below w.heap.size w w' := by
  have hk := code_ok hcode
  obtain ⟨t', rfl⟩ := Int.eq_ofNat_of_zero_le hk.2.2.1
  obtain ⟨n', rfl⟩ := Int.eq_ofNat_of_zero_le (show 0 ≤ n by omega)
  exact get_yes a len cap t' n' zs w hl hz hcode

theorem two_bytes (w : World) : Has .u8 (w.alloc (.cells #[.int .u8 171, .int .u8 205] 5)) (some ⟨w.heap.size, 0, none⟩) 2 [171, 205] := by
  refine ⟨rfl, by intro n hn; simp at hn; rcases hn with rfl | rfl <;> decide, .inr ⟨_, _, rfl, by simp, ?_⟩⟩
  intro i hi
  match i, hi with
  | 0, _ => simp
  | 1, _ => simp

/-- what Mask tells -/
theorem mask_int (n : Int) (w : World) : Calls Tryz.prog 71 #[.int .i64 n] w fun e w' => e = .returned (.int .u64 (maskN n)) ∧ w' = w := by
  unfold maskN
  split
  · exact mask_yes n w (by omega) (by omega)
  · exact mask_no n w (by omega)

theorem and_mask (v n : Int) (hv : 0 ≤ v ∧ v < 18446744073709551616) (hn : 1 ≤ n ∧ n ≤ 64) : bits BinOp.and IntKind.u64 v (maskN n) = ((v.toNat % 2 ^ n.toNat : Nat) : Int) := by
  unfold maskN
  rw [if_pos hn]
  obtain ⟨v', rfl⟩ := Int.eq_ofNat_of_zero_le hv.1
  have h1 : 2 ^ n.toNat ≤ 2 ^ 64 := Nat.pow_le_pow_right (by decide) (by omega)
  rw [u64_and_nat _ _ (by omega) (by omega), Nat.and_two_pow_sub_one_eq_mod]
  rfl
end Go.Proofs.YtajelgjbgehahaaGreat

namespace Go.Proofs.YtajelgjbgehahaaGreat
open Go.RowKit

theorem write_int (base g len cap : Nat) (t n v : Int) (zs : List Int) (w : World) (hlen : zs.length = len) (hb : Mth.Bytes zs) (hl : len ≤ 100000) (ht : 0 ≤ t) (hn0 : 0 ≤ n) (hn : n ≤ 64) (hv : 0 ≤ v ∧ v < 18446744073709551616) (htn : t + n ≤ 8 * (len : Int))
    (hown : w.ownsRow base 5 1 (.slice (some ⟨g, 0, none⟩) len cap) len (BB zs)) :
    Calls Tryz.prog 92 #[.slice (some ⟨g, 0, none⟩) len cap, .int .i64 t, .int .i64 n, .int .u64 v] w fun e w' => e = .returned (.tuple #[]) ∧
      w'.ownsRow base 5 1 (.slice (some ⟨g, 0, none⟩) len cap) len (BB (Mth.wr zs t.toNat n.toNat v.toNat n.toNat)) ∧ w.grownBy w' (some g) := by
  obtain ⟨t', rfl⟩ := Int.eq_ofNat_of_zero_le ht
  obtain ⟨n', rfl⟩ := Int.eq_ofNat_of_zero_le hn0
  obtain ⟨v', rfl⟩ := Int.eq_ofNat_of_zero_le hv.1
  exact write_any base g len cap t' n' v' zs w hlen hb hl (by omega) (by omega) (by omega) hown

set_option maxHeartbeats 400000 in
set_option maxRecDepth 20000 in
theorem join_many (a b : Option Addr) (n c m d : Nat) (w : World) (h : n ≠ m) :
    Calls Tryz.prog 72 #[.slice a n c, .slice b m d] w fun e w' => e = .returned (.tuple #[.slice none 0 0, .agg #[.int .i64 2, .int .i64 (-1)]]) ∧ Below w.heap.size w w' := by
  have hne : ((n : Int) != (m : Int)) = true := by rw [bne_iff_ne]; omega
  clear h
  go_enter Tryz.func72, Tryz.ntmps72
  go_wp2
  exact bodyPost_ret (v := .tuple #[.slice none 0 0, .agg #[.int .i64 2, .int .i64 (-1)]]) (by simp [results, Tryz.results72, go_sem]) rfl ⟨rfl, (Below.refl _ _).alloc (Nat.le_refl _) _⟩

set_option maxHeartbeats 1000000 in
set_option maxRecDepth 20000 in
theorem join_width (a b : Option Addr) (m c d i : Nat) (ws : List Int) (w : World) (hm : m ≤ 1000) (hw : Has .i64 w b m ws) (hi : i < m) (hgood : ∀ j, j < i → Mth.Wide ws j) (hbad : ¬ Mth.Wide ws i) :
    Calls Tryz.prog 72 #[.slice a m c, .slice b m d] w fun e w' => e = .returned (.tuple #[.slice none 0 0, .agg #[.int .i64 6, .int .i64 i]]) ∧ Below w.heap.size w w' := by
  have hne : ((m : Int) != (m : Int)) = false := by simp
  obtain ⟨p, o, rfl, hlt, hcell⟩ := hw.some (by omega)
  have hcell' : Hid (∀ i, i < m → (w.alloc (.cells #[.int .i64 0, .int .i64 0] 28)).cell? ⟨p, o + i, none⟩ = some (.int .i64 (ws.getD i 0))) := fun i hi =>
    ((bl_alloc (Below.refl w.heap.size w)).cell (p := ⟨p, o + i, none⟩) hlt).trans (hcell i hi)
  clear hcell hw
  go_enter Tryz.func72, Tryz.ntmps72
  go_wp2
  go_loop [6, 21] (fun t q => ∃ k : Nat, k ≤ i ∧ q = .int .i64 k ∧ t = .int .i64 (Mth.off ws k)) (fun _ q => m - (intOf q).toNat)
  case atStart => exact ⟨0, Nat.zero_le _, rfl, rfl⟩
  case round =>
    obtain ⟨k, hk, rfl, rfl⟩ := hrel
    have hcx := hcell'.out k (by omega)
    have ho := Mth.off_le ws k (fun j hj => hgood j (by omega))
    by_cases hki : k = i
    · subst hki
      unfold Mth.Wide at hbad
      simp only [List.getD_eq_getElem?_getD] at hbad hcx
      generalize ws[k]?.getD 0 = x at *
      go_wp2_with fail
      refine (isWidth_no _ _ (by omega)).mono ?_
      rintro e w' ⟨rfl, rfl⟩
      go_wp2
      exact bodyPost_ret (v := .tuple #[.slice none 0 0, .agg #[.int .i64 6, .int .i64 k]]) (by simp [results, Tryz.results72, go_sem]) rfl ⟨rfl, (Below.refl _ _).alloc (Nat.le_refl _) _⟩
    · have hg := hgood k (by omega)
      unfold Mth.Wide at hg
      have hoff : Hid (Mth.off ws (k + 1) = Mth.off ws k + (ws.getD k 0).toNat) := rfl
      simp only [List.getD_eq_getElem?_getD] at hg hcx hoff
      generalize ws[k]?.getD 0 = x at *
      go_wp2_with fail
      refine (isWidth_yes _ _ hg.1 hg.2).mono ?_
      rintro e w' ⟨rfl, rfl⟩
      go_wp2
      go_round
      case rel => exact ⟨k + 1, by omega, by go_num, vint (by rw [hoff.out]; omega)⟩
      case measure => simp [intOf]; omega

abbrev F0 : Obj := .cells #[.int .i64 0, .int .i64 0] 28

theorem Has.num {w : World} {a : Option Addr} {len : Nat} {zs : List Int} (h : Has .u64 w a len zs) (i : Nat) : 0 ≤ zs.getD i 0 ∧ zs.getD i 0 < 18446744073709551616 := by
  by_cases hi : i < zs.length
  · have := bounds_u64 (h.2.1 zs[i] (List.getElem_mem hi))
    simp only [List.getD_eq_getElem?_getD, List.getElem?_eq_getElem hi, Option.getD_some]
    omega
  · simp [List.getD_eq_getElem?_getD, List.getElem?_eq_none (Nat.le_of_not_lt hi)]

theorem fault_cells {w wr : World} (hb : Below (w.heap.size + 1) (w.alloc F0) wr) :
    wr.cell? ⟨w.heap.size, 0, none⟩ = some (.int .i64 0) ∧ wr.cell? ⟨w.heap.size, 1, none⟩ = some (.int .i64 0) ∧ wr.frozen? ⟨w.heap.size, 0, none⟩ = false ∧ wr.frozen? ⟨w.heap.size, 1, none⟩ = false ∧ w.heap.size < wr.heap.size :=
  ⟨(hb.cell (p := ⟨w.heap.size, 0, none⟩) (by simp)).trans (by simp), (hb.cell (p := ⟨w.heap.size, 1, none⟩) (by simp)).trans (by simp),
   (hb.frozen (p := ⟨w.heap.size, 0, none⟩) (by simp)).trans (by simp), (hb.frozen (p := ⟨w.heap.size, 1, none⟩) (by simp)).trans (by simp), by have := hb.size; simp at this; omega⟩

theorem made_zero (n : Nat) : (madeCells (Value.int .u8 0).cells (n * 1)).toList = BB (List.replicate n 0) := by
  rw [Nat.mul_one]
  have := toList_madeCells_one (.int .u8 0) n
  simp only [BB, List.map_replicate]
  exact this

set_option maxHeartbeats 2000000 in
set_option maxRecDepth 20000 in
theorem join_good (a b : Option Addr) (m c d : Nat) (ls ws : List Int) (w : World) (hm : m ≤ 1000) (hv : Has .u64 w a m ls) (hw : Has .i64 w b m ws) (hgood : ∀ j, j < m → Mth.Wide ws j) :
    Calls Tryz.prog 72 #[.slice a m c, .slice b m d] w fun e w' => ∃ g cap', e = .returned (.tuple #[.slice (some ⟨g, 0, none⟩) ((Mth.off ws m + 7) / 8) cap', .agg #[.int .i64 0, .int .i64 0]]) ∧
      Has .u8 w' (some ⟨g, 0, none⟩) ((Mth.off ws m + 7) / 8) (Mth.jn ls ws ((Mth.off ws m + 7) / 8) m) ∧ Below w.heap.size w w' := by
  have hne : ((m : Int) != (m : Int)) = false := by simp
  have HG : Hid (∀ j, j < m → Mth.Wide ws j) := hgood
  have ho := Mth.off_le ws m hgood
  obtain ⟨i0, hi, hz0, hz1, hz2⟩ := info_parts Tryz.info5
  clear hgood
  go_enter Tryz.func72, Tryz.ntmps72
  go_wp2
  go_loop [6, 21] (fun t q => ∃ k : Nat, k ≤ m ∧ q = .int .i64 k ∧ t = .int .i64 (Mth.off ws k)) (fun _ q => m - (intOf q).toNat)
  case atStart => exact ⟨0, Nat.zero_le _, rfl, rfl⟩
  case round =>
    obtain ⟨k, hk, rfl, rfl⟩ := hrel
    by_cases hlt : k < m
    · obtain ⟨p, o, rfl, hpl, hcell⟩ := hw.some (by omega)
      have hcx := ((bl_alloc (o := .cells #[.int .i64 0, .int .i64 0] 28) (Below.refl w.heap.size w)).cell (p := ⟨p, o + k, none⟩) hpl).trans (hcell k hlt)
      clear hcell
      have hg := HG.out k hlt
      have ho := Mth.off_le ws k (fun j hj => HG.out j (by omega))
      unfold Mth.Wide at hg
      have hoff : Hid (Mth.off ws (k + 1) = Mth.off ws k + (ws.getD k 0).toNat) := rfl
      simp only [List.getD_eq_getElem?_getD] at hg hcx hoff
      generalize ws[k]?.getD 0 = x at *
      go_wp2_with fail
      refine (isWidth_yes _ _ hg.1 hg.2).mono ?_
      rintro e w' ⟨rfl, rfl⟩
      go_wp2
      go_round
      case rel => exact ⟨k + 1, by omega, by go_num, vint (by rw [hoff.out]; omega)⟩
      case measure => simp [intOf]; omega
    · have ek : k = m := by omega
      subst ek
      generalize hN : (Mth.off ws k + 7) / 8 = N at *
      have HN : Hid ((Mth.off ws k + 7) / 8 = N) := hN
      clear hN
      go_wp2_with (at_make; refine wpList_make_full _ rfl _ _ 40 rfl (w.heap.size + 1) 5 i0 (.int .u8 0) 1 Tryz.underlying40 hi hz0 hz1 _ _ _ _ N rfl rfl ?m1 ?m2 ?m3 ?m4 ?m5 ?_)
      case m1 => rw [← HN.out]; omega
      case m2 => rw [← HN.out]; omega
      case m3 => rw [← HN.out]; omega
      case m4 => rw [← HN.out]; unfold maxLen; omega
      intro w1 hown0 hgr
      have hb1 : Below (w.heap.size + 1) (w.alloc F0) w1 := (Below.refl _ _).grown hgr (by simp) (by intro k hk; simp at hk)
      have hown : w1.ownsRow (w.heap.size + 1) 5 1 (.slice (some ⟨w.heap.size + 1, 0, none⟩) N N) N (BB (Mth.jn ls ws N 0)) := by
        have e := made_zero N
        rw [Nat.mul_one] at e
        rw [Mth.jn, ← e]
        exact hown0
      clear hown0 hgr
      go_wp2
      go_loopw [10, 42] (fun t q wr => ∃ j : Nat, j ≤ k ∧ q = .int .i64 j ∧ t = .int .i64 (Mth.off ws j) ∧ wr.ownsRow (w.heap.size + 1) 5 1 (.slice (some ⟨w.heap.size + 1, 0, none⟩) N N) N (BB (Mth.jn ls ws N j)) ∧ Below (w.heap.size + 1) (w.alloc F0) wr) (fun _ q _ => k - (intOf q).toNat)
      case atStart => exact ⟨0, Nat.zero_le _, rfl, rfl, hown, hb1⟩
      case round =>
        obtain ⟨j, hj, rfl, rfl, hownj, hbj⟩ := hrel
        clear hown hb1
        by_cases hjk : j < k
        · obtain ⟨p, o, rfl, hpl, hcell⟩ := hw.some (by omega)
          obtain ⟨p2, o2, rfl, hpl2, hcell2⟩ := hv.some (by omega)
          have hcx : wr.cell? ⟨p, o + j, none⟩ = some (.int .i64 (ws.getD j 0)) := (hbj.cell (p := ⟨p, o + j, none⟩) (Nat.lt_succ_of_lt hpl)).trans (((bl_alloc (Below.refl w.heap.size w)).cell (p := ⟨p, o + j, none⟩) hpl).trans (hcell j hjk))
          have hcy : wr.cell? ⟨p2, o2 + j, none⟩ = some (.int .u64 (ls.getD j 0)) := (hbj.cell (p := ⟨p2, o2 + j, none⟩) (Nat.lt_succ_of_lt hpl2)).trans (((bl_alloc (Below.refl w.heap.size w)).cell (p := ⟨p2, o2 + j, none⟩) hpl2).trans (hcell2 j hjk))
          clear hcell hcell2
          have hg := HG.out j hjk
          have hoj := Mth.off_mono ws (j + 1) k (by omega)
          have hoff : Hid (Mth.off ws (j + 1) = Mth.off ws j + (ws.getD j 0).toNat) := rfl
          have hjn : Hid (Mth.jn ls ws N (j + 1) = Mth.wr (Mth.jn ls ws N j) (Mth.off ws j) (ws.getD j 0).toNat (ls.getD j 0).toNat (ws.getD j 0).toNat) := rfl
          have hly := hv.num j
          unfold Mth.Wide at hg
          rw [hoff.out] at hoj
          simp only [List.getD_eq_getElem?_getD] at hg hcx hcy hoff hjn hly hoj
          generalize ws[j]?.getD 0 = x at *
          generalize ls[j]?.getD 0 = y at *
          have hlenj := Mth.jn_length ls ws N j
          have hbyj := Mth.jn_bytes ls ws N j
          have HL : Hid ((Mth.jn ls ws N j).length = N) := hlenj
          clear hlenj
          have hN7 : Mth.off ws k ≤ 8 * N ∧ N ≤ 100000 := by rw [← HN.out]; omega
          go_wp2_with fail
          refine (write_int _ _ N N _ _ _ _ wr HL.out hbyj hN7.2 (by omega) (by omega) hg.2 hly (by omega) hownj).mono ?_
          rintro e w2 ⟨rfl, hown2, hgr2⟩
          have hb2 := hbj.grown hgr2 (by have := hbj.size; simpa using this) (by intro q hq; simp only [Option.some.injEq] at hq; omega)
          rw [Int.toNat_natCast, ← hjn.out] at hown2
          clear hownj hbj
          go_wp2
          go_roundw
          case rel => exact ⟨j + 1, by omega, by go_num, vint (by rw [hoff.out]; omega), hown2, hb2⟩
          case measure => simp [intOf]; omega
        · have ej : j = k := by omega
          subst ej
          obtain ⟨c0, c1, f0, f1, hsz⟩ := fault_cells hbj
          have HO : Hid (wr.ownsRow (w.heap.size + 1) 5 1 (.slice (some ⟨w.heap.size + 1, 0, none⟩) N N) N (BB (Mth.jn ls ws N j))) := hownj
          clear hownj
          go_wp2
          have h2 := ownsRow_setCell_below (ownsRow_setCell_below HO.out (a := ⟨w.heap.size, 0, none⟩) (Nat.lt_succ_self _) (.int .i64 0)) (a := ⟨w.heap.size, 1, none⟩) (Nat.lt_succ_self _) (.int .i64 0)
          rw [HN.out]
          exact bodyPost_ret (v := .tuple #[.slice (some ⟨w.heap.size + 1, 0, none⟩) N N, .agg #[.int .i64 0, .int .i64 0]]) (by simp [results, Tryz.results72, go_sem, c0, c1]) rfl
            ⟨w.heap.size + 1, N, rfl, has_of_owns h2 (Mth.jn_bytes _ _ _ _), ((((Below.refl w.heap.size w).alloc (Nat.le_refl _) _).trans (hbj.mono (Nat.le_succ _))).setCell (Nat.le_refl _) _).setCell (Nat.le_refl _) _⟩
end Go.Proofs.YtajelgjbgehahaaGreat

namespace Go.Proofs.YtajelgjbgehahaaGreat
open Go.RowKit

theorem one_cell64 (w : World) (y : Value) : ∀ (j : Nat) (u : Value), [y][j]? = some u → ((w.alloc F0).alloc (.cells #[y] 22)).cell? ((⟨w.heap.size + 1, 0, none⟩ : Addr).add j) = some u := by
  intro j u hj
  match j, hj with
  | 0, hj => simp at hj; subst hj; simp [Addr.add]

theorem rd_num (zs : List Int) (t n : Nat) (h : n ≤ 64) : 0 ≤ (Mth.rd zs t n : Int) ∧ (Mth.rd zs t n : Int) < 18446744073709551616 := by
  have h1 := Mth.rd_lt zs t n
  have h2 : 2 ^ n ≤ 2 ^ 64 := Nat.pow_le_pow_right (by decide) h
  omega

theorem parts_num {len : Nat} (zs : List Int) (t : Int) (ws : List Int) (k : Nat) (h : ∀ j, j < k → codeOf len (t + (Mth.off ws j : Int)) (ws.getD j 0) = 0) : ∀ n ∈ Mth.parts zs t ws k, 0 ≤ n ∧ n < 18446744073709551616 := by
  intro n hn
  simp only [Mth.parts, List.mem_map, List.mem_range] at hn
  obtain ⟨j, hj, rfl⟩ := hn
  have := code_ok (h j hj)
  exact rd_num _ _ _ (by omega)

theorem get_two (a : Option Addr) (len cap : Nat) (t n : Int) (zs : List Int) (w : World) (hl : len ≤ 100000) (hz : Has .u8 w a len zs) :
    Calls Tryz.prog 138 #[.slice a len cap, .int .i64 t, .int .i64 n] w fun e w' => e = .returned (.tuple #[.int .u64 (if codeOf len t n = 0 then (Mth.rd zs t.toNat n.toNat : Int) else 0), .agg #[.int .i64 (codeOf len t n), .int .i64 (if codeOf len t n = 0 then 0 else -1)]]) ∧ Below w.heap.size w w' := by
  by_cases h : codeOf len t n = 0
  · rw [if_pos h, if_pos h, h]
    exact get_int a len cap t n zs w hl hz h
  · rw [if_neg h, if_neg h]
    exact get_no a len cap t n w hl h

set_option maxHeartbeats 2000000 in
set_option maxRecDepth 20000 in
theorem part_good (a b : Option Addr) (len c m d : Nat) (t : Int) (zs ws : List Int) (w : World) (hl : len ≤ 100000) (hm : m ≤ 1000) (hz : Has .u8 w a len zs) (hw : Has .i64 w b m ws)
    (hgood : ∀ j, j < m → codeOf len (t + (Mth.off ws j : Int)) (ws.getD j 0) = 0) :
    Calls Tryz.prog 112 #[.slice a len c, .int .i64 t, .slice b m d] w fun e w' => ∃ g cap', e = .returned (.tuple #[.slice g m cap', .agg #[.int .i64 0, .int .i64 0]]) ∧
      Has .u64 w' g m (Mth.parts zs t ws m) ∧ Below w.heap.size w w' := by
  have HG : Hid (∀ j, j < m → codeOf len (t + (Mth.off ws j : Int)) (ws.getD j 0) = 0) := hgood
  obtain ⟨i0, hi, hz0, hz1, hz2⟩ := info_parts Tryz.info22
  clear hgood
  go_enter Tryz.func112, Tryz.ntmps112
  go_wp2
  go_loopw [1, 8, 15] (fun s v q wr => ∃ k : Nat, k ≤ m ∧ q = .int .i64 k ∧ s = .int .i64 (t + (Mth.off ws k : Int)) ∧ wr.ownsRow (w.heap.size + 1) 22 1 v k (UU (Mth.parts zs t ws k)) ∧ Below (w.heap.size + 1) (w.alloc F0) wr) (fun _ _ q _ => m - (intOf q).toNat)
  case atStart => exact ⟨0, Nat.zero_le _, rfl, by simp [Mth.off], World.ownsRow_nil _ _ _ _, Below.refl _ _⟩
  case round =>
    obtain ⟨k, hk, rfl, rfl, hown, hbk⟩ := hrel
    by_cases hlt : k < m
    · obtain ⟨p, o, rfl, hpl, hcell⟩ := hw.some (by omega)
      have hcx : wr.cell? ⟨p, o + k, none⟩ = some (.int .i64 (ws.getD k 0)) := (hbk.cell (p := ⟨p, o + k, none⟩) (Nat.lt_succ_of_lt hpl)).trans (((bl_alloc (Below.refl w.heap.size w)).cell (p := ⟨p, o + k, none⟩) hpl).trans (hcell k hlt))
      clear hcell
      have hz' : Has .u8 wr a len zs := hz.alloc.below hbk (by simp)
      have hg := HG.out k hlt
      have hcd := code_ok hg
      have hoff : Hid (Mth.off ws (k + 1) = Mth.off ws k + (ws.getD k 0).toNat) := rfl
      have hpt : Hid (Mth.parts zs t ws (k + 1) = Mth.parts zs t ws k ++ [(Mth.rd zs (t + (Mth.off ws k : Int)).toNat (ws.getD k 0).toNat : Int)]) := Mth.parts_succ zs t ws k
      simp only [List.getD_eq_getElem?_getD] at hg hcx hoff hcd hpt
      generalize ws[k]?.getD 0 = x at *
      have HC : Hid (codeOf len (t + (Mth.off ws k : Int)) x = 0) := hg
      clear hg
      go_wp2_with fail
      refine (get_int _ _ _ _ _ _ _ hl hz' HC.out).mono ?_
      rintro e w1 ⟨rfl, hb1⟩
      have hown1 := owns_below hown hb1
      have hb1' := hbk.trans (hb1.mono (by have := hbk.size; simpa using this))
      clear hown hbk hcx hz'
      generalize Mth.rd zs (t + (Mth.off ws k : Int)).toNat x.toNat = y at *
      generalize Mth.parts zs t ws k = ps at *
      go_wp2_with (at_builtin; refine wpList_append_own _ rfl _ _ 53 rfl (w.heap.size + 1) 22 i0 (.int .u64 0) 1 8 Tryz.underlying53 hi hz0 hz1 hz2 rfl (by decide) _ k (UU ps) rfl ?c0 ⟨w1.heap.size + 1, 0, none⟩ 1 1 [.int .u64 y] rfl rfl ?c1 ?c2 ?c3 ?c4 ?c5 ?_)
      case c0 => exact (hown1.alloc _).alloc _
      case c1 => exact one_cell64 _ _
      case c2 => intro u hu; simp at hu; subst hu; rfl
      case c3 => unfold maxLen; omega
      case c4 => omega
      case c5 => have := hb1'.size; simp at this; simp; omega
      intro v' w2 hown2 hgr2 hne2
      have hb2 := ((hb1'.alloc (by have := hb1'.size; simpa using this) F0).alloc (by have := hb1'.size; simp at this; simp; omega) (.cells #[.int .u64 y] 22)).grown hgr2 (by have := hb1'.size; simp at this; simp; omega) (fun q hq => (hown1.lt q hq).1)
      have hown3 : w2.ownsRow (w.heap.size + 1) 22 1 v' (k + 1) (UU (ps ++ [(y : Int)])) := by
        simp only [UU, List.map_append, List.map_cons, List.map_nil]; exact hown2
      clear hown1 hown2 hgr2 hb1' hb1 hne2
      go_wp2
      go_roundw
      case rel => exact ⟨k + 1, by omega, by go_num, vint (by rw [hoff.out]; omega), by rw [hpt.out]; exact hown3, hb2⟩
      case measure => simp [intOf]; omega
    · have ek : k = m := by omega
      subst ek
      obtain ⟨c0, c1, f0, f1, hsz⟩ := fault_cells hbk
      have HO : Hid (wr.ownsRow (w.heap.size + 1) 22 1 u8 k (UU (Mth.parts zs t ws k))) := hown
      clear hown
      go_wp2
      have h2 := ownsRow_setCell_below (ownsRow_setCell_below HO.out (a := ⟨w.heap.size, 0, none⟩) (Nat.lt_succ_self _) (.int .i64 0)) (a := ⟨w.heap.size, 1, none⟩) (Nat.lt_succ_self _) (.int .i64 0)
      obtain ⟨g, cp, eg, hg⟩ := has_of_owns64 h2 (parts_num zs t ws k HG.out)
      rw [eg]
      exact bodyPost_ret (v := .tuple #[.slice g k cp, .agg #[.int .i64 0, .int .i64 0]]) (by simp [results, Tryz.results112, go_sem, c0, c1]) rfl
        ⟨g, cp, rfl, hg, ((((Below.refl w.heap.size w).alloc (Nat.le_refl _) _).trans (hbk.mono (Nat.le_succ _))).setCell (Nat.le_refl _) _).setCell (Nat.le_refl _) _⟩
end Go.Proofs.YtajelgjbgehahaaGreat

namespace Go.Proofs.YtajelgjbgehahaaGreat
open Go.RowKit

/-- where a fault lies -/
def atOf (c : Int) : Int := if c = 0 then 0 else -1

theorem end_fault {w wr : World} (hb : Below (w.heap.size + 1) (w.alloc F0) wr) (x y : Value) : Below w.heap.size w ((wr.setCell ⟨w.heap.size, 0, none⟩ x).setCell ⟨w.heap.size, 1, none⟩ y) :=
  ((((Below.refl w.heap.size w).alloc (Nat.le_refl _) _).trans (hb.mono (Nat.le_succ _))).setCell (Nat.le_refl _) _).setCell (Nat.le_refl _) _

theorem num_step (l : List Int) (k : Nat) (h : k < 64) (hb : Mth.IsBits l) : IntKind.u64.wrap (IntKind.u64.wrap (2 * (Mth.num l k : Int)) + (l.getD k 0)) = (Mth.num l (k + 1) : Int) := by
  have h1 := Mth.num_lt l k hb
  have h2 : 2 ^ k ≤ 2 ^ 63 := Nat.pow_le_pow_right (by decide) (by omega)
  have h3 := hb k
  rw [IntKind.wrap_u64, IntKind.wrap_u64, Mth.num]
  omega

end Go.Proofs.YtajelgjbgehahaaGreat
