/- Texts of one chain, joined: HKn, HKn2, HKn3. -/
import Derived.Test.YtmohffibkpecpaaJ1
import Derived.Test.YtmohffibkpecpaaJ6
import Derived.Test.YtmohffibkpecpaaJ4
namespace Go.Proofs.Ytmohffibkpecpaa
open Go.RowKit

/-- a list as it lies, told by a function -/
def RowF (w : World) (s : QSl) (n : Nat) (f : Nat → Value) : Prop := s.n = n ∧ ∀ i, i < n → ∃ g off, s.a = some ⟨g, off, none⟩ ∧ w.cell? ⟨g, off + i, none⟩ = some (f i)
theorem RowF.step {w w' : World} {s : QSl} {n : Nat} {f : Nat → Value} (h : RowF w s n f) (b : Below w.heap.size w w') : RowF w' s n f := ⟨h.1, fun i hi => by
  obtain ⟨g, off, e, hc⟩ := h.2 i hi
  exact ⟨g, off, e, cell_keep hc b⟩⟩

/-- a list of its own, told by a function -/
def OwnF (w : World) (T : TypeId) (s : QSl) (n : Nat) (f : Nat → Value) : Prop := s.n = n ∧ (s.a = none → n = 0 ∧ s.c = 0) ∧ (0 < n → ∃ g cur, s.a = some ⟨g, 0, none⟩ ∧ w.heap[g]? = some (.cells cur T (0, 0)) ∧ ∀ i, i < n → cur[i]? = some (f i))
theorem OwnF.row {w : World} {T : TypeId} {s : QSl} {n : Nat} {f : Nat → Value} (h : OwnF w T s n f) : RowF w s n f := ⟨h.1, fun i hi => by
  obtain ⟨g, cur, e, hh, hc⟩ := h.2.2 (by omega)
  exact ⟨g, 0, e, by rw [gbox_cell hh, Nat.zero_add]; exact hc i hi⟩⟩
theorem OwnF.step {w w' : World} {T : TypeId} {s : QSl} {n : Nat} {f : Nat → Value} (h : OwnF w T s n f) (b : Below w.heap.size w w') : OwnF w' T s n f := ⟨h.1, h.2.1, fun hn => by
  obtain ⟨g, cur, e, hh, hc⟩ := h.2.2 hn
  exact ⟨g, cur, e, (b.block g (Array.getElem?_eq_some_iff.1 hh).1).trans hh, hc⟩⟩
theorem OwnF.of {w : World} {base n c : Nat} {T : TypeId} {a : Option Addr} {vs : List Value} {f : Nat → Value} (h : w.ownsRow base T 1 (.slice a n c) n vs) (hf : ∀ i, i < n → vs[i]? = some (f i)) : OwnF w T ⟨a, n, c⟩ n f := by
  refine ⟨rfl, fun ha => ?_, fun hn => ?_⟩
  · rcases h.2 with ⟨e, e2⟩ | ⟨g, cap, cur, e, _⟩
    · simp only [Value.slice.injEq] at e
      exact ⟨e.2.1, e.2.2⟩
    · simp only [Value.slice.injEq] at e
      have ha : a = none := ha
      rw [ha] at e
      cases e.1
  · rcases h.2 with ⟨e, e2⟩ | ⟨g, cap, cur, e, hb, hh, hr⟩
    · omega
    · simp only [Value.slice.injEq] at e
      obtain ⟨rfl, _, _⟩ := e
      refine ⟨g, cur, rfl, hh, fun i hi => ?_⟩
      have := h.cellAt i (by rw [Nat.mul_one]; exact hi)
      rw [gbox_cell hh] at this
      rw [this]
      exact hf i hi
@[reducible] def QSl.v (s : QSl) : Value := .slice s.a s.n s.c
theorem OwnF.lt {w : World} {T : TypeId} {s : QSl} {n : Nat} {f : Nat → Value} (h : OwnF w T s n f) (hn : 0 < n) {g : Nat} (hg : s.v.ownBlock = some g) : g < w.heap.size := by
  obtain ⟨g', cur, e, hh, _⟩ := h.2.2 hn
  have hg : (Value.slice s.a s.n s.c).ownBlock = some g := hg
  rw [e] at hg
  simp only [Value.ownBlock, Option.some.injEq] at hg
  subst hg
  exact (Array.getElem?_eq_some_iff.1 hh).1

theorem range_flat {f : Nat → Value} (n : Nat) : (List.range n).flatMap (fun i => [f i]) = (List.range n).map f := by
  induction n with
  | zero => rfl
  | succ n ih => rw [List.range_succ, List.flatMap_append, List.map_append, ih]; rfl

/-- a copy of a list is its own -/
theorem copyF {w : World} {T TS : TypeId} {z : Value} {bs : Nat} (ty : TypeId) (hT : Try.prog.underlying TS = some (.slice T)) (hinfo : (Try.prog.info? T).map (fun i => (i.zero, i.size, i.bytes)) = some (some z, 1, bs)) (hzs : z.cells.size = 1) (hbs : bs ≤ 1000)
    {s : QSl} {n : Nat} {f : Nat → Value} (hr : RowF w s n f) (h1 : ∀ i, (f i).oneCell' = true) (hn : s.nil0) (hsm : n ≤ 100000) :
    ∃ a c w', (Builtin.append_ #[TS, TS] ty #[.slice none 0 0, .slice s.a s.n s.c]).run Try.prog w = .ok (.slice a n c) w' ∧ OwnF w' T ⟨a, n, c⟩ n f ∧ (∀ g, (Value.slice a n c).ownBlock = some g → w.heap.size ≤ g ∧ g < w'.heap.size) ∧ Below w.heap.size w w' := by
  obtain ⟨e0, hc⟩ := hr
  have hq : QRow 1 (fun (i : Nat) (w : World) g o => w.cell? ⟨g, o, none⟩ = some (f i)) w s (List.range n) := ⟨by rw [List.length_range]; exact e0.symm, fun i x hx => by
    have hi : i < n := by have := (List.getElem?_eq_some_iff.1 hx).1; simpa using this
    rw [List.getElem?_range hi] at hx
    cases hx
    obtain ⟨g, off, e, hh⟩ := hc i hi
    exact ⟨g, off, e, by rw [Nat.mul_one]; exact hh⟩⟩
  obtain ⟨a, c, w', hrun, hown, hb⟩ := gcopy (cells := fun i => [f i]) (k := 1) (fun _ => rfl) (by decide) (fun x u hu => by rw [List.mem_singleton.1 hu]; exact h1 x) (fun {x w g o} h r u hu => by
    cases r with
    | zero => simp only [List.getElem?_cons_zero, Option.some.injEq] at hu; subst hu; exact h
    | succ r => simp at hu) ty hT hinfo hzs hbs hq hn (by rw [e0]; exact hsm)
  rw [e0] at hrun hown
  rw [range_flat] at hown
  refine ⟨a, c, w', by rw [e0]; exact hrun, OwnF.of hown (fun i hi => by rw [List.getElem?_map, List.getElem?_range hi]; rfl), fun g hg => ?_, hb⟩
  rcases hown.2 with ⟨e, _⟩ | ⟨g', cap, cur, e, hbs, hh, _⟩
  · rw [e] at hg; simp [Value.ownBlock] at hg
  · rw [e] at hg
    simp only [Value.ownBlock, Option.some.injEq] at hg
    subst hg
    exact ⟨hbs, (Array.getElem?_eq_some_iff.1 hh).1⟩

theorem Try.infoBo : (Try.prog.info? 4).map (fun i => (i.zero, i.size, i.bytes)) = some (some (.bool false), 1, 1) := by kernel_rfl
theorem Try.infoIn : (Try.prog.info? 3).map (fun i => (i.zero, i.size, i.bytes)) = some (some (.int .i64 0), 1, 8) := by kernel_rfl

/-- the lists of a Knows -/
structure KV where
  st : QSl
  ju : QSl
  nu : QSl
  ro : QSl
  sl : QSl
@[reducible] def KV.v (t : Bool) (q : KV) : Value := .agg #[.bool t, .slice q.st.a q.st.n q.st.c, .slice q.ju.a q.ju.n q.ju.c, .slice q.nu.a q.nu.n q.nu.c, .slice q.ro.a q.ro.n q.ro.c, .slice q.sl.a q.sl.n q.sl.c]
def roomZ : Option Nat → Int
  | none => -1
  | some n => n
def numOk (s : SD) (N : Nat → Nat) : Prop := ∀ i, i < 10 → N i < 18446744073709551616 ∧ ∀ n, (s.reg i).just = some n → N i = n

/-- it lies so -/
structure KLie (S : Nat) (q : KV) (s : SD) (N : Nat → Nat) (w : World) : Prop where
  st : RowF w q.st 10 (fun i => .bool (s.reg i).set)
  ju : RowF w q.ju 10 (fun i => .bool (s.reg i).just.isSome)
  nu : RowF w q.nu 10 (fun i => .int .u64 ((N i : Nat) : Int))
  ro : RowF w q.ro 10 (fun i => .int .i64 (roomZ (s.reg i).room))
  sl : RowF w q.sl S (fun i => .bool (s.slot i))
  sn : q.sl.nil0
  ok : numOk s N
theorem KLie.step {S : Nat} {q : KV} {s : SD} {N : Nat → Nat} {w w' : World} (h : KLie S q s N w) (b : Below w.heap.size w w') : KLie S q s N w' := ⟨h.st.step b, h.ju.step b, h.nu.step b, h.ro.step b, h.sl.step b, h.sn, h.ok⟩

/-- lists of its own, in blocks of their own, from base on -/
structure KRaw (base S : Nat) (q : KV) (A B : Nat → Bool) (N : Nat → Nat) (Z : Nat → Int) (L : Nat → Bool) (w : World) : Prop where
  st : OwnF w 4 q.st 10 (fun i => .bool (A i))
  ju : OwnF w 4 q.ju 10 (fun i => .bool (B i))
  nu : OwnF w 33 q.nu 10 (fun i => .int .u64 ((N i : Nat) : Int))
  ro : OwnF w 3 q.ro 10 (fun i => .int .i64 (Z i))
  sl : OwnF w 4 q.sl S (fun i => .bool (L i))
  a1 : ∀ g, q.st.v.ownBlock = some g → q.ju.v.ownBlock ≠ some g ∧ q.sl.v.ownBlock ≠ some g
  a2 : ∀ g, q.ju.v.ownBlock = some g → q.sl.v.ownBlock ≠ some g
  lo : ∀ g, (q.st.v.ownBlock = some g ∨ q.ju.v.ownBlock = some g ∨ q.nu.v.ownBlock = some g ∨ q.ro.v.ownBlock = some g ∨ q.sl.v.ownBlock = some g) → base ≤ g ∧ g < w.heap.size
theorem KRaw.step {base S : Nat} {q : KV} {A B : Nat → Bool} {N : Nat → Nat} {Z : Nat → Int} {L : Nat → Bool} {w w' : World} (h : KRaw base S q A B N Z L w) (b : Below w.heap.size w w') : KRaw base S q A B N Z L w' := ⟨h.st.step b, h.ju.step b, h.nu.step b, h.ro.step b, h.sl.step b, h.a1, h.a2, fun g hg => ⟨(h.lo g hg).1, Nat.lt_of_lt_of_le (h.lo g hg).2 b.size⟩⟩

/-- it is its own -/
def KOwn (base S : Nat) (q : KV) (s : SD) (N : Nat → Nat) (w : World) : Prop := KRaw base S q (fun i => (s.reg i).set) (fun i => (s.reg i).just.isSome) N (fun i => roomZ (s.reg i).room) s.slot w ∧ numOk s N
theorem KOwn.lie {base S : Nat} {q : KV} {s : SD} {N : Nat → Nat} {w : World} (h : KOwn base S q s N w) : KLie S q s N w := ⟨h.1.st.row, h.1.ju.row, h.1.nu.row, h.1.ro.row, h.1.sl.row, fun ha => by
  have := h.1.sl.2.1 ha
  exact ⟨by rw [h.1.sl.1]; exact this.1, this.2⟩, h.2⟩
theorem KOwn.step {base S : Nat} {q : KV} {s : SD} {N : Nat → Nat} {w w' : World} (h : KOwn base S q s N w) (b : Below w.heap.size w w') : KOwn base S q s N w' := ⟨h.1.step b, h.2⟩

/-- one cell of a list of its own is stored into -/
theorem OwnF.put {w : World} {T : TypeId} {s : QSl} {n : Nat} {f f' : Nat → Value} (h : OwnF w T s n f) {g : Nat} (hg : s.a = some ⟨g, 0, none⟩) {i : Nat} (hi : i < n) {v : Value} (h1 : f' i = v) (h2 : ∀ j, j ≠ i → f' j = f j) : OwnF (w.setCell ⟨g, i, none⟩ v) T s n f' := by
  refine ⟨h.1, h.2.1, fun hn => ?_⟩
  obtain ⟨g', cur, e, hh, hc⟩ := h.2.2 hn
  rw [hg] at e
  cases e
  refine ⟨g, cur.set! i v, hg, BoxC.put hh i v, fun j hj => ?_⟩
  by_cases e : j = i
  · subst e
    have : j < cur.size := (Array.getElem?_eq_some_iff.1 (hc j hj)).1
    rw [h1]
    simp [this]
  · rw [h2 j e, ← hc j hj]
    simp [Ne.symm e]
theorem OwnF.far {w : World} {T : TypeId} {s : QSl} {n : Nat} {f : Nat → Value} (h : OwnF w T s n f) {g : Nat} (hg : s.v.ownBlock ≠ some g) (i : Nat) (v : Value) : OwnF (w.setCell ⟨g, i, none⟩ v) T s n f := by
  refine ⟨h.1, h.2.1, fun hn => ?_⟩
  obtain ⟨g', cur, e, hh, hc⟩ := h.2.2 hn
  have hne : ¬ g = g' := fun e2 => hg (by show (Value.slice s.a s.n s.c).ownBlock = some g; rw [e, e2]; rfl)
  exact ⟨g', cur, e, BoxC.far hh hne i v, hc⟩
theorem OwnF.block {w : World} {T : TypeId} {s : QSl} {n : Nat} {f : Nat → Value} (h : OwnF w T s n f) (hn : 0 < n) : ∃ g, s.a = some ⟨g, 0, none⟩ ∧ s.v.ownBlock = some g ∧ ∃ cur, w.heap[g]? = some (.cells cur T (0, 0)) := by
  obtain ⟨g, cur, e, hh, _⟩ := h.2.2 hn
  exact ⟨g, e, by show (Value.slice s.a s.n s.c).ownBlock = some g; rw [e]; rfl, cur, hh⟩
/-- lists of two kinds lie in two blocks -/
theorem OwnF.kinds {w : World} {T T' : TypeId} {s s' : QSl} {n n' : Nat} {f f' : Nat → Value} (h : OwnF w T s n f) (h' : OwnF w T' s' n' f') (hn : 0 < n) (hT : T ≠ T') {g : Nat} (hg : s.v.ownBlock = some g) (hp : 0 < n') : s'.v.ownBlock ≠ some g := fun hg' => by
  obtain ⟨g1, e1, b1, c1, hh1⟩ := h.block hn
  obtain ⟨g2, e2, b2, c2, hh2⟩ := h'.block hp
  rw [hg] at b1
  rw [hg'] at b2
  cases b1
  cases b2
  rw [hh1] at hh2
  simp only [Option.some.injEq, Obj.cells.injEq] at hh2
  exact hT hh2.2.1

def OwnKIs (S : Nat) (t : Bool) (s : SD) (N : Nat → Nat) (w : World) (e : Ending) (w' : World) : Prop := ∃ q, e = .returned (KV.v t q) ∧ KOwn w.heap.size S q s N w' ∧ Below w.heap.size w w'
theorem row_nil {w : World} {s : QSl} {n : Nat} {f : Nat → Value} (h : RowF w s n f) (hn : 0 < n) : s.nil0 := fun ha => by
  obtain ⟨g, off, e, _⟩ := h.2 0 hn
  have ha : s.a = none := ha
  rw [ha] at e
  cases e

/-- what a row of ownKnows yields -/
def OwnR (S base kb : Nat) (t : Bool) (q : KV) (s : SD) (N : Nat → Nat) (i : Nat) (v : Value) (w : World) : Prop :=
  match i with
  | 0 => v = .pointer (some ⟨kb, 0, none⟩)
  | 1 => v = .bool t
  | 2 | 6 | 10 | 14 | 18 => v = .slice none 0 0
  | 3 => v = .pointer (some ⟨kb, 1, none⟩)
  | 4 => v = q.st.v
  | 5 => ∃ a c, v = .slice a 10 c ∧ OwnF w 4 ⟨a, 10, c⟩ 10 (fun i => .bool (s.reg i).set) ∧ ∀ g, (Value.slice a 10 c).ownBlock = some g → base ≤ g ∧ g < w.heap.size
  | 7 => v = .pointer (some ⟨kb, 2, none⟩)
  | 8 => v = q.ju.v
  | 9 => ∃ a c, v = .slice a 10 c ∧ OwnF w 4 ⟨a, 10, c⟩ 10 (fun i => .bool (s.reg i).just.isSome) ∧ ∀ g, (Value.slice a 10 c).ownBlock = some g → base ≤ g ∧ g < w.heap.size
  | 11 => v = .pointer (some ⟨kb, 3, none⟩)
  | 12 => v = q.nu.v
  | 13 => ∃ a c, v = .slice a 10 c ∧ OwnF w 33 ⟨a, 10, c⟩ 10 (fun i => .int .u64 ((N i : Nat) : Int)) ∧ ∀ g, (Value.slice a 10 c).ownBlock = some g → base ≤ g ∧ g < w.heap.size
  | 15 => v = .pointer (some ⟨kb, 4, none⟩)
  | 16 => v = q.ro.v
  | 17 => ∃ a c, v = .slice a 10 c ∧ OwnF w 3 ⟨a, 10, c⟩ 10 (fun i => .int .i64 (roomZ (s.reg i).room)) ∧ ∀ g, (Value.slice a 10 c).ownBlock = some g → base ≤ g ∧ g < w.heap.size
  | 19 => v = .pointer (some ⟨kb, 5, none⟩)
  | 20 => v = q.sl.v
  | 21 => ∃ a c, v = .slice a S c ∧ OwnF w 4 ⟨a, S, c⟩ S (fun i => .bool (s.slot i)) ∧ ∀ g, (Value.slice a S c).ownBlock = some g → base ≤ g ∧ g < w.heap.size
  | _ => True
theorem appR_step {n base : Nat} {T : TypeId} {f : Nat → Value} {v : Value} {w1 w2 : World} (h : ∃ a c, v = .slice a n c ∧ OwnF w1 T ⟨a, n, c⟩ n f ∧ ∀ g, (Value.slice a n c).ownBlock = some g → base ≤ g ∧ g < w1.heap.size) (b : Below w1.heap.size w1 w2) : ∃ a c, v = .slice a n c ∧ OwnF w2 T ⟨a, n, c⟩ n f ∧ ∀ g, (Value.slice a n c).ownBlock = some g → base ≤ g ∧ g < w2.heap.size := by
  obtain ⟨a, c, e, ho, hl⟩ := h
  exact ⟨a, c, e, ho.step b, fun g hg => ⟨(hl g hg).1, Nat.lt_of_lt_of_le (hl g hg).2 b.size⟩⟩
theorem ownR_step {S base kb : Nat} {t : Bool} {q : KV} {s : SD} {N : Nat → Nat} {i : Nat} {v : Value} {w1 w2 : World} (h : OwnR S base kb t q s N i v w1) (b : Below w1.heap.size w1 w2) : OwnR S base kb t q s N i v w2 := by
  unfold OwnR at h ⊢
  split at h
  all_goals first | exact h | exact appR_step h b
theorem ownR_lt {S base kb : Nat} {t : Bool} {q : KV} {s : SD} {N : Nat → Nat} {i : Nat} {v : Value} {w1 : World} (h : OwnR S base kb t q s N i v w1) (hF : (i == 5 || i == 9 || i == 13 || i == 17 || i == 21) = true) {g : Nat} (hg : v.ownBlock = some g) : g < w1.heap.size := by
  simp only [Bool.or_eq_true, beq_iff_eq] at hF
  rcases hF with (((rfl | rfl) | rfl) | rfl) | rfl
  all_goals
    obtain ⟨a, c, rfl, _, hl⟩ := h
    exact (hl g hg).2

theorem tmp_eval {a : Act} {j : Nat} {v : Value} (h : a.tmps[j]? = some v) : a.eval (.tmp j) = v := by
  simp only [Act.eval]
  simp [h]
theorem exec_app {w w' : World} {a : Act} {TS : TypeId} {s x : Operand} {vs vx v' : Value} {dst : Option Tmp} {pos : String} {after : Array Edge} {ty : TypeId} (hs : a.eval s = vs) (hx : a.eval x = vx) (hrun : (Builtin.append_ #[TS, TS] ty #[vs, vx]).run Try.prog w = .ok v' w') :
    (execOp a.eval { dst := dst, op := .call { callee := .builtin .append, args := #[s, x], argTypes := #[TS, TS] }, type := ty, pos := pos, after := after, guard := none }).run Try.prog w = .ok (.value v') w' := by
  unfold execOp
  simp only [resolve, invoke, builtin, Sem.run_bind, Sem.run_pure, Result.andThen_ok, List.map_toArray, List.map_cons, List.map_nil, hs, hx, hrun]
end Go.Proofs.Ytmohffibkpecpaa

namespace Go.Proofs.Ytmohffibkpecpaa
open Go.RowKit

set_option maxHeartbeats 4000000 in
set_option maxRecDepth 20000 in
theorem kown (S : Nat) (hS : S ≤ 96) (t : Bool) (q : KV) (s : SD) (N : Nat → Nat) (w : World) (h : KLie S q s N w) : Calls Try.prog 28 #[KV.v t q] w (OwnKIs S t s N w) := by
  obtain ⟨W2, hW2⟩ : ∃ W, W = (w.alloc (.cells #[.bool t, .slice q.st.a q.st.n q.st.c, .slice q.ju.a q.ju.n q.ju.c, .slice q.nu.a q.nu.n q.nu.c, .slice q.ro.a q.ro.n q.ro.c, .slice q.sl.a q.sl.n q.sl.c] 54)).alloc (.cells #[.bool false, .slice none 0 0, .slice none 0 0, .slice none 0 0, .slice none 0 0, .slice none 0 0] 54) := ⟨_, rfl⟩
  obtain ⟨kb, hkb⟩ : ∃ b, b = w.heap.size := ⟨_, rfl⟩
  obtain ⟨rb, hrb⟩ : ∃ b, b = w.heap.size + 1 := ⟨_, rfl⟩
  have b2 : Below w.heap.size w W2 := by rw [hW2]; exact bl_alloc (bl_alloc (Below.refl _ _))
  have xk : BoxC W2 kb #[.bool t, .slice q.st.a q.st.n q.st.c, .slice q.ju.a q.ju.n q.ju.c, .slice q.nu.a q.nu.n q.nu.c, .slice q.ro.a q.ro.n q.ro.c, .slice q.sl.a q.sl.n q.sl.c] 54 := by
    rw [hW2, hkb]
    exact BoxC.step (boxc_new _ _ _ rfl) (bl_alloc (Below.refl _ _))
  have xr : BoxC W2 rb #[.bool false, .slice none 0 0, .slice none 0 0, .slice none 0 0, .slice none 0 0, .slice none 0 0] 54 := by
    rw [hW2, hrb]
    exact boxc_new _ _ _ (by simp)
  have HB2 := hid b2
  have HXK := hid xk
  have HXR := hid xr
  have HK2 := hid (h.step b2)
  have HRB : Hid (w.heap.size ≤ rb) := by rw [hrb]; show _ ≤ _; omega
  have EW := hid hW2
  have EK := hid hkb
  have ER := hid hrb
  clear hW2 hkb hrb b2 xk xr h
  go_enter Try.func28, Try.ntmps28
  go_upto_region 4 with fail
  rw [← EW.out, ← ER.out, ← EK.out]
  clear EW ER EK
  refine wp_region_rows 22 [8, 9, 10, 11, 12, 13, 14, 15, 16, 17, 18, 19, 20, 21, 22, 23, 24, 25, 26, 27, 28, 29] (by kernel_rfl) (by kernel_rfl) (fun d hd => by simp only [List.mem_cons, List.not_mem_nil, or_false] at hd; show d < 31; omega) (OwnR S W2.heap.size kb t q s N) (fun i => i == 5 || i == 9 || i == 13 || i == 17 || i == 21) (fun i v w1 w2 h b => ownR_step h b) (fun i v w1 g h hF hg => ownR_lt h hF hg) ?_ ?_
  · intro i o hi ho a1 w1 hb hold hdep _
    have hkl := HK2.out.step hb
    have hxk := HXK.out.step hb
    have t1 : a1.tmps[1]? = some (.pointer (some ⟨kb, 0, none⟩)) := hold 1 (by decide)
    have t3 : a1.tmps[3]? = some (.slice none 0 0) := hold 3 (by decide)
    have t4 : a1.tmps[4]? = some (.slice none 0 0) := hold 4 (by decide)
    have t5 : a1.tmps[5]? = some (.slice none 0 0) := hold 5 (by decide)
    have t6 : a1.tmps[6]? = some (.slice none 0 0) := hold 6 (by decide)
    have t7 : a1.tmps[7]? = some (.slice none 0 0) := hold 7 (by decide)
    rcases (show i = 0 ∨ i = 1 ∨ i = 2 ∨ i = 3 ∨ i = 4 ∨ i = 5 ∨ i = 6 ∨ i = 7 ∨ i = 8 ∨ i = 9 ∨ i = 10 ∨ i = 11 ∨ i = 12 ∨ i = 13 ∨ i = 14 ∨ i = 15 ∨ i = 16 ∨ i = 17 ∨ i = 18 ∨ i = 19 ∨ i = 20 ∨ i = 21 by omega) with rfl | rfl | rfl | rfl | rfl | rfl | rfl | rfl | rfl | rfl | rfl | rfl | rfl | rfl | rfl | rfl | rfl | rfl | rfl | rfl | rfl | rfl
    all_goals
      simp only [List.getElem?_cons_succ, List.getElem?_cons_zero, Option.some.injEq] at ho
      subst ho
    · exact ⟨.pointer (some ⟨kb, 0, none⟩), w1, by simp [execOp, go_sem, t1], Below.refl _ _, rfl, fun h => by cases h⟩
    · obtain ⟨v, hv, hr⟩ := hdep { on := 0, ground := .data } (by simp) rfl
      obtain rfl : v = .pointer (some ⟨kb, 0, none⟩) := hr
      have hv : a1.tmps[8]? = some (.pointer (some ⟨kb, 0, none⟩)) := hv
      have hc : w1.cell? ⟨kb, 0, none⟩ = some (.bool t) := hxk.cell 0
      exact ⟨(.bool t), w1, by simp [execOp, go_sem, hv, hc], Below.refl _ _, rfl, fun h => by cases h⟩
    · exact ⟨.slice none 0 0, w1, by simp [execOp, go_sem, t3], Below.refl _ _, rfl, fun h => by cases h⟩
    · exact ⟨.pointer (some ⟨kb, 1, none⟩), w1, by simp [execOp, go_sem, t1], Below.refl _ _, rfl, fun h => by cases h⟩
    · obtain ⟨v, hv, hr⟩ := hdep { on := 3, ground := .data } (by simp) rfl
      obtain rfl : v = .pointer (some ⟨kb, 1, none⟩) := hr
      have hv : a1.tmps[11]? = some (.pointer (some ⟨kb, 1, none⟩)) := hv
      have hc : w1.cell? ⟨kb, 1, none⟩ = some q.st.v := hxk.cell 1
      exact ⟨q.st.v, w1, by simp [execOp, go_sem, hv, hc], Below.refl _ _, rfl, fun h => by cases h⟩
    · obtain ⟨v1, hv1, hr1⟩ := hdep { on := 2, ground := .data } (by simp) rfl
      obtain rfl : v1 = .slice none 0 0 := hr1
      have hv1 : a1.tmps[10]? = some (.slice none 0 0) := hv1
      obtain ⟨v2, hv2, hr2⟩ := hdep { on := 4, ground := .data } (by simp) rfl
      obtain rfl : v2 = q.st.v := hr2
      have hv2 : a1.tmps[12]? = some (.slice q.st.a q.st.n q.st.c) := hv2
      obtain ⟨a, c, w', hrun, hown, hlo, hbw⟩ := copyF 50 Try.underlying50 Try.infoBo rfl (by decide) hkl.st (fun _ => rfl) (row_nil hkl.st (by decide)) (by decide)
      exact ⟨.slice a 10 c, w', exec_app (tmp_eval hv1) (tmp_eval hv2) hrun, hbw, ⟨a, c, rfl, hown, fun g hg => ⟨Nat.le_trans hb.size (hlo g hg).1, (hlo g hg).2⟩⟩, fun _ g hg => (hlo g hg).1⟩
    · exact ⟨.slice none 0 0, w1, by simp [execOp, go_sem, t4], Below.refl _ _, rfl, fun h => by cases h⟩
    · exact ⟨.pointer (some ⟨kb, 2, none⟩), w1, by simp [execOp, go_sem, t1], Below.refl _ _, rfl, fun h => by cases h⟩
    · obtain ⟨v, hv, hr⟩ := hdep { on := 7, ground := .data } (by simp) rfl
      obtain rfl : v = .pointer (some ⟨kb, 2, none⟩) := hr
      have hv : a1.tmps[15]? = some (.pointer (some ⟨kb, 2, none⟩)) := hv
      have hc : w1.cell? ⟨kb, 2, none⟩ = some q.ju.v := hxk.cell 2
      exact ⟨q.ju.v, w1, by simp [execOp, go_sem, hv, hc], Below.refl _ _, rfl, fun h => by cases h⟩
    · obtain ⟨v1, hv1, hr1⟩ := hdep { on := 6, ground := .data } (by simp) rfl
      obtain rfl : v1 = .slice none 0 0 := hr1
      have hv1 : a1.tmps[14]? = some (.slice none 0 0) := hv1
      obtain ⟨v2, hv2, hr2⟩ := hdep { on := 8, ground := .data } (by simp) rfl
      obtain rfl : v2 = q.ju.v := hr2
      have hv2 : a1.tmps[16]? = some (.slice q.ju.a q.ju.n q.ju.c) := hv2
      obtain ⟨a, c, w', hrun, hown, hlo, hbw⟩ := copyF 50 Try.underlying50 Try.infoBo rfl (by decide) hkl.ju (fun _ => rfl) (row_nil hkl.ju (by decide)) (by decide)
      exact ⟨.slice a 10 c, w', exec_app (tmp_eval hv1) (tmp_eval hv2) hrun, hbw, ⟨a, c, rfl, hown, fun g hg => ⟨Nat.le_trans hb.size (hlo g hg).1, (hlo g hg).2⟩⟩, fun _ g hg => (hlo g hg).1⟩
    · exact ⟨.slice none 0 0, w1, by simp [execOp, go_sem, t6], Below.refl _ _, rfl, fun h => by cases h⟩
    · exact ⟨.pointer (some ⟨kb, 3, none⟩), w1, by simp [execOp, go_sem, t1], Below.refl _ _, rfl, fun h => by cases h⟩
    · obtain ⟨v, hv, hr⟩ := hdep { on := 11, ground := .data } (by simp) rfl
      obtain rfl : v = .pointer (some ⟨kb, 3, none⟩) := hr
      have hv : a1.tmps[19]? = some (.pointer (some ⟨kb, 3, none⟩)) := hv
      have hc : w1.cell? ⟨kb, 3, none⟩ = some q.nu.v := hxk.cell 3
      exact ⟨q.nu.v, w1, by simp [execOp, go_sem, hv, hc], Below.refl _ _, rfl, fun h => by cases h⟩
    · obtain ⟨v1, hv1, hr1⟩ := hdep { on := 10, ground := .data } (by simp) rfl
      obtain rfl : v1 = .slice none 0 0 := hr1
      have hv1 : a1.tmps[18]? = some (.slice none 0 0) := hv1
      obtain ⟨v2, hv2, hr2⟩ := hdep { on := 12, ground := .data } (by simp) rfl
      obtain rfl : v2 = q.nu.v := hr2
      have hv2 : a1.tmps[20]? = some (.slice q.nu.a q.nu.n q.nu.c) := hv2
      obtain ⟨a, c, w', hrun, hown, hlo, hbw⟩ := copyF 51 Try.underlying51 Try.info33 rfl (by decide) hkl.nu (fun _ => rfl) (row_nil hkl.nu (by decide)) (by decide)
      exact ⟨.slice a 10 c, w', exec_app (tmp_eval hv1) (tmp_eval hv2) hrun, hbw, ⟨a, c, rfl, hown, fun g hg => ⟨Nat.le_trans hb.size (hlo g hg).1, (hlo g hg).2⟩⟩, fun _ g hg => (hlo g hg).1⟩
    · exact ⟨.slice none 0 0, w1, by simp [execOp, go_sem, t7], Below.refl _ _, rfl, fun h => by cases h⟩
    · exact ⟨.pointer (some ⟨kb, 4, none⟩), w1, by simp [execOp, go_sem, t1], Below.refl _ _, rfl, fun h => by cases h⟩
    · obtain ⟨v, hv, hr⟩ := hdep { on := 15, ground := .data } (by simp) rfl
      obtain rfl : v = .pointer (some ⟨kb, 4, none⟩) := hr
      have hv : a1.tmps[23]? = some (.pointer (some ⟨kb, 4, none⟩)) := hv
      have hc : w1.cell? ⟨kb, 4, none⟩ = some q.ro.v := hxk.cell 4
      exact ⟨q.ro.v, w1, by simp [execOp, go_sem, hv, hc], Below.refl _ _, rfl, fun h => by cases h⟩
    · obtain ⟨v1, hv1, hr1⟩ := hdep { on := 14, ground := .data } (by simp) rfl
      obtain rfl : v1 = .slice none 0 0 := hr1
      have hv1 : a1.tmps[22]? = some (.slice none 0 0) := hv1
      obtain ⟨v2, hv2, hr2⟩ := hdep { on := 16, ground := .data } (by simp) rfl
      obtain rfl : v2 = q.ro.v := hr2
      have hv2 : a1.tmps[24]? = some (.slice q.ro.a q.ro.n q.ro.c) := hv2
      obtain ⟨a, c, w', hrun, hown, hlo, hbw⟩ := copyF 52 Try.underlying52 Try.infoIn rfl (by decide) hkl.ro (fun _ => rfl) (row_nil hkl.ro (by decide)) (by decide)
      exact ⟨.slice a 10 c, w', exec_app (tmp_eval hv1) (tmp_eval hv2) hrun, hbw, ⟨a, c, rfl, hown, fun g hg => ⟨Nat.le_trans hb.size (hlo g hg).1, (hlo g hg).2⟩⟩, fun _ g hg => (hlo g hg).1⟩
    · exact ⟨.slice none 0 0, w1, by simp [execOp, go_sem, t5], Below.refl _ _, rfl, fun h => by cases h⟩
    · exact ⟨.pointer (some ⟨kb, 5, none⟩), w1, by simp [execOp, go_sem, t1], Below.refl _ _, rfl, fun h => by cases h⟩
    · obtain ⟨v, hv, hr⟩ := hdep { on := 19, ground := .data } (by simp) rfl
      obtain rfl : v = .pointer (some ⟨kb, 5, none⟩) := hr
      have hv : a1.tmps[27]? = some (.pointer (some ⟨kb, 5, none⟩)) := hv
      have hc : w1.cell? ⟨kb, 5, none⟩ = some q.sl.v := hxk.cell 5
      exact ⟨q.sl.v, w1, by simp [execOp, go_sem, hv, hc], Below.refl _ _, rfl, fun h => by cases h⟩
    · obtain ⟨v1, hv1, hr1⟩ := hdep { on := 18, ground := .data } (by simp) rfl
      obtain rfl : v1 = .slice none 0 0 := hr1
      have hv1 : a1.tmps[26]? = some (.slice none 0 0) := hv1
      obtain ⟨v2, hv2, hr2⟩ := hdep { on := 20, ground := .data } (by simp) rfl
      obtain rfl : v2 = q.sl.v := hr2
      have hv2 : a1.tmps[28]? = some (.slice q.sl.a q.sl.n q.sl.c) := hv2
      obtain ⟨a, c, w', hrun, hown, hlo, hbw⟩ := copyF 50 Try.underlying50 Try.infoBo rfl (by decide) hkl.sl (fun _ => rfl) hkl.sn (by omega)
      exact ⟨.slice a S c, w', exec_app (tmp_eval hv1) (tmp_eval hv2) hrun, hbw, ⟨a, c, rfl, hown, fun g hg => ⟨Nat.le_trans hb.size (hlo g hg).1, (hlo g hg).2⟩⟩, fun _ g hg => (hlo g hg).1⟩
  · intro val w2 hb hR hsep
    have r1 : val 1 = .bool t := hR 1 (by decide)
    obtain ⟨a5, c5, e5, o5, l5⟩ := hR 5 (by decide)
    obtain ⟨a9, c9, e9, o9, l9⟩ := hR 9 (by decide)
    obtain ⟨a13, c13, e13, o13, l13⟩ := hR 13 (by decide)
    obtain ⟨a17, c17, e17, o17, l17⟩ := hR 17 (by decide)
    obtain ⟨a21, c21, e21, o21, l21⟩ := hR 21 (by decide)
    have s1 := hsep 5 9 (by decide) (by decide) rfl rfl (by decide)
    have s2 := hsep 5 21 (by decide) (by decide) rfl rfl (by decide)
    have s3 := hsep 9 21 (by decide) (by decide) rfl rfl (by decide)
    rw [e5, e9] at s1
    rw [e5, e21] at s2
    rw [e9, e21] at s3
    simp only [putsN, Act.put, List.getD_cons_zero, List.getD_cons_succ, List.setIfInBounds_toArray, List.set_cons_succ, List.set_cons_zero]
    rw [r1, e5, e9, e13, e17, e21]
    simp only [List.drop_succ_cons, List.drop_zero]
    have hxr := HXR.out.step hb
    have x0 : w2.cell? ⟨rb, 0, none⟩ = some (.bool false) := hxr.cell 0
    have x1 : w2.cell? ⟨rb, 1, none⟩ = some (.slice none 0 0) := hxr.cell 1
    have x2 : w2.cell? ⟨rb, 2, none⟩ = some (.slice none 0 0) := hxr.cell 2
    have x3 : w2.cell? ⟨rb, 3, none⟩ = some (.slice none 0 0) := hxr.cell 3
    have x4 : w2.cell? ⟨rb, 4, none⟩ = some (.slice none 0 0) := hxr.cell 4
    have x5 : w2.cell? ⟨rb, 5, none⟩ = some (.slice none 0 0) := hxr.cell 5
    have z0 := hxr.fz 0
    have z1 := hxr.fz 1
    have z2 := hxr.fz 2
    have z3 := hxr.fz 3
    have z4 := hxr.fz 4
    have z5 := hxr.fz 5
    have hlr := hxr.lt
    have hrbl := HXR.out.lt
    obtain ⟨W4, hW4⟩ : ∃ W, W = (((((w2.setCell ⟨rb, 0, none⟩ (.bool t)).setCell ⟨rb, 1, none⟩ (.slice a5 10 c5)).setCell ⟨rb, 2, none⟩ (.slice a9 10 c9)).setCell ⟨rb, 3, none⟩ (.slice a13 10 c13)).setCell ⟨rb, 4, none⟩ (.slice a17 10 c17)).setCell ⟨rb, 5, none⟩ (.slice a21 S c21) := ⟨_, rfl⟩
    have hr4 : HRn rb w2 W4 := by
      rw [hW4]
      exact (((((HRn.put rb _ _ _).trans (HRn.put rb _ _ _)).trans (HRn.put rb _ _ _)).trans (HRn.put rb _ _ _)).trans (HRn.put rb _ _ _)).trans (HRn.put rb _ _ _)
    have hm : ∀ {T : TypeId} {a : Option Addr} {n c : Nat} {f : Nat → Value}, OwnF w2 T ⟨a, n, c⟩ n f → (∀ g, (Value.slice a n c).ownBlock = some g → W2.heap.size ≤ g ∧ g < w2.heap.size) → OwnF W4 T ⟨a, n, c⟩ n f := fun {T a n c f} ho hl => by
      refine ⟨ho.1, ho.2.1, fun hn => ?_⟩
      obtain ⟨g, cur, e, hh, hc⟩ := ho.2.2 hn
      have e' : a = some ⟨g, 0, none⟩ := e
      subst e'
      have h1 := hl g rfl
      exact ⟨g, cur, rfl, (hr4.block g h1.2 (by omega)).trans hh, hc⟩
    have HE : Hid (OwnKIs S t s N w (.returned (KV.v t ⟨⟨a5, 10, c5⟩, ⟨a9, 10, c9⟩, ⟨a13, 10, c13⟩, ⟨a17, 10, c17⟩, ⟨a21, S, c21⟩⟩)) W4) := by
      have hsz := HB2.out.size
      refine ⟨_, rfl, ⟨⟨hm o5 l5, hm o9 l9, hm o13 l13, hm o17 l17, hm o21 l21, fun g hg => ⟨s1 g hg, s2 g hg⟩, s3, fun g hg => ?_⟩, HK2.out.ok⟩, (bl_step HB2.out hb).trans (hr4.low HRB.out (bl_step HB2.out hb).size)⟩
      have key : W2.heap.size ≤ g ∧ g < w2.heap.size := by
        rcases hg with hg | hg | hg | hg | hg
        · exact l5 g hg
        · exact l9 g hg
        · exact l13 g hg
        · exact l17 g hg
        · exact l21 g hg
      have := hr4.size
      omega
    have E4 := hid hW4
    clear hR hsep r1 e5 e9 e13 e17 e21 o5 o9 o13 o17 o21 l5 l9 l13 l17 l21 s1 s2 s3 hm hr4 hW4 hb hxr hrbl
    go_wp2
    refine bodyPost_ret (v := KV.v t ⟨⟨a5, 10, c5⟩, ⟨a9, 10, c9⟩, ⟨a13, 10, c13⟩, ⟨a17, 10, c17⟩, ⟨a21, S, c21⟩⟩) (by simp [results, Try.results28, go_sem, *]) rfl ?_
    rw [← E4.out]
    exact HE.out
end Go.Proofs.Ytmohffibkpecpaa

namespace Go.Proofs.Ytmohffibkpecpaa
open Go.RowKit

theorem blk_of {s : QSl} {g : Nat} (h : s.a = some ⟨g, 0, none⟩) : s.v.ownBlock = some g := by
  show (Value.slice s.a s.n s.c).ownBlock = some g
  rw [h]
  rfl
theorem OwnF.zero {w w' : World} {T : TypeId} {s : QSl} {n : Nat} {f : Nat → Value} (h : OwnF w T s n f) (h0 : n = 0) : OwnF w' T s n f := ⟨h.1, h.2.1, fun hn => by omega⟩
theorem OwnF.away {w : World} {T T' : TypeId} {s s' : QSl} {n n' : Nat} {f f' : Nat → Value} (h : OwnF w T s n f) (h' : OwnF w T' s' n' f') (hn : 0 < n) (hT : T ≠ T') {g : Nat} (hg : s.v.ownBlock = some g) (i : Nat) (v : Value) : OwnF (w.setCell ⟨g, i, none⟩ v) T' s' n' f' := by
  by_cases h0 : n' = 0
  · exact h'.zero h0
  · exact h'.far (h.kinds h' hn hT hg (by omega)) i v

theorem KRaw.putA {base S : Nat} {q : KV} {A B : Nat → Bool} {N : Nat → Nat} {Z : Nat → Int} {L : Nat → Bool} {w : World} (h : KRaw base S q A B N Z L w) {g : Nat} (hg : q.st.a = some ⟨g, 0, none⟩) {i : Nat} (hi : i < 10) (b : Bool) : KRaw base S q (fun j => if j = i then b else A j) B N Z L (w.setCell ⟨g, i, none⟩ (.bool b)) :=
  ⟨h.st.put hg hi (by simp) (fun j hj => by simp [hj]), h.ju.far (h.a1 g (blk_of hg)).1 i _, h.st.away h.nu (by omega) (by decide) (blk_of hg) i _, h.st.away h.ro (by omega) (by decide) (blk_of hg) i _, h.sl.far (h.a1 g (blk_of hg)).2 i _, h.a1, h.a2, fun g' hg' => by rw [World.size_setCell]; exact h.lo g' hg'⟩

theorem KRaw.putB {base S : Nat} {q : KV} {A B : Nat → Bool} {N : Nat → Nat} {Z : Nat → Int} {L : Nat → Bool} {w : World} (h : KRaw base S q A B N Z L w) {g : Nat} (hg : q.ju.a = some ⟨g, 0, none⟩) {i : Nat} (hi : i < 10) (b : Bool) : KRaw base S q A (fun j => if j = i then b else B j) N Z L (w.setCell ⟨g, i, none⟩ (.bool b)) :=
  ⟨h.st.far (fun e => (h.a1 g e).1 (blk_of hg)) i _, h.ju.put hg hi (by simp) (fun j hj => by simp [hj]), h.ju.away h.nu (by omega) (by decide) (blk_of hg) i _, h.ju.away h.ro (by omega) (by decide) (blk_of hg) i _, h.sl.far (h.a2 g (blk_of hg)) i _, h.a1, h.a2, fun g' hg' => by rw [World.size_setCell]; exact h.lo g' hg'⟩

theorem KRaw.putN {base S : Nat} {q : KV} {A B : Nat → Bool} {N : Nat → Nat} {Z : Nat → Int} {L : Nat → Bool} {w : World} (h : KRaw base S q A B N Z L w) {g : Nat} (hg : q.nu.a = some ⟨g, 0, none⟩) {i : Nat} (hi : i < 10) (b : Nat) : KRaw base S q A B (fun j => if j = i then b else N j) Z L (w.setCell ⟨g, i, none⟩ (.int .u64 (b : Int))) :=
  ⟨h.nu.away h.st (by omega) (by decide) (blk_of hg) i _, h.nu.away h.ju (by omega) (by decide) (blk_of hg) i _, h.nu.put hg hi (by simp) (fun j hj => by simp [hj]), h.nu.away h.ro (by omega) (by decide) (blk_of hg) i _, h.nu.away h.sl (by omega) (by decide) (blk_of hg) i _, h.a1, h.a2, fun g' hg' => by rw [World.size_setCell]; exact h.lo g' hg'⟩

theorem KRaw.putZ {base S : Nat} {q : KV} {A B : Nat → Bool} {N : Nat → Nat} {Z : Nat → Int} {L : Nat → Bool} {w : World} (h : KRaw base S q A B N Z L w) {g : Nat} (hg : q.ro.a = some ⟨g, 0, none⟩) {i : Nat} (hi : i < 10) (b : Int) : KRaw base S q A B N (fun j => if j = i then b else Z j) L (w.setCell ⟨g, i, none⟩ (.int .i64 b)) :=
  ⟨h.ro.away h.st (by omega) (by decide) (blk_of hg) i _, h.ro.away h.ju (by omega) (by decide) (blk_of hg) i _, h.ro.away h.nu (by omega) (by decide) (blk_of hg) i _, h.ro.put hg hi (by simp) (fun j hj => by simp [hj]), h.ro.away h.sl (by omega) (by decide) (blk_of hg) i _, h.a1, h.a2, fun g' hg' => by rw [World.size_setCell]; exact h.lo g' hg'⟩

theorem KRaw.putL {base S : Nat} {q : KV} {A B : Nat → Bool} {N : Nat → Nat} {Z : Nat → Int} {L : Nat → Bool} {w : World} (h : KRaw base S q A B N Z L w) {g : Nat} (hg : q.sl.a = some ⟨g, 0, none⟩) {i : Nat} (hi : i < S) (b : Bool) : KRaw base S q A B N Z (fun j => if j = i then b else L j) (w.setCell ⟨g, i, none⟩ (.bool b)) :=
  ⟨h.st.far (fun e => (h.a1 g e).2 (blk_of hg)) i _, h.ju.far (fun e => h.a2 g e (blk_of hg)) i _, h.sl.away h.nu (by omega) (by decide) (blk_of hg) i _, h.sl.away h.ro (by omega) (by decide) (blk_of hg) i _, h.sl.put hg hi (by simp) (fun j hj => by simp [hj]), h.a1, h.a2, fun g' hg' => by rw [World.size_setCell]; exact h.lo g' hg'⟩


/-- where its lists lie -/
structure KAt (q : KV) (base g1 g2 g3 g4 : Nat) : Prop where
  e1 : q.st.a = some ⟨g1, 0, none⟩
  e2 : q.ju.a = some ⟨g2, 0, none⟩
  e3 : q.nu.a = some ⟨g3, 0, none⟩
  e4 : q.ro.a = some ⟨g4, 0, none⟩
  n1 : q.st.n = 10
  n2 : q.ju.n = 10
  n3 : q.nu.n = 10
  n4 : q.ro.n = 10
  b1 : base ≤ g1
  b2 : base ≤ g2
  b3 : base ≤ g3
  b4 : base ≤ g4
theorem KRaw.blocks {base S : Nat} {q : KV} {A B : Nat → Bool} {N : Nat → Nat} {Z : Nat → Int} {L : Nat → Bool} {w : World} (h : KRaw base S q A B N Z L w) : ∃ g1 g2 g3 g4, KAt q base g1 g2 g3 g4 := by
  obtain ⟨g1, e1, b1, _⟩ := h.st.block (by omega)
  obtain ⟨g2, e2, b2, _⟩ := h.ju.block (by omega)
  obtain ⟨g3, e3, b3, _⟩ := h.nu.block (by omega)
  obtain ⟨g4, e4, b4, _⟩ := h.ro.block (by omega)
  exact ⟨g1, g2, g3, g4, e1, e2, e3, e4, h.st.1, h.ju.1, h.nu.1, h.ro.1, (h.lo g1 (.inl b1)).1, (h.lo g2 (.inr (.inl b2))).1, (h.lo g3 (.inr (.inr (.inl b3)))).1, (h.lo g4 (.inr (.inr (.inr (.inl b4))))).1⟩
theorem OwnF.at {w : World} {T : TypeId} {s : QSl} {n : Nat} {f : Nat → Value} (h : OwnF w T s n f) {g : Nat} (hg : s.a = some ⟨g, 0, none⟩) {i : Nat} (hi : i < n) : w.cell? ⟨g, i, none⟩ = some (f i) ∧ w.frozen? ⟨g, i, none⟩ = false ∧ g < w.heap.size := by
  obtain ⟨g', cur, e, hh, hc⟩ := h.2.2 (by omega)
  rw [hg] at e
  cases e
  exact ⟨by rw [gbox_cell hh]; exact hc i hi, BoxC.fz hh i, BoxC.lt hh⟩
/-- the four cells of a register -/
structure Reg4 (w : World) (g1 g2 g3 g4 i : Nat) (a b : Bool) (n : Nat) (z : Int) : Prop where
  c1 : w.cell? ⟨g1, i, none⟩ = some (.bool a)
  c2 : w.cell? ⟨g2, i, none⟩ = some (.bool b)
  c3 : w.cell? ⟨g3, i, none⟩ = some (.int .u64 (n : Int))
  c4 : w.cell? ⟨g4, i, none⟩ = some (.int .i64 z)
  f1 : w.frozen? ⟨g1, i, none⟩ = false
  f2 : w.frozen? ⟨g2, i, none⟩ = false
  f3 : w.frozen? ⟨g3, i, none⟩ = false
  f4 : w.frozen? ⟨g4, i, none⟩ = false
  l1 : g1 < w.heap.size
  l2 : g2 < w.heap.size
  l3 : g3 < w.heap.size
  l4 : g4 < w.heap.size
theorem KRaw.reg {base S : Nat} {q : KV} {A B : Nat → Bool} {N : Nat → Nat} {Z : Nat → Int} {L : Nat → Bool} {w : World} (h : KRaw base S q A B N Z L w) {g1 g2 g3 g4 : Nat} (k : KAt q base g1 g2 g3 g4) {i : Nat} (hi : i < 10) : Reg4 w g1 g2 g3 g4 i (A i) (B i) (N i) (Z i) :=
  ⟨(h.st.at k.e1 hi).1, (h.ju.at k.e2 hi).1, (h.nu.at k.e3 hi).1, (h.ro.at k.e4 hi).1, (h.st.at k.e1 hi).2.1, (h.ju.at k.e2 hi).2.1, (h.nu.at k.e3 hi).2.1, (h.ro.at k.e4 hi).2.1, (h.st.at k.e1 hi).2.2, (h.ju.at k.e2 hi).2.2, (h.nu.at k.e3 hi).2.2, (h.ro.at k.e4 hi).2.2⟩
/-- the four blocks are four -/
theorem KRaw.four {base S : Nat} {q : KV} {A B : Nat → Bool} {N : Nat → Nat} {Z : Nat → Int} {L : Nat → Bool} {w : World} (h : KRaw base S q A B N Z L w) {g1 g2 g3 g4 : Nat} (k : KAt q base g1 g2 g3 g4) : ¬ g1 = g2 ∧ ¬ g1 = g3 ∧ ¬ g1 = g4 ∧ ¬ g2 = g3 ∧ ¬ g2 = g4 ∧ ¬ g3 = g4 := by
  refine ⟨fun e => (h.a1 g1 (blk_of k.e1)).1 (by rw [e]; exact blk_of k.e2), fun e => h.st.kinds h.nu (by omega) (by decide) (blk_of k.e1) (by omega) (by rw [e]; exact blk_of k.e3), fun e => h.st.kinds h.ro (by omega) (by decide) (blk_of k.e1) (by omega) (by rw [e]; exact blk_of k.e4), fun e => h.ju.kinds h.nu (by omega) (by decide) (blk_of k.e2) (by omega) (by rw [e]; exact blk_of k.e3), fun e => h.ju.kinds h.ro (by omega) (by decide) (blk_of k.e2) (by omega) (by rw [e]; exact blk_of k.e4), fun e => h.nu.kinds h.ro (by omega) (by decide) (blk_of k.e3) (by omega) (by rw [e]; exact blk_of k.e4)⟩

/-- a register is stored into, whole -/
theorem KRaw.put4 {base S : Nat} {q : KV} {A B : Nat → Bool} {N : Nat → Nat} {Z : Nat → Int} {L : Nat → Bool} {w : World} (h : KRaw base S q A B N Z L w) {g1 g2 g3 g4 : Nat} (k : KAt q base g1 g2 g3 g4) {i : Nat} (hi : i < 10) (a b : Bool) (n : Nat) (z : Int) :
    KRaw base S q (fun j => if j = i then a else A j) (fun j => if j = i then b else B j) (fun j => if j = i then n else N j) (fun j => if j = i then z else Z j) L ((((w.setCell ⟨g1, i, none⟩ (.bool a)).setCell ⟨g2, i, none⟩ (.bool b)).setCell ⟨g3, i, none⟩ (.int .u64 (n : Int))).setCell ⟨g4, i, none⟩ (.int .i64 z)) :=
  (((h.putA k.e1 hi a).putB k.e2 hi b).putN k.e3 hi n).putZ k.e4 hi z
theorem KRaw.congr {base S : Nat} {q : KV} {A B A' B' : Nat → Bool} {N : Nat → Nat} {Z Z' : Nat → Int} {L L' : Nat → Bool} {w : World} (h : KRaw base S q A B N Z L w) (e1 : ∀ i, A i = A' i) (e2 : ∀ i, B i = B' i) (e3 : ∀ i, Z i = Z' i) (e4 : ∀ i, L i = L' i) : KRaw base S q A' B' N Z' L' w := by
  obtain rfl : A = A' := funext e1
  obtain rfl : B = B' := funext e2
  obtain rfl : Z = Z' := funext e3
  obtain rfl : L = L' := funext e4
  exact h
/-- what is known of a register is stored into, whole -/
theorem KOwn.put4 {base S : Nat} {q : KV} {s : SD} {N : Nat → Nat} {w : World} (h : KOwn base S q s N w) {g1 g2 g3 g4 : Nat} (k : KAt q base g1 g2 g3 g4) {i : Nat} (hi : i < 10) (r : RD) (n : Nat) (hn : n < 18446744073709551616) (hj : ∀ m, r.just = some m → n = m) :
    KOwn base S q (s.setR i r) (fun j => if j = i then n else N j) ((((w.setCell ⟨g1, i, none⟩ (.bool r.set)).setCell ⟨g2, i, none⟩ (.bool r.just.isSome)).setCell ⟨g3, i, none⟩ (.int .u64 (n : Int))).setCell ⟨g4, i, none⟩ (.int .i64 (roomZ r.room))) := by
  refine ⟨(h.1.put4 k hi r.set r.just.isSome n (roomZ r.room)).congr (fun j => ?_) (fun j => ?_) (fun j => ?_) (fun _ => rfl), fun j hjn => ?_⟩
  · show (if j = i then r.set else (s.reg j).set) = (if j = i then r else s.reg j).set
    split <;> rfl
  · show (if j = i then r.just.isSome else (s.reg j).just.isSome) = (if j = i then r else s.reg j).just.isSome
    split <;> rfl
  · show (if j = i then roomZ r.room else roomZ (s.reg j).room) = roomZ (if j = i then r else s.reg j).room
    split <;> rfl
  · show (if j = i then n else N j) < _ ∧ ∀ m, (if j = i then r else s.reg j).just = some m → (if j = i then n else N j) = m
    by_cases e : j = i
    · simp only [if_pos e]; exact ⟨hn, hj⟩
    · simp only [if_neg e]; exact h.2 j hjn
theorem below4 {w W : World} (b : Below w.heap.size w W) {g1 g2 g3 g4 : Nat} (h1 : w.heap.size ≤ g1) (h2 : w.heap.size ≤ g2) (h3 : w.heap.size ≤ g3) (h4 : w.heap.size ≤ g4) (i : Nat) (v1 v2 v3 v4 : Value) : Below w.heap.size w ((((W.setCell ⟨g1, i, none⟩ v1).setCell ⟨g2, i, none⟩ v2).setCell ⟨g3, i, none⟩ v3).setCell ⟨g4, i, none⟩ v4) := hput1 (hput1 (hput1 (hput1 b h1 i v1) h2 i v2) h3 i v3) h4 i v4
end Go.Proofs.Ytmohffibkpecpaa
