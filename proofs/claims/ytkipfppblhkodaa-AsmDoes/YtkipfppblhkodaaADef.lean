/- An Asm as it lies: its instructions and its labels; of the document's Labelled too. What Done tells, in plain lists. -/
import Derived.Test.YtkipfppblhkodaaGOwn
import Derived.Test.YtkipfppblhkodaaGChk
namespace Go.Proofs.Ytkipfppblhkodaa
open Go.RowKit

def kIntE (n : Int) : List Value := [.int .i64 n]
theorem kInt_one (x : Int) : ∀ u ∈ kIntE x, u.oneCell' = true := by
  intro u hu
  simp [kIntE] at hu
  rw [hu]
  rfl
theorem Try.ainfoInt : (Try.prog.info? 3).map (fun i => (i.zero, i.size, i.bytes)) = some (some (.int .i64 0), 1, 8) := by kernel_rfl

/-- where it lies, and what it has -/
structure LabD where
  p : Nat
  la : Option Addr
  lc : Nat
  ma : Option Addr
  mc : Nat
  cs : List InsD
  ms : List Int

structure LabAt (T : TypeId) (B : Nat) (d : LabD) (w : World) : Prop where
  box : w.heap[d.p]? = some (.cells #[.slice d.la d.cs.length d.lc, .slice d.ma d.ms.length d.mc] T (0, 0))
  lo : B ≤ d.p
  code : w.ownsRow B 34 6 (.slice d.la d.cs.length d.lc) d.cs.length (d.cs.flatMap kInsE)
  marks : w.ownsRow B 3 1 (.slice d.ma d.ms.length d.mc) d.ms.length (d.ms.flatMap kIntE)
  wf : ∀ x ∈ d.cs, x.wf
  wm : ∀ m ∈ d.ms, -1 ≤ m ∧ m ≤ d.cs.length

def LabD.own (d : LabD) (b : Nat) : Prop := b = d.p ∨ (∃ ad : Addr, d.la = some ad ∧ b = ad.block) ∨ (∃ ad : Addr, d.ma = some ad ∧ b = ad.block)
def ApartL (d e : LabD) : Prop := ∀ k, d.own k → ¬ e.own k
theorem ApartL.symm {d e : LabD} (h : ApartL d e) : ApartL e d := fun k a b => h k b a

/-- what a step of it turns -/
structure LabTo (d d' : LabD) (w w' : World) : Prop where
  os : w'.os = w.os
  tape : w'.tape = w.tape
  output : w'.output = w.output
  size : w.heap.size ≤ w'.heap.size
  old : ∀ k, k < w.heap.size → ¬ d.own k → w'.heap[k]? = w.heap[k]?
  fresh : ∀ k, d'.own k → d.own k ∨ w.heap.size ≤ k

theorem own_lo {w : World} {base n c k : Nat} {T : TypeId} {a : Option Addr} {vs : List Value} (h : w.ownsRow base T k (.slice a n c) n vs) {ad : Addr} (ha : a = some ad) : base ≤ ad.block ∧ ad.block < w.heap.size := by
  obtain ⟨⟨cur, hc⟩, hb⟩ := own_at h ha
  exact ⟨hb, (Array.getElem?_eq_some_iff.1 hc).1⟩

theorem LabAt.lows {T : TypeId} {B : Nat} {d : LabD} {w : World} (h : LabAt T B d w) {k : Nat} (hk : d.own k) : B ≤ k ∧ k < w.heap.size := by
  rcases hk with rfl | ⟨ad, ha, rfl⟩ | ⟨ad, ha, rfl⟩
  · exact ⟨h.lo, (Array.getElem?_eq_some_iff.1 h.box).1⟩
  · exact own_lo h.code ha
  · exact own_lo h.marks ha

theorem owns_blk {w w' : World} {base n c k : Nat} {T : TypeId} {a : Option Addr} {vs : List Value} (h : w.ownsRow base T k (.slice a n c) n vs) (hb : ∀ ad : Addr, a = some ad → w'.heap[ad.block]? = w.heap[ad.block]?) : w'.ownsRow base T k (.slice a n c) n vs := by
  refine ⟨h.1, ?_⟩
  rcases h.2 with h2 | ⟨g, cap, cur, hv, hg, hh, r⟩
  · exact .inl h2
  · refine .inr ⟨g, cap, cur, hv, hg, ?_, r⟩
    simp only [Value.slice.injEq] at hv
    rw [hb _ hv.1]
    exact hh

theorem LabAt.blk {T : TypeId} {B : Nat} {d : LabD} {w w' : World} (h : LabAt T B d w) (hb : ∀ k, d.own k → w'.heap[k]? = w.heap[k]?) : LabAt T B d w' :=
  ⟨(hb _ (.inl rfl)).trans h.box, h.lo, owns_blk h.code fun ad ha => hb _ (.inr (.inl ⟨ad, ha, rfl⟩)), owns_blk h.marks fun ad ha => hb _ (.inr (.inr ⟨ad, ha, rfl⟩)), h.wf, h.wm⟩
theorem LabAt.step {T : TypeId} {B : Nat} {d : LabD} {w w' : World} (h : LabAt T B d w) (b : Below w.heap.size w w') : LabAt T B d w' := h.blk fun k hk => b.block k (h.lows hk).2

/-- the other one stays -/
theorem LabTo.other {T : TypeId} {B : Nat} {d d' e : LabD} {w w' : World} (h : LabTo d d' w w') (he : LabAt T B e w) (ha : ApartL d e) : LabAt T B e w' ∧ ApartL d' e := by
  refine ⟨he.blk fun k hk => h.old k (he.lows hk).2 fun hd => ha k hd hk, fun k hd hk => ?_⟩
  rcases h.fresh k hd with h1 | h1
  · exact ha k h1 hk
  · exact absurd (he.lows hk).2 (Nat.not_lt.2 h1)
theorem LabTo.below {T : TypeId} {B : Nat} {d d' : LabD} {w w' : World} (h : LabTo d d' w w') (hd : LabAt T B d w) (hB : B ≤ w.heap.size) : Below B w w' :=
  ⟨h.os, h.tape, h.output, h.size, fun k hk => h.old k (by omega) fun ho => absurd (hd.lows ho).1 (by omega)⟩

/-- where a label leads, from the instruction at: how many lie between, or the code of why not -/
def toN (ms : List Int) (at_ l : Int) : Int × Int :=
  if l < 0 ∨ (ms.length : Int) ≤ l ∨ ms.getD l.toNat 0 = -1 then (0, 9) else if ms.getD l.toNat 0 ≤ at_ then (0, 11) else (ms.getD l.toNat 0 - at_ - 1, 0)
def codeAt (ms : List Int) (j : Int) (x : InsD) : Int := if hasT x.op = true then (toN ms j x.to).2 else 0
def fixD (ms : List Int) (j : Int) (x : InsD) : InsD := if hasT x.op = true then ⟨x.op, x.r, x.s, x.k, (toN ms j x.to).1, x.n⟩ else x
def fixL (ms : List Int) : List InsD → Nat → List InsD
  | [], _ => []
  | x :: r, j => fixD ms j x :: fixL ms r (j + 1)
def badL (ms : List Int) : List InsD → Nat → Int × Int
  | [], _ => (0, 0)
  | x :: r, j => if codeAt ms j x = 0 then badL ms r (j + 1) else (codeAt ms j x, (j : Int))
def doneF (ms : List Int) (slots : Int) (ts : List ShapeD) (cs : List InsD) : Int × Int := if (badL ms cs 0).1 ≠ 0 then badL ms cs 0 else chkW slots ts (fixL ms cs 0)
def doneS (ms : List Int) (slots : Int) (ts : List ShapeD) (cs : List InsD) : Int := if (doneF ms slots ts cs).1 ≠ 0 then 0 else slots
def doneT (ms : List Int) (slots : Int) (ts : List ShapeD) (cs : List InsD) : List ShapeD := if (doneF ms slots ts cs).1 ≠ 0 then [] else ts
def doneC (ms : List Int) (slots : Int) (ts : List ShapeD) (cs : List InsD) : List InsD := if (doneF ms slots ts cs).1 ≠ 0 then [] else fixL ms cs 0

theorem fixL_n (ms : List Int) : ∀ (cs : List InsD) (j : Nat), (fixL ms cs j).length = cs.length := by
  intro cs
  induction cs with
  | nil => intro j; rfl
  | cons x r ih => intro j; simp [fixL, ih]
theorem fixL_at (ms : List Int) : ∀ (cs : List InsD) (j i : Nat), (fixL ms cs j)[i]? = cs[i]?.map (fixD ms ((j + i : Nat) : Int)) := by
  intro cs
  induction cs with
  | nil => intro j i; simp [fixL]
  | cons x r ih =>
    intro j i
    cases i with
    | zero => simp [fixL]
    | succ i => rw [fixL, List.getElem?_cons_succ, ih, List.getElem?_cons_succ]; congr 3; omega

theorem bad_skip (ms : List Int) (cs : List InsD) : ∀ (j i : Nat), (∀ (k : Nat) t, k < j → cs[k]? = some t → codeAt ms ((i + k : Nat) : Int) t = 0) → badL ms cs i = badL ms (cs.drop j) (i + j) := by
  induction cs with
  | nil => intro j i _; simp [badL]
  | cons t r ih =>
    intro j i h
    cases j with
    | zero => simp
    | succ j =>
      have h0 : codeAt ms i t = 0 := h 0 t (by omega) rfl
      rw [badL, if_pos h0, ih j (i + 1) (fun k u hk hu => by
        have := h (k + 1) u (by omega) (by simpa using hu)
        rw [← this]
        congr 2
        omega), List.drop_succ_cons]
      congr 1
      omega
theorem bad_bad {ms : List Int} {cs : List InsD} {j : Nat} {t : InsD} (h : ∀ (k : Nat) t, k < j → cs[k]? = some t → codeAt ms k t = 0) (ht : cs[j]? = some t) (hb : codeAt ms j t ≠ 0) : badL ms cs 0 = (codeAt ms j t, (j : Int)) := by
  obtain ⟨hj, e⟩ := List.getElem?_eq_some_iff.1 ht
  rw [bad_skip ms cs j 0 (fun k t hk ht => by rw [Nat.zero_add]; exact h k t hk ht), List.drop_eq_getElem_cons hj, e, badL, Nat.zero_add, if_neg hb]
theorem bad_good {ms : List Int} {cs : List InsD} (h : ∀ (k : Nat) t, k < cs.length → cs[k]? = some t → codeAt ms k t = 0) : badL ms cs 0 = (0, 0) := by
  rw [bad_skip ms cs cs.length 0 (fun k t hk ht => by rw [Nat.zero_add]; exact h k t hk ht), List.drop_length, badL]

/-- what Done tells -/
def DoneIs (ms : List Int) (slots : Int) (ts : List ShapeD) (cs : List InsD) (w : World) (e : Ending) (w' : World) : Prop :=
  ∃ q : ProgD, e = .returned (.tuple #[q.v, .agg #[.int .i64 (doneF ms slots ts cs).1, .int .i64 (doneF ms slots ts cs).2]]) ∧ q.slots = doneS ms slots ts cs ∧ q.ts = doneT ms slots ts cs ∧ q.cs = doneC ms slots ts cs ∧ q.lie w' ∧ q.small ∧ Below w.heap.size w w'

def anilD : ProgD := ⟨0, ⟨none, 0, 0⟩, [], ⟨none, 0, 0⟩, []⟩
theorem anil_lie (w : World) : anilD.lie w := ⟨by decide, fun _ => ⟨rfl, rfl⟩, fun _ => ⟨rfl, rfl⟩, ⟨rfl, fun i d h => by simp [anilD] at h⟩, ⟨rfl, fun i d h => by simp [anilD] at h⟩⟩

theorem done_bad {ms : List Int} {slots : Int} {ts : List ShapeD} {cs : List InsD} {w w' : World} {c a : Int} (h : doneF ms slots ts cs = (c, a)) (hc : c ≠ 0) (b : Below w.heap.size w w') : DoneIs ms slots ts cs w (.returned (.tuple #[.agg #[.int .i64 0, .slice none 0 0, .slice none 0 0], .agg #[.int .i64 c, .int .i64 a]])) w' := by
  have h1 : (doneF ms slots ts cs).1 ≠ 0 := by rw [h]; exact hc
  refine ⟨anilD, by rw [h]; rfl, ?_, ?_, ?_, anil_lie w', ⟨Nat.zero_le _, Nat.zero_le _⟩, b⟩
  · unfold doneS; rw [if_pos h1]; rfl
  · unfold doneT; rw [if_pos h1]; rfl
  · unfold doneC; rw [if_pos h1]; rfl
theorem done_good {ms : List Int} {slots : Int} {ts : List ShapeD} {cs : List InsD} {w w' : World} (q : ProgD) (h : doneF ms slots ts cs = (0, 0)) (h1 : q.slots = slots) (h2 : q.ts = ts) (h3 : q.cs = fixL ms cs 0) (h4 : q.lie w') (h5 : q.small) (b : Below w.heap.size w w') : DoneIs ms slots ts cs w (.returned (.tuple #[q.v, .agg #[.int .i64 0, .int .i64 0]])) w' := by
  have h0 : ¬ (doneF ms slots ts cs).1 ≠ 0 := by rw [h]; exact fun h => h rfl
  refine ⟨q, by rw [h], ?_, ?_, ?_, h4, h5, b⟩
  · unfold doneS; rw [if_neg h0]; exact h1
  · unfold doneT; rw [if_neg h0]; exact h2
  · unfold doneC; rw [if_neg h0]; exact h3
end Go.Proofs.Ytkipfppblhkodaa
