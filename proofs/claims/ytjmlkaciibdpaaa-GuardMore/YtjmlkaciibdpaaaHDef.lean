/- What is known ahead of an instruction, in plain words: guard.Check as a pure function. -/
import Derived.Test.YtjmlkaciibdpaaaGBox
namespace Go.Proofs.Ytjmlkaciibdpaaa
open Go.RowKit

/-- what is known of a register -/
structure RD where
  set : Bool
  just : Option Nat
  room : Option Nat

/-- what is known ahead of an instruction -/
structure SD where
  reg : Nat → RD
  slot : Nat → Bool

def leastO : Option Nat → Option Nat → Option Nat
  | some a, some b => some (min a b)
  | _, _ => none
def sameO (a b : Option Nat) : Option Nat := if a = b then a else none
def RD.none : RD := ⟨false, Option.none, Option.none⟩
def RD.any : RD := ⟨true, Option.none, Option.none⟩
def RD.join (r t : RD) : RD := ⟨r.set && t.set, sameO r.just t.just, leastO r.room t.room⟩
def RD.has (r : RD) (n : Nat) : Bool := match r.room with
  | Option.none => false
  | some m => decide (n ≤ m)
def RD.more (r : RD) (n : Nat) : RD := if r.has n = true then r else { r with room := some n }
def RD.num (n : Nat) : RD := ⟨true, some n, if n = 0 then some 0 else Option.none⟩
def sumO : Option Nat → Option Nat → Option Nat
  | some a, some b => some ((a + b) % 18446744073709551616)
  | _, _ => none
def lessO : Option Nat → Option Nat → Option Nat
  | some m, some b => if b ≤ m then some (m - b) else none
  | _, _ => none
def RD.bin (r : RD) (k : Int) (s : RD) : RD := if k = 3 then ⟨true, sumO r.just s.just, lessO r.room s.just⟩ else RD.any

def SD.none : SD := ⟨fun _ => RD.none, fun _ => false⟩
def SD.join (s t : SD) : SD := ⟨fun i => (s.reg i).join (t.reg i), fun i => s.slot i && t.slot i⟩
def SD.setR (s : SD) (i : Nat) (r : RD) : SD := { s with reg := fun j => if j = i then r else s.reg j }
def SD.fill (s : SD) (a n : Nat) : SD := { s with slot := fun j => s.slot j || (decide (a ≤ j) && decide (j < a + n)) }
def joinO : Option SD → SD → SD
  | Option.none, t => t
  | some s, t => s.join t

def RD.ok (r : RD) : Prop := (∀ n, r.just = some n → n < 18446744073709551616) ∧ (∀ n, r.room = some n → n ≤ 600) ∧ (r.set = false → r.just = Option.none ∧ r.room = Option.none)
def SD.ok (s : SD) : Prop := ∀ i, (s.reg i).ok

theorem RD.ok_none : RD.none.ok := ⟨fun _ h => (by cases h), fun _ h => (by cases h), fun _ => ⟨rfl, rfl⟩⟩
theorem RD.ok_any : RD.any.ok := ⟨fun _ h => (by cases h), fun _ h => (by cases h), fun _ => ⟨rfl, rfl⟩⟩
theorem SD.ok_none : SD.none.ok := fun _ => RD.ok_none
theorem RD.ok.join {r t : RD} (h : r.ok) (k : t.ok) : (r.join t).ok := by
  obtain ⟨rs, rj, rr⟩ := r
  obtain ⟨ts, tj, tr⟩ := t
  refine ⟨fun n hn => ?_, fun n hn => ?_, fun hs => ?_⟩
  · simp only [RD.join, sameO] at hn
    split at hn
    · exact h.1 n hn
    · cases hn
  · simp only [RD.join] at hn
    cases rr with
    | none => simp [leastO] at hn
    | some a =>
      cases tr with
      | none => simp [leastO] at hn
      | some b =>
        simp only [leastO, Option.some.injEq] at hn
        have := h.2.1 a rfl
        omega
  · simp only [RD.join, Bool.and_eq_false_iff] at hs
    rcases hs with hs | hs
    · obtain ⟨e1, e2⟩ := h.2.2 hs
      dsimp only at e1 e2
      subst e1 e2
      simp only [RD.join, sameO, leastO]
      exact ⟨by split <;> rfl, trivial⟩
    · obtain ⟨e1, e2⟩ := k.2.2 hs
      dsimp only at e1 e2
      subst e1 e2
      simp only [RD.join, sameO]
      refine ⟨by split <;> simp_all, by cases rr <;> rfl⟩
theorem RD.ok.more {r : RD} (h : r.ok) {n : Nat} (hn : n ≤ 600) (hs : r.set = true) : (r.more n).ok := by
  unfold RD.more
  split
  · exact h
  · exact ⟨h.1, fun m hm => by simp only [Option.some.injEq] at hm; omega, fun e => by simp only [hs] at e; cases e⟩
theorem RD.ok_num {n : Nat} (hn : n < 18446744073709551616) : (RD.num n).ok := by
  refine ⟨fun m hm => ?_, fun m hm => ?_, fun e => by cases e⟩
  · simp only [RD.num, Option.some.injEq] at hm
    omega
  · simp only [RD.num] at hm
    split at hm
    · simp only [Option.some.injEq] at hm; omega
    · cases hm
theorem RD.ok.bin {r s : RD} (h : r.ok) (k : Int) : (r.bin k s).ok := by
  unfold RD.bin
  split
  · refine ⟨fun n hn => ?_, fun n hn => ?_, fun e => by cases e⟩
    · dsimp only at hn
      cases hj : r.just with
      | none => simp [hj, sumO] at hn
      | some a =>
        cases hk : s.just with
        | none => simp [hj, hk, sumO] at hn
        | some b =>
          simp only [hj, hk, sumO, Option.some.injEq] at hn
          omega
    · dsimp only at hn
      cases hj : r.room with
      | none => simp [hj, lessO] at hn
      | some a =>
        cases hk : s.just with
        | none => simp [hj, hk, lessO] at hn
        | some b =>
          have := h.2.1 a hj
          simp only [hj, hk, lessO] at hn
          split at hn
          · simp only [Option.some.injEq] at hn; omega
          · cases hn
  · exact RD.ok_any
theorem SD.ok.setR {s : SD} (h : s.ok) {i : Nat} {r : RD} (hr : r.ok) : (s.setR i r).ok := fun j => by
  show (if j = i then r else s.reg j).ok
  split
  · exact hr
  · exact h j
theorem SD.ok.join {s t : SD} (h : s.ok) (k : t.ok) : (s.join t).ok := fun j => (h j).join (k j)
theorem SD.ok.fill {s : SD} (h : s.ok) (a n : Nat) : (s.fill a n).ok := h

def keysOf (ts : List ShapeD) (x : InsD) : Nat := match ts[x.n.toNat]? with
  | some t => t.keys.toNat
  | none => 0
def argsOf (ts : List ShapeD) (x : InsD) : Nat := match ts[x.n.toNat]? with
  | some t => t.args.toNat
  | none => 0

def readyD (s : SD) (x : InsD) : Bool :=
  if x.op = 2 ∨ x.op = 6 then (s.reg x.s.toNat).set else if x.op = 3 ∨ x.op = 5 ∨ x.op = 10 ∨ x.op = 11 then (s.reg x.r.toNat).set && (s.reg x.s.toNat).set else if x.op = 4 ∨ x.op = 8 ∨ x.op = 9 ∨ x.op = 14 ∨ x.op = 15 ∨ x.op = 16 then (s.reg x.r.toNat).set else true
def askedD (ts : List ShapeD) (s : SD) (x : InsD) : Bool :=
  if x.op = 7 then s.slot x.n.toNat else if x.op = 13 then (List.range (keysOf ts x)).all fun i => s.slot (x.s.toNat + i) else true
/-- what may go wrong at an instruction -/
def wrongD (ts : List ShapeD) (s : SD) (x : InsD) : Int :=
  if readyD s x = false then 15 else if x.op = 6 ∧ (s.reg x.s.toNat).has (x.n.toNat + x.k.toNat) = false then 16 else if x.op = 15 ∧ (s.reg x.r.toNat).has 0 = false then 16 else if askedD ts s x = false then 15 else 0
/-- what is known behind it -/
def behindD (ts : List ShapeD) (s : SD) (x : InsD) : SD :=
  if x.op = 1 then s.setR x.r.toNat (RD.num x.n.toNat) else if x.op = 2 then s.setR x.r.toNat (s.reg x.s.toNat) else if x.op = 3 then s.setR x.r.toNat ((s.reg x.r.toNat).bin x.k (s.reg x.s.toNat)) else if x.op = 4 ∨ x.op = 5 ∨ x.op = 18 ∨ x.op = 6 ∨ x.op = 7 then s.setR x.r.toNat RD.any else if x.op = 8 then s.fill x.n.toNat 1 else if x.op = 13 then (s.setR x.r.toNat RD.any).fill x.k.toNat (argsOf ts x) else if x.op = 9 then s.setR x.r.toNat ((s.reg x.r.toNat).more x.n.toNat) else s
def goesD (x : InsD) : Bool := !(decide (x.op = 12) || endsB x.op)

def putA (A : Nat → Option SD) (i : Nat) (s : SD) : Nat → Option SD := fun j => if j = i then some s else A j
/-- one instruction: a code, and what is known ahead of those that it leads to -/
def overA (ts : List ShapeD) (A : Nat → Option SD) (i : Nat) (x : InsD) (s : SD) : Nat → Option SD :=
  let A1 := if hasT x.op = true then putA A (i + 1 + x.to.toNat) (joinO (A (i + 1 + x.to.toNat)) s) else A
  if goesD x = true then putA A1 (i + 1) (joinO (A1 (i + 1)) (behindD ts s x)) else A1
def guardG (ts : List ShapeD) : List InsD → Nat → (Nat → Option SD) → Int × Int
  | [], _, _ => (0, 0)
  | x :: r, i, A => match A i with
    | none => guardG ts r (i + 1) A
    | some s => if wrongD ts s x ≠ 0 then (wrongD ts s x, i) else guardG ts r (i + 1) (overA ts A i x s)
def startA : Nat → Option SD := fun j => if j = 0 then some SD.none else none
/-- guard.Check -/
def guardW (slots : Int) (ts : List ShapeD) (cs : List InsD) : Int × Int := if (chkW slots ts cs).1 ≠ 0 then chkW slots ts cs else guardG ts cs 0 startA

/-- a right program's instruction, at i of m -/
structure GOk (slots : Int) (ts : List ShapeD) (m i : Nat) (x : InsD) : Prop where
  op : 1 ≤ x.op ∧ x.op ≤ 18
  r : 0 ≤ x.r ∧ x.r < 10
  s : x.op ≠ 13 → 0 ≤ x.s ∧ x.s < 10
  jmp : 0 ≤ x.to
  leads : hasT x.op = true → (i : Int) + 1 + x.to < m
  bin : x.op = 3 → 3 ≤ x.k ∧ x.k ≤ 12
  load : x.op = 6 → 1 ≤ x.k ∧ x.k ≤ 8 ∧ x.n ≤ 600
  room : x.op = 9 → x.n ≤ 600
  slot : x.op = 7 ∨ x.op = 8 → x.n < slots
  call : x.op = 13 → ∃ t, ts[x.n.toNat]? = some t ∧ 0 ≤ x.s ∧ x.s + t.keys ≤ slots ∧ 0 ≤ x.k ∧ x.k + t.args ≤ slots ∧ 1 ≤ t.keys ∧ t.keys ≤ 3 ∧ 0 ≤ t.args ∧ t.args ≤ 3
  n : 0 ≤ x.n ∧ x.n < 18446744073709551616
  on : endsB x.op = false → i + 1 < m

theorem hinss_at {slots : Int} {ts : List ShapeD} {m : Int} : ∀ {cs : List InsD} {i : Int}, (inssN slots ts m cs i).1 = 0 → ∀ (j : Nat) x, cs[j]? = some x → insN slots ts m (i + j) x = 0 := by
  intro cs
  induction cs with
  | nil => intro i _ j x hx; simp at hx
  | cons y r ih =>
    intro i h j x hx
    rw [inssN] at h
    by_cases h1 : insN slots ts m i y = 0
    · rw [if_pos h1] at h
      cases j with
      | zero =>
        simp only [List.getElem?_cons_zero, Option.some.injEq] at hx
        subst hx
        simpa using h1
      | succ j =>
        have := ih h j x (by simpa using hx)
        rw [show i + ((j + 1 : Nat) : Int) = i + 1 + (j : Int) by omega]
        exact this
    · rw [if_neg h1] at h
      exact absurd h h1

theorem gok {slots : Int} {ts : List ShapeD} {cs : List InsD} (hw : ∀ x ∈ cs, x.wf) (h : (chkW slots ts cs).1 = 0) {i : Nat} {x : InsD} (hx : cs[i]? = some x) : GOk slots ts cs.length i x := by
  have hp := chk_fit hw h
  have hxw := hw x (List.mem_of_getElem? hx)
  have hn := bounds_u64 hxw.2.2.2.2.2
  have hi : i < cs.length := (List.getElem?_eq_some_iff.1 hx).1
  unfold chkW at h
  by_cases h1 : (sizesN slots ts cs.length).1 ≠ 0
  · rw [if_pos h1] at h; exact absurd h h1
  rw [if_neg h1] at h
  by_cases h2 : (inssN slots ts cs.length cs 0).1 ≠ 0
  · rw [if_pos h2] at h; exact absurd h h2
  rw [if_neg h2] at h
  have h3 := hinss_at (by simpa using h2) i x hx
  unfold insN at h3
  by_cases h4 : (formB x && fitsB slots ts x) = false
  · rw [if_pos h4] at h3; exact absurd h3 (by decide)
  rw [if_neg h4] at h3
  by_cases h5 : (hasT x.op && decide ((cs.length : Int) - 1 - (0 + (i : Int)) ≤ x.to)) = true
  · rw [if_pos h5] at h3; exact absurd h3 (by decide)
  simp only [Bool.not_eq_false, Bool.and_eq_true] at h4
  obtain ⟨h6, h7⟩ := h4
  unfold formB at h6
  simp only [Bool.and_eq_true, decide_eq_true_eq] at h6
  obtain ⟨⟨⟨g1, g2⟩, g3⟩, g4⟩ := h6
  have g1 := inB_true g1
  unfold regsB at g3
  simp only [Bool.and_eq_true, Bool.or_eq_true, decide_eq_true_eq] at g3
  obtain ⟨g5, g6⟩ := g3
  have g5 := inB_true g5
  have hend : endsB x.op = false → i + 1 < cs.length := fun he => by
    rcases Nat.lt_or_ge (i + 1) cs.length with h8 | h8
    · exact h8
    · exfalso
      have e : i = cs.length - 1 := by omega
      rw [← e, hx] at h
      simp only [Option.map_some, Option.getD_some] at h
      rw [if_neg (by rw [he]; decide)] at h
      exact absurd (show (18 : Int) = 0 from h) (by decide)
  unfold fitsB at h7
  refine ⟨g1, by omega, fun h13 => ?_, g4, fun ht => ?_, fun e => ?_, fun e => ?_, fun e => ?_, fun e => ?_, fun e => ?_, by omega, hend⟩
  · rcases g6 with g6 | g6
    · exact absurd g6 h13
    · have := inB_true g6; omega
  · rw [ht, Bool.true_and] at h5
    simp only [decide_eq_true_eq] at h5
    omega
  · rw [if_pos e] at h7; exact inB_true h7
  · rw [if_neg (by omega), if_pos e] at h7
    simp only [Bool.and_eq_true, decide_eq_true_eq] at h7
    have := inB_true h7.1
    exact ⟨this.1, this.2, h7.2⟩
  · rw [if_neg (by omega), if_neg (by omega), if_neg (by omega), if_pos e] at h7
    simpa using h7
  · rw [if_neg (by omega), if_neg (by omega), if_neg (by omega), if_neg (by omega), if_pos e] at h7
    simpa using h7
  · rw [if_neg (by omega), if_neg (by omega), if_neg (by omega), if_neg (by omega), if_neg (by omega), if_pos e] at h7
    unfold callB at h7
    cases ht : ts[x.n.toNat]? with
    | none => rw [ht] at h7; cases h7
    | some t =>
      rw [ht] at h7
      simp only [Bool.and_eq_true] at h7
      have a := inB_true h7.1
      have b := inB_true h7.2
      have := hp.t t (List.mem_of_getElem? ht)
      exact ⟨t, rfl, by omega, by omega, by omega, by omega, by omega, by omega, by omega, by omega⟩
end Go.Proofs.Ytjmlkaciibdpaaa
