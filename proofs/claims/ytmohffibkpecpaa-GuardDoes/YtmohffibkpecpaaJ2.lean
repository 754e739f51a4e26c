/- Texts of one chain, joined: GDef, GSmall, GRow. -/
import Derived.Test.YtmohffibkpecpaaJ1
import Derived.Deep.RegionLaw
namespace Go.Proofs.Ytmohffibkpecpaa
open Go.RowKit

@[reducible] def gwfI (n : Int) : Prop := (Lit.int .i64 n).wf = true
@[reducible] def gwfU (n : Int) : Prop := (Lit.int .u64 n).wf = true

structure ShapeD where
  keys : Int
  acts : Int
  args : Int
def ShapeD.lie (d : ShapeD) (w : World) (g o : Nat) : Prop := CI w g o d.keys ∧ CI w g (o + 1) d.acts ∧ CI w g (o + 2) d.args
theorem ShapeD.keeps : Keeps ShapeD.lie := fun h b => ⟨h.1.step b, h.2.1.step b, h.2.2.step b⟩
@[reducible] def ShapeD.v (d : ShapeD) : Value := .agg #[.int .i64 d.keys, .int .i64 d.acts, .int .i64 d.args]
def ShapeD.wf (d : ShapeD) : Prop := gwfI d.keys ∧ gwfI d.acts ∧ gwfI d.args

structure InsD where
  op : Int
  r : Int
  s : Int
  k : Int
  to : Int
  n : Int
def InsD.lie (d : InsD) (w : World) (g o : Nat) : Prop := CI w g o d.op ∧ CI w g (o + 1) d.r ∧ CI w g (o + 2) d.s ∧ CI w g (o + 3) d.k ∧ CI w g (o + 4) d.to ∧ CU w g (o + 5) d.n
theorem InsD.keeps : Keeps InsD.lie := fun h b => ⟨h.1.step b, h.2.1.step b, h.2.2.1.step b, h.2.2.2.1.step b, h.2.2.2.2.1.step b, h.2.2.2.2.2.step b⟩
@[reducible] def InsD.v (d : InsD) : Value := .agg #[.int .i64 d.op, .int .i64 d.r, .int .i64 d.s, .int .i64 d.k, .int .i64 d.to, .int .u64 d.n]
def InsD.wf (d : InsD) : Prop := gwfI d.op ∧ gwfI d.r ∧ gwfI d.s ∧ gwfI d.k ∧ gwfI d.to ∧ gwfU d.n

theorem ShapeD.lie.wf {d : ShapeD} {w : World} {g o : Nat} (h : d.lie w g o) : d.wf := ⟨h.1.2, h.2.1.2, h.2.2.2⟩
theorem InsD.lie.wf {d : InsD} {w : World} {g o : Nat} (h : d.lie w g o) : d.wf := ⟨h.1.2, h.2.1.2, h.2.2.1.2, h.2.2.2.1.2, h.2.2.2.2.1.2, h.2.2.2.2.2.2⟩

structure ProgD where
  slots : Int
  tabs : QSl
  ts : List ShapeD
  code : QSl
  cs : List InsD
structure ProgD.lie (d : ProgD) (w : World) : Prop where
  ws : gwfI d.slots
  n1 : d.tabs.nil0
  n2 : d.code.nil0
  t : QRow 3 ShapeD.lie w d.tabs d.ts
  c : QRow 6 InsD.lie w d.code d.cs
@[reducible] def ProgD.v (d : ProgD) : Value := .agg #[.int .i64 d.slots, .slice d.tabs.a d.tabs.n d.tabs.c, .slice d.code.a d.code.n d.code.c]
theorem ProgD.lie.step {d : ProgD} {w w' : World} (h : d.lie w) (b : Below w.heap.size w w') : d.lie w' := ⟨h.ws, h.n1, h.n2, h.t.step ShapeD.keeps b, h.c.step InsD.keeps b⟩
def ProgD.small (d : ProgD) : Prop := d.tabs.n ≤ 300 ∧ d.code.n ≤ 65535

theorem grow_at {α : Type} {k : Nat} {P : α → World → Nat → Nat → Prop} {w : World} {s : QSl} {S : List α} (h : QRow k P w s S) {i : Nat} (hi : i < s.n) : ∃ g off x, s.a = some ⟨g, off, none⟩ ∧ S[i]? = some x ∧ P x w g (off + i * k) := by
  have hi' : i < S.length := by rw [h.1]; exact hi
  obtain ⟨g, off, e, hp⟩ := h.2 i _ (List.getElem?_eq_getElem hi')
  exact ⟨g, off, _, e, List.getElem?_eq_getElem hi', hp⟩

/-- which fields an instruction has: R 1, S 2, K 4, To 8, N 16 -/
def fieldsN (op : Int) : Int :=
  if op = 1 ∨ op = 7 ∨ op = 8 then 17 else if op = 2 ∨ op = 5 then 3 else if op = 3 then 7 else if op = 4 ∨ op = 15 ∨ op = 16 ∨ op = 18 then 1 else if op = 6 ∨ op = 13 then 23 else if op = 9 then 25 else if op = 10 ∨ op = 11 then 11 else if op = 12 then 8 else if op = 14 then 5 else 0
def hasR (op : Int) : Bool := fieldsN op % 2 == 1
def hasS (op : Int) : Bool := fieldsN op / 2 % 2 == 1
def hasK (op : Int) : Bool := fieldsN op / 4 % 2 == 1
def hasT (op : Int) : Bool := fieldsN op / 8 % 2 == 1
def hasN (op : Int) : Bool := fieldsN op / 16 % 2 == 1
def inB (n a b : Int) : Bool := decide (a ≤ n) && decide (n ≤ b)
def bareB (x : InsD) : Bool := (hasR x.op || decide (x.r = 0)) && (hasS x.op || decide (x.s = 0)) && (hasK x.op || decide (x.k = 0)) && (hasT x.op || decide (x.to = 0)) && (hasN x.op || decide (x.n = 0))
def regsB (x : InsD) : Bool := inB x.r 0 9 && (decide (x.op = 13) || inB x.s 0 9)
def formB (x : InsD) : Bool := inB x.op 1 18 && bareB x && regsB x && decide (0 ≤ x.to)
def callB (slots : Int) (ts : List ShapeD) (x : InsD) : Bool := match ts[x.n.toNat]? with
  | none => false
  | some t => inB x.s 0 (slots - t.keys) && inB x.k 0 (slots - t.args)
def fitsB (slots : Int) (ts : List ShapeD) (x : InsD) : Bool :=
  if x.op = 3 then inB x.k 3 12 else if x.op = 6 then inB x.k 1 8 && decide (x.n ≤ 600) else if x.op = 14 then inB x.k 1 8 else if x.op = 9 then decide (x.n ≤ 600) else if x.op = 7 ∨ x.op = 8 then decide (x.n < slots) else if x.op = 13 then callB slots ts x else true
/-- what is wrong with the instruction at i, of m -/
def insN (slots : Int) (ts : List ShapeD) (m i : Int) (x : InsD) : Int := if (formB x && fitsB slots ts x) = false then 4 else if (hasT x.op && decide (m - 1 - i ≤ x.to)) = true then 17 else 0
def shapeB (t : ShapeD) : Bool := inB t.keys 1 3 && inB t.acts 1 8 && inB t.args 0 3
def shapesN : List ShapeD → Int → Int × Int
  | [], _ => (0, 0)
  | t :: r, i => if shapeB t = true then shapesN r (i + 1) else (1, -2 - i)
def sizesN (slots : Int) (ts : List ShapeD) (m : Int) : Int × Int := if inB slots 0 96 = false then (1, -1) else if (decide (5 < (ts.length : Int)) || !inB m 1 60000) = true then (2, -1) else shapesN ts 0
def inssN (slots : Int) (ts : List ShapeD) (m : Int) : List InsD → Int → Int × Int
  | [], _ => (0, 0)
  | x :: r, i => if insN slots ts m i x = 0 then inssN slots ts m r (i + 1) else (insN slots ts m i x, i)
def endsB (op : Int) : Bool := decide (op = 16) || decide (op = 17)
def chkW (slots : Int) (ts : List ShapeD) (cs : List InsD) : Int × Int :=
  if (sizesN slots ts cs.length).1 ≠ 0 then sizesN slots ts cs.length else if (inssN slots ts cs.length cs 0).1 ≠ 0 then inssN slots ts cs.length cs 0 else if endsB ((cs[cs.length - 1]?.map InsD.op).getD 0) = true then (0, 0) else (18, (cs.length : Int) - 1)

/-- it tells a truth value, and nothing old has turned -/
def TellB (b : Bool) (w : World) (e : Ending) (w' : World) : Prop := e = .returned (.bool b) ∧ Below w.heap.size w w'
end Go.Proofs.Ytmohffibkpecpaa

namespace Go.Proofs.Ytmohffibkpecpaa
open Go.RowKit

set_option maxHeartbeats 1000000 in
set_option maxRecDepth 20000 in
theorem gwithin (n a b : Int) (w : World) : Calls Try.prog 30 #[.int .i64 n, .int .i64 a, .int .i64 b] w fun e w' => e = .returned (.bool (inB n a b)) ∧ w' = w := by
  unfold inB
  by_cases h1 : a ≤ n
  · have d1 := decide_eq_true h1
    rw [d1, Bool.true_and]
    go_enter Try.func30, Try.ntmps30
    go_wp2
    go_ret
    exact ⟨rfl, rfl⟩
  · have d1 := decide_eq_false h1
    rw [d1, Bool.false_and]
    go_enter Try.func30, Try.ntmps30
    go_wp2
    go_ret
    exact ⟨rfl, rfl⟩

set_option maxHeartbeats 1000000 in
set_option maxRecDepth 20000 in
theorem gends (n : Int) (w : World) : Calls Try.prog 20 #[.int .i64 n] w fun e w' => e = .returned (.bool (endsB n)) ∧ w' = w := by
  unfold endsB
  by_cases h1 : n = 16
  · subst h1
    go_enter Try.func20, Try.ntmps20
    go_wp2
    go_ret
    exact ⟨rfl, rfl⟩
  · rw [decide_eq_false h1, Bool.false_or]
    by_cases h2 : n = 17
    · subst h2
      go_enter Try.func20, Try.ntmps20
      go_wp2
      go_ret
      exact ⟨rfl, rfl⟩
    · have d1 : (n == 16) = false := by simpa using h1
      have d2 : (n == 17) = false := by simpa using h2
      rw [decide_eq_false h2]
      go_enter Try.func20, Try.ntmps20
      go_wp2
      go_ret
      exact ⟨rfl, rfl⟩

set_option maxHeartbeats 1000000 in
set_option maxRecDepth 20000 in
theorem gisReg (n : Int) (w : World) : Calls Try.prog 50 #[.int .i64 n] w fun e w' => e = .returned (.bool (inB n 0 9)) ∧ w' = w := by
  have HW := hid (gwithin n 0 9 w)
  go_enter Try.func50, Try.ntmps50
  go_wp2_with fail
  refine HW.out.mono ?_
  rintro e w1 ⟨rfl, rfl⟩
  go_wp2
  go_ret
  exact ⟨rfl, rfl⟩

set_option maxHeartbeats 2000000 in
set_option maxRecDepth 20000 in
theorem gisShape (d : ShapeD) (w : World) : Calls Try.prog 31 #[d.v] w (TellB (shapeB d) w) := by
  have HW := hid (fun n a b w => gwithin n a b w)
  have HT : Hid (∀ o, TellB (shapeB d) w (.returned (.bool (shapeB d))) (w.alloc o)) := fun o => ⟨rfl, bl_alloc (Below.refl _ _)⟩
  unfold shapeB at HT ⊢
  obtain ⟨k, a, g⟩ := d
  dsimp only [ShapeD.v] at HT ⊢
  generalize hK : inB k 1 3 = K at *
  generalize hA : inB a 1 8 = A at *
  have EK := hid hK
  have EA := hid hA
  clear hK hA
  cases K
  · rw [Bool.false_and, Bool.false_and] at HT ⊢
    go_enter Try.func31, Try.ntmps31
    go_wp2_with fail
    refine (HW.out _ _ _ _).mono ?_
    rintro e w1 ⟨rfl, rfl⟩
    rw [EK.out]
    go_wp2
    go_ret
    exact HT.out _
  · rw [Bool.true_and] at HT ⊢
    cases A
    · rw [Bool.false_and] at HT ⊢
      go_enter Try.func31, Try.ntmps31
      go_wp2_with fail
      refine (HW.out _ _ _ _).mono ?_
      rintro e w1 ⟨rfl, rfl⟩
      rw [EK.out]
      go_wp2_with fail
      refine (HW.out _ _ _ _).mono ?_
      rintro e w1 ⟨rfl, rfl⟩
      rw [EA.out]
      go_wp2
      go_ret
      exact HT.out _
    · rw [Bool.true_and] at HT ⊢
      go_enter Try.func31, Try.ntmps31
      go_wp2_with fail
      refine (HW.out _ _ _ _).mono ?_
      rintro e w1 ⟨rfl, rfl⟩
      rw [EK.out]
      go_wp2_with fail
      refine (HW.out _ _ _ _).mono ?_
      rintro e w1 ⟨rfl, rfl⟩
      rw [EA.out]
      go_wp2_with fail
      refine (HW.out _ _ _ _).mono ?_
      rintro e w1 ⟨rfl, rfl⟩
      go_wp2
      go_ret
      exact HT.out _
end Go.Proofs.Ytmohffibkpecpaa

namespace Go.Proofs.Ytmohffibkpecpaa
open Go.RowKit

def GByt (l : List Int) : Prop := ∀ x ∈ l, 0 ≤ x ∧ x < 256
theorem gbytes_byt {zs : List Int} (h : GByt zs) : Mth.Bytes zs := fun i => by
  by_cases hi : i < zs.length
  · rw [List.getD_eq_getElem?_getD, List.getElem?_eq_getElem hi, Option.getD_some]
    exact h _ (List.getElem_mem hi)
  · simp [List.getD_eq_getElem?_getD, List.getElem?_eq_none (Nat.le_of_not_lt hi)]
theorem gwrap8 (s : Nat) : IntKind.u8.wrap (s : Int) = ((s % 256 : Nat) : Int) := by
  simp [IntKind.wrap, IntKind.bits, IntKind.signed]
theorem gsrc_of {w : World} {cs : List Value} {T : TypeId} : ∀ j u, cs[j]? = some u → (w.alloc (.cells cs.toArray T)).cell? ((⟨w.heap.size, 0, none⟩ : Addr).add j) = some u := by
  intro j u h
  rw [Addr.add_lit, Nat.zero_add, World.cell?_alloc_at _ _ _ _ rfl]
  simpa using h
theorem gowns_below {w w' : World} {base n k : Nat} {T : TypeId} {v : Value} {xs : List Value} (h : w.ownsRow base T k v n xs) (b : Below w.heap.size w w') : w'.ownsRow base T k v n xs :=
  h.kept (row := none) ⟨b.os, b.tape, b.output, b.size, fun k hk _ => b.block k hk⟩ (by cases v.ownBlock <;> simp)

theorem grun_app {w : World} {T TS : TypeId} {z : Value} {k bs : Nat} (ty : TypeId) (hT : Try.prog.underlying TS = some (.slice T)) (hinfo : (Try.prog.info? T).map (fun i => (i.zero, i.size, i.bytes)) = some (some z, k, bs)) (hzs : z.cells.size = k) (hk : 0 < k)
    {base n cap : Nat} {la : Option Addr} {xs news : List Value} {ad : Addr} {m c : Nat} (hown : w.ownsRow base T k (.slice la n cap) n xs) (hl : news.length = m * k) (hn : ∀ j u, news[j]? = some u → w.cell? (ad.add j) = some u) (h1 : ∀ u ∈ news, u.oneCell' = true) (hm : 0 < m)
    (hsm : n + m ≤ maxLen) (hby : (n + m) * bs ≤ 140737488355328) (hbase : base ≤ w.heap.size) :
    ∃ g cap' w', (Builtin.append_ #[TS, TS] ty #[.slice la n cap, .slice (some ad) m c]).run Try.prog w = .ok (.slice (some ⟨g, 0, none⟩) (n + m) cap') w' ∧ w'.ownsRow base T k (.slice (some ⟨g, 0, none⟩) (n + m) cap') (n + m) (xs ++ news) ∧ w.grownBy w' (Value.slice la n cap).ownBlock ∧ (la = some ⟨g, 0, none⟩ ∨ w.heap.size ≤ g) := by
  obtain ⟨i0, hi, hz0, hz1, hz2⟩ := info_parts hinfo
  have form : ∀ {v' : Value} {w' : World} {B : Nat} {ys : List Value}, w'.ownsRow B T k v' (n + m) ys → ∃ g c, v' = .slice (some ⟨g, 0, none⟩) (n + m) c := by
    intro v' w' B ys h
    rcases h.2 with ⟨_, e⟩ | ⟨g, c, cur, e, _⟩
    · omega
    · exact ⟨g, c, e⟩
  rcases hown.2 with ⟨e1, e2⟩ | ⟨g, cap1, cur, e, hb, hh, hc1, hc2, hc3, hc4⟩
  · simp only [Value.slice.injEq] at e1
    obtain ⟨rfl, _, rfl⟩ := e1
    subst e2
    have hx0 : xs = [] := List.eq_nil_of_length_eq_zero (by have := hown.1; omega)
    subst hx0
    obtain ⟨v', w', hrun, r1, r2, -⟩ := run_append_own (P := Try.prog) w w.heap.size TS ty T i0 z k bs hT hi hz0 hz1 hz2 hzs hk (.slice none 0 0) 0 [] (World.ownsRow_nil _ _ _ _) ad m c news hl hn h1 hsm hby (Nat.le_refl _)
    obtain ⟨g', c', rfl⟩ := form r1
    exact ⟨g', c', w', hrun, ⟨r1.1, by
      rcases r1.2 with h | ⟨g2, c2, cur2, hv, hb2, r⟩
      · exact .inl h
      · exact .inr ⟨g2, c2, cur2, hv, Nat.le_trans hbase hb2, r⟩⟩, r2, .inr (r1.lt g' rfl).1⟩
  · simp only [Value.slice.injEq, true_and] at e
    obtain ⟨rfl, rfl⟩ := e
    by_cases hroom : n + m ≤ cap
    · obtain ⟨w', hrun, r1, r2⟩ := run_append_fits (P := Try.prog) w base TS ty T i0 k hT hi hz1 g n cap xs hown ad m c news hl hn h1 hroom
      exact ⟨g, cap, w', hrun, r1, r2, .inl rfl⟩
    · obtain ⟨v', w', hrun, r1, r2, -⟩ := run_append_own (P := Try.prog) w base TS ty T i0 z k bs hT hi hz0 hz1 hz2 hzs hk (.slice (some ⟨g, 0, none⟩) n cap) n xs hown ad m c news hl hn h1 hsm hby hbase
      obtain ⟨g', c', rfl⟩ := form r1
      have hgrow := run_append_grow (P := Try.prog) w TS ty T i0 z hT hi hz0 ⟨g, 0, none⟩ n cap xs (by rw [hz1]; exact hown.1) (fun j v hj => hown.cells rfl j v hj) ad m c news (by rw [hz1]; exact hl) hn (by omega) (by unfold maxLen at hsm; omega) (by rw [hz2]; exact growslice_fits (by omega) (by omega))
      rw [hrun] at hgrow
      simp only [Result.ok.injEq, Value.slice.injEq, Option.some.injEq, Addr.mk.injEq, and_true] at hgrow
      exact ⟨g', c', w', hrun, r1, r2, .inr (Nat.le_of_eq hgrow.1.1.symm)⟩

/-- an append whose run is known, as a step of the walk -/
theorem gapp_run {w w' : World} {ops : Array Oper} {rest : List Oper} {o : Oper} {a : Act} {Q : Exit → Act → World → Prop} {TS : TypeId} (hgd : o.guard = none) (s x : Operand)
    (ho : o.op = .call { callee := .builtin .append, args := #[s, x], argTypes := #[TS, TS] }) {vs vx v' : Value} (hs : a.eval s = vs) (hx : a.eval x = vx) (hrun : (Builtin.append_ #[TS, TS] o.type #[vs, vx]).run Try.prog w = .ok v' w')
    (h : wpList Try.prog ops Q rest (a.put o.dst v') w') : wpList Try.prog ops Q (o :: rest) a w :=
  wpList_plain hgd fun _ hK => by
    unfold Oper.wp execOp
    simp only [ho, resolve, invoke, builtin, Sem.run_bind, Sem.run_pure, Result.andThen_ok, List.map_toArray, List.map_cons, List.map_nil, hs, hx, hrun]
    exact hK _ _ h

/-- the same in a region that draws -/
theorem gapp_runR {w w' : World} {ops : Array Oper} {o : Oper} {a : Act} {K : Act → World → Prop} {Q : Exit → Act → World → Prop} {E : Prop} {TS : TypeId} (hgd : o.guard = none) (s x : Operand)
    (ho : o.op = .call { callee := .builtin .append, args := #[s, x], argTypes := #[TS, TS] }) {vs vx v' : Value} (hs : a.eval s = vs) (hx : a.eval x = vx) (hrun : (Builtin.append_ #[TS, TS] o.type #[vs, vx]).run Try.prog w = .ok v' w')
    (h : K (a.put o.dst v') w') : if Region.wanted o (yielded ops a.tmps) = true then Oper.wp Try.prog o a w K Q else E := by
  have hw : Region.wanted o (yielded ops a.tmps) = true := by simp [Region.wanted, hgd]
  rw [if_pos hw]
  unfold Oper.wp execOp
  simp only [ho, resolve, invoke, builtin, Sem.run_bind, Sem.run_pure, Result.andThen_ok, List.map_toArray, List.map_cons, List.map_nil, hs, hx, hrun]
  exact h
/-- bytes as a writer has them: a row of its own, or the full one of a string's bytes -/
def GRowB (B : Nat) (v : Value) (bs : List Int) (w : World) : Prop := w.ownsRow B 5 1 v bs.length (BB bs) ∨ ∃ g cur f, v = .slice (some ⟨g, 0, none⟩) bs.length bs.length ∧ B ≤ g ∧ w.heap[g]? = some (.cells cur 5 f) ∧ cur.toList = BB bs ∧ 0 < bs.length

theorem GRowB.blk {B : Nat} {v : Value} {bs : List Int} {w : World} (h : GRowB B v bs w) {k : Nat} (hk : v.ownBlock = some k) : B ≤ k ∧ ∃ cur f, w.heap[k]? = some (.cells cur 5 f) := by
  rcases h with h | ⟨g, cur, f, rfl, hB, hg, _⟩
  · rcases h.2 with ⟨e2, _⟩ | ⟨g2, c2, cur, e2, hb, hh, _⟩
    · rw [e2] at hk; simp [Value.ownBlock] at hk
    · rw [e2] at hk
      simp only [Value.ownBlock, Option.some.injEq] at hk
      subst hk
      exact ⟨hb, cur, _, hh⟩
  · simp only [Value.ownBlock, Option.some.injEq] at hk
    subst hk
    exact ⟨hB, cur, f, hg⟩

theorem GRowB.step {B : Nat} {v : Value} {bs : List Int} {w w' : World} (h : GRowB B v bs w) (hb : Below w.heap.size w w') : GRowB B v bs w' := by
  rcases h with h | ⟨g, cur, f, e, hB, hg, r⟩
  · exact .inl (gowns_below h hb)
  · exact .inr ⟨g, cur, f, e, hB, (hb.block g (Array.getElem?_eq_some_iff.1 hg).1).trans hg, r⟩

theorem GRowB.has {B : Nat} {a : Option Addr} {c : Nat} {bs : List Int} {w : World} (h : GRowB B (.slice a bs.length c) bs w) (hb : GByt bs) : Has .u8 w a bs.length bs := by
  rcases h with h | ⟨g, cur, f, e, _, hg, hc, _⟩
  · obtain ⟨a', c', e, hh⟩ := has_of_owns8 h (gbytes_byt hb)
    simp only [Value.slice.injEq, true_and] at e
    obtain ⟨rfl, rfl⟩ := e
    exact hh
  · simp only [Value.slice.injEq, true_and] at e
    obtain ⟨rfl, rfl⟩ := e
    refine ⟨rfl, fun n hn => wf_u8 n (hb n hn), .inr ⟨g, 0, rfl, (Array.getElem?_eq_some_iff.1 hg).1, fun i hi => ?_⟩⟩
    have : cur[i]? = some (.int .u8 (bs.getD i 0)) := by
      rw [← Array.getElem?_toList, hc]
      simp only [BB, List.getElem?_map, List.getD_eq_getElem?_getD, List.getElem?_eq_getElem hi, Option.map_some, Option.getD_some]
    simp [World.cell?, hg, this]

/-- blocks that are neither p nor bytes are as they were -/
def GFram (p : Nat) (w w' : World) : Prop := w.heap.size ≤ w'.heap.size ∧ ∀ k cs T f, k ≠ p → T ≠ 5 → w.heap[k]? = some (.cells cs T f) → w'.heap[k]? = some (.cells cs T f)

theorem GFram.trans {p : Nat} {a b c : World} (h : GFram p a b) (k : GFram p b c) : GFram p a c := ⟨Nat.le_trans h.1 k.1, fun j cs T f h1 h2 h3 => k.2 j cs T f h1 h2 (h.2 j cs T f h1 h2 h3)⟩
theorem GFram.refl (p : Nat) (w : World) : GFram p w w := ⟨Nat.le_refl _, fun _ _ _ _ _ _ h => h⟩
theorem GFram.below {p : Nat} {w w' : World} (b : Below w.heap.size w w') : GFram p w w' := ⟨b.size, fun k _ _ _ _ _ h => (b.block k (Array.getElem?_eq_some_iff.1 h).1).trans h⟩
end Go.Proofs.Ytmohffibkpecpaa
