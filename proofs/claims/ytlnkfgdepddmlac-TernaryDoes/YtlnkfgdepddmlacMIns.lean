/- What slices.Insert does with one entry, and slices.Delete. -/
import Derived.Test.YtlnkfgdepddmlacMCopy
import Derived.Lib.AppendZerosOnto
import Derived.Lib.Overlaps
import Derived.Laws.Externs
namespace Go.Proofs.Ytlnkfgdepddmlac
open Go.RowKit Mth

/-- a row's block -/
def RowAt (w : World) (g : Nat) (cur : List Value) : Prop := w.heap[g]? = some (.cells cur.toArray 33 (0, 0))

theorem RowAt.cell {w : World} {g : Nat} {cur : List Value} (h : RowAt w g cur) (j : Nat) : w.cell? ⟨g, j, none⟩ = cur[j]? := by
  unfold RowAt at h
  simp [World.cell?, h]

theorem grown_setRow (w : World) (g : Nat) (cs : Array Value) : w.grownBy (w.setRow g cs) (some g) :=
  ⟨rfl, rfl, rfl, by rw [setRow_size]; exact Nat.le_refl _, fun k _ hk => setRow_other w g k cs (fun e => hk (by rw [e]))⟩

/-- copy of entries into a row -/
theorem run_copy6 {w : World} {g : Nat} {cur : List Value} (hg : RowAt w g cur) (ty : TypeId) (o dLen dCap : Nat) (a : Addr) (sLen sCap m : Nat) (cs : List Value) (hm : m = Nat.min sLen dLen) (hn : cs.length = m * 6)
    (hsrc : ∀ j v, cs[j]? = some v → w.cell? (a.add j) = some v) (hfit : o + cs.length ≤ cur.length) (h1 : ∀ v ∈ cs, v.oneCell' = true) :
    (Builtin.copy_ #[28, 28] ty #[.slice (some ⟨g, o, none⟩) dLen dCap, .slice (some a) sLen sCap]).run Try.prog w =
      .ok (goInt m) (w.setRow g (cur.take o ++ cs ++ cur.drop (o + cs.length)).toArray) := by
  obtain ⟨i0, hi, -, hz1, -⟩ := info_parts Try.infoEntry
  have hl := run_loadCells_list (P := Try.prog) w a cs hsrc
  have hst := run_storeCells_at Try.prog g o 33 cs 0 cur.toArray w hg (by simpa using hfit) h1
  simp only [Nat.add_zero] at hst
  rw [hn] at hl
  simp [Builtin.copy_, run_underlying Try.underlying28, Builtin.lenOf, Builtin.firstCells, sizeOf, typeInfo, hi, hz1, ← hm, hl, hst]

/-- the same as one step of a region that draws -/
theorem step_copy6 {ops : Array Oper} {o : Oper} {a : Act} {w : World} {K : Act → World → Prop} {Q : Exit → Act → World → Prop} {E : Prop} (hgd : o.guard = none) (d x : Operand)
    (hop : o.op = Op.call { callee := Callee.builtin Builtin.copy, args := #[d, x], argTypes := #[28, 28] })
    {g : Nat} {cur : List Value} (hg : RowAt w g cur) (of dLen dCap : Nat) (ad : Addr) (sLen sCap m : Nat) (cs : List Value) (hd : a.eval d = .slice (some ⟨g, of, none⟩) dLen dCap) (hx : a.eval x = .slice (some ad) sLen sCap) (hm : m = Nat.min sLen dLen) (hn : cs.length = m * 6)
    (hsrc : ∀ j v, cs[j]? = some v → w.cell? (ad.add j) = some v) (hfit : of + cs.length ≤ cur.length) (h1 : ∀ v ∈ cs, v.oneCell' = true)
    (h : ∀ w', RowAt w' g (cur.take of ++ cs ++ cur.drop (of + cs.length)) → w.grownBy w' (some g) → K (a.put o.dst (goInt m)) w') :
    if Region.wanted o (yielded ops a.tmps) = true then Oper.wp Try.prog o a w K Q else E := by
  have hw : Region.wanted o (yielded ops a.tmps) = true := by simp [Region.wanted, hgd]
  rw [if_pos hw]
  have hr := run_copy6 hg o.type of dLen dCap ad sLen sCap m cs hm hn hsrc hfit h1
  unfold Oper.wp execOp
  simp only [hop, resolve, invoke, builtin, Sem.run_bind, Sem.run_pure, Result.andThen_ok, List.map_toArray, List.map_cons, List.map_nil, hd, hx, hr]
  exact h _ (setRow_heap w g _ _ _ _ hg) (grown_setRow _ _ _)

/-- and of a plain one -/
theorem wpList_copy6 {ops : Array Oper} {rest : List Oper} {o : Oper} {a : Act} {w : World} {Q : Exit → Act → World → Prop} (hgd : o.guard = none) (d x : Operand)
    (hop : o.op = Op.call { callee := Callee.builtin Builtin.copy, args := #[d, x], argTypes := #[28, 28] })
    {g : Nat} {cur : List Value} (hg : RowAt w g cur) (of dLen dCap : Nat) (ad : Addr) (sLen sCap m : Nat) (cs : List Value) (hd : a.eval d = .slice (some ⟨g, of, none⟩) dLen dCap) (hx : a.eval x = .slice (some ad) sLen sCap) (hm : m = Nat.min sLen dLen) (hn : cs.length = m * 6)
    (hsrc : ∀ j v, cs[j]? = some v → w.cell? (ad.add j) = some v) (hfit : of + cs.length ≤ cur.length) (h1 : ∀ v ∈ cs, v.oneCell' = true)
    (h : ∀ w', RowAt w' g (cur.take of ++ cs ++ cur.drop (of + cs.length)) → w.grownBy w' (some g) → wpList Try.prog ops Q rest (a.put o.dst (goInt m)) w') : wpList Try.prog ops Q (o :: rest) a w :=
  wpList_plain hgd fun _ hK => by
    have hr := run_copy6 hg o.type of dLen dCap ad sLen sCap m cs hm hn hsrc hfit h1
    unfold Oper.wp execOp
    simp only [hop, resolve, invoke, builtin, Sem.run_bind, Sem.run_pure, Result.andThen_ok, List.map_toArray, List.map_cons, List.map_nil, hd, hx, hr]
    exact hK _ _ (h _ (setRow_heap w g _ _ _ _ hg) (grown_setRow _ _ _))

/-- a place is made, then filled -/
theorem ins_list (cur xs d : List Value) (A R : Nat) (hxs : cur.take (A + R) = xs) (hl : xs.length = A + R) (hc : A + R + 6 ≤ cur.length) (hd : d.length = 6) :
    (((cur.take (A + 6) ++ xs.drop A ++ cur.drop (A + 6 + R)).take A ++ d ++ (cur.take (A + 6) ++ xs.drop A ++ cur.drop (A + 6 + R)).drop (A + 6)).take (A + R + 6)) = xs.take A ++ d ++ xs.drop A := by
  have e1 : (cur.take (A + 6) ++ xs.drop A ++ cur.drop (A + 6 + R)).take A = xs.take A := by
    rw [List.append_assoc, List.take_append_of_le_length (by simp; omega), List.take_take, ← hxs, List.take_take]
    congr 1
    omega
  have e2 : (cur.take (A + 6) ++ xs.drop A ++ cur.drop (A + 6 + R)).drop (A + 6) = xs.drop A ++ cur.drop (A + 6 + R) := by
    rw [List.append_assoc, List.drop_append_of_le_length (by simp; omega), List.drop_eq_nil_of_le (by simp; omega), List.nil_append]
  rw [e1, e2, ← List.append_assoc]
  rw [List.take_append_of_le_length (by simp; omega), List.take_of_length_le (by simp; omega)]

/-- in a new row -/
theorem ins_list2 (cur xs d : List Value) (A R : Nat) (hxs : cur.take A = xs.take A) (hl : xs.length = A + R) (hc : A + R + 6 ≤ cur.length) (hd : d.length = 6) :
    (((cur.take A ++ d ++ cur.drop (A + 6)).take (A + 6) ++ xs.drop A ++ (cur.take A ++ d ++ cur.drop (A + 6)).drop (A + 6 + R)).take (A + R + 6)) = xs.take A ++ d ++ xs.drop A := by
  have e1 : (cur.take A ++ d ++ cur.drop (A + 6)).take (A + 6) = xs.take A ++ d := by
    rw [List.take_append_of_le_length (by simp; omega), List.take_of_length_le (by simp; omega), hxs]
  rw [e1]
  rw [List.take_append_of_le_length (by simp; omega), List.take_of_length_le (by simp; omega)]
end Go.Proofs.Ytlnkfgdepddmlac
