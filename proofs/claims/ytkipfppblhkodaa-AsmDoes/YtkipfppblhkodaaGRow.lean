/- Bytes that are put behind bytes. -/
import Derived.Test.YtkipfppblhkodaaGDef
import Derived.Deep.RegionLaw
namespace Go.Proofs.Ytkipfppblhkodaa
open Go.RowKit

def GByt (l : List Int) : Prop := ∀ x ∈ l, 0 ≤ x ∧ x < 256
theorem gbytes_byt {zs : List Int} (h : GByt zs) : Mth.Bytes zs := fun i => by
  by_cases hi : i < zs.length
  · rw [List.getD_eq_getElem?_getD, List.getElem?_eq_getElem hi, Option.getD_some]
    exact h _ (List.getElem_mem hi)
  · simp [List.getD_eq_getElem?_getD, List.getElem?_eq_none (Nat.le_of_not_lt hi)]
theorem gwrap8 (s : Nat) : IntKind.u8.wrap (s : Int) = ((s % 256 : Nat) : Int) := by
  simp [IntKind.wrap, IntKind.bits, IntKind.signed]
theorem gsrc_of {w : World} {cs : List Value} {T : TypeId} : ∀ j u, cs[j]? = some u → (w.alloc (.cells cs.toArray T)).cell? ((⟨w.heap.size, 0, none⟩ : Addr).add j) = some u := by
  intro j u h
  rw [Addr.add_lit, Nat.zero_add, World.cell?_alloc_at _ _ _ _ rfl]
  simpa using h
theorem gowns_below {w w' : World} {base n k : Nat} {T : TypeId} {v : Value} {xs : List Value} (h : w.ownsRow base T k v n xs) (b : Below w.heap.size w w') : w'.ownsRow base T k v n xs :=
  h.kept (row := none) ⟨b.os, b.tape, b.output, b.size, fun k hk _ => b.block k hk⟩ (by cases v.ownBlock <;> simp)

theorem grun_app {w : World} {T TS : TypeId} {z : Value} {k bs : Nat} (ty : TypeId) (hT : Try.prog.underlying TS = some (.slice T)) (hinfo : (Try.prog.info? T).map (fun i => (i.zero, i.size, i.bytes)) = some (some z, k, bs)) (hzs : z.cells.size = k) (hk : 0 < k)
    {base n cap : Nat} {la : Option Addr} {xs news : List Value} {ad : Addr} {m c : Nat} (hown : w.ownsRow base T k (.slice la n cap) n xs) (hl : news.length = m * k) (hn : ∀ j u, news[j]? = some u → w.cell? (ad.add j) = some u) (h1 : ∀ u ∈ news, u.oneCell' = true) (hm : 0 < m)
    (hsm : n + m ≤ maxLen) (hby : (n + m) * bs ≤ 140737488355328) (hbase : base ≤ w.heap.size) :
    ∃ g cap' w', (Builtin.append_ #[TS, TS] ty #[.slice la n cap, .slice (some ad) m c]).run Try.prog w = .ok (.slice (some ⟨g, 0, none⟩) (n + m) cap') w' ∧ w'.ownsRow base T k (.slice (some ⟨g, 0, none⟩) (n + m) cap') (n + m) (xs ++ news) ∧ w.grownBy w' (Value.slice la n cap).ownBlock ∧ (la = some ⟨g, 0, none⟩ ∨ w.heap.size ≤ g) := by
  obtain ⟨i0, hi, hz0, hz1, hz2⟩ := info_parts hinfo
  have form : ∀ {v' : Value} {w' : World} {B : Nat} {ys : List Value}, w'.ownsRow B T k v' (n + m) ys → ∃ g c, v' = .slice (some ⟨g, 0, none⟩) (n + m) c := by
    intro v' w' B ys h
    rcases h.2 with ⟨_, e⟩ | ⟨g, c, cur, e, _⟩
    · omega
    · exact ⟨g, c, e⟩
  rcases hown.2 with ⟨e1, e2⟩ | ⟨g, cap1, cur, e, hb, hh, hc1, hc2, hc3, hc4⟩
  · simp only [Value.slice.injEq] at e1
    obtain ⟨rfl, _, rfl⟩ := e1
    subst e2
    have hx0 : xs = [] := List.eq_nil_of_length_eq_zero (by have := hown.1; omega)
    subst hx0
    obtain ⟨v', w', hrun, r1, r2, -⟩ := run_append_own (P := Try.prog) w w.heap.size TS ty T i0 z k bs hT hi hz0 hz1 hz2 hzs hk (.slice none 0 0) 0 [] (World.ownsRow_nil _ _ _ _) ad m c news hl hn h1 hsm hby (Nat.le_refl _)
    obtain ⟨g', c', rfl⟩ := form r1
    exact ⟨g', c', w', hrun, ⟨r1.1, by
      rcases r1.2 with h | ⟨g2, c2, cur2, hv, hb2, r⟩
      · exact .inl h
      · exact .inr ⟨g2, c2, cur2, hv, Nat.le_trans hbase hb2, r⟩⟩, r2, .inr (r1.lt g' rfl).1⟩
  · simp only [Value.slice.injEq, true_and] at e
    obtain ⟨rfl, rfl⟩ := e
    by_cases hroom : n + m ≤ cap
    · obtain ⟨w', hrun, r1, r2⟩ := run_append_fits (P := Try.prog) w base TS ty T i0 k hT hi hz1 g n cap xs hown ad m c news hl hn h1 hroom
      exact ⟨g, cap, w', hrun, r1, r2, .inl rfl⟩
    · obtain ⟨v', w', hrun, r1, r2, -⟩ := run_append_own (P := Try.prog) w base TS ty T i0 z k bs hT hi hz0 hz1 hz2 hzs hk (.slice (some ⟨g, 0, none⟩) n cap) n xs hown ad m c news hl hn h1 hsm hby hbase
      obtain ⟨g', c', rfl⟩ := form r1
      have hgrow := run_append_grow (P := Try.prog) w TS ty T i0 z hT hi hz0 ⟨g, 0, none⟩ n cap xs (by rw [hz1]; exact hown.1) (fun j v hj => hown.cells rfl j v hj) ad m c news (by rw [hz1]; exact hl) hn (by omega) (by unfold maxLen at hsm; omega) (by rw [hz2]; exact growslice_fits (by omega) (by omega))
      rw [hrun] at hgrow
      simp only [Result.ok.injEq, Value.slice.injEq, Option.some.injEq, Addr.mk.injEq, and_true] at hgrow
      exact ⟨g', c', w', hrun, r1, r2, .inr (Nat.le_of_eq hgrow.1.1.symm)⟩

/-- an append whose run is known, as a step of the walk -/
theorem gapp_run {w w' : World} {ops : Array Oper} {rest : List Oper} {o : Oper} {a : Act} {Q : Exit → Act → World → Prop} {TS : TypeId} (hgd : o.guard = none) (s x : Operand)
    (ho : o.op = .call { callee := .builtin .append, args := #[s, x], argTypes := #[TS, TS] }) {vs vx v' : Value} (hs : a.eval s = vs) (hx : a.eval x = vx) (hrun : (Builtin.append_ #[TS, TS] o.type #[vs, vx]).run Try.prog w = .ok v' w')
    (h : wpList Try.prog ops Q rest (a.put o.dst v') w') : wpList Try.prog ops Q (o :: rest) a w :=
  wpList_plain hgd fun _ hK => by
    unfold Oper.wp execOp
    simp only [ho, resolve, invoke, builtin, Sem.run_bind, Sem.run_pure, Result.andThen_ok, List.map_toArray, List.map_cons, List.map_nil, hs, hx, hrun]
    exact hK _ _ h

/-- the same in a region that draws -/
theorem gapp_runR {w w' : World} {ops : Array Oper} {o : Oper} {a : Act} {K : Act → World → Prop} {Q : Exit → Act → World → Prop} {E : Prop} {TS : TypeId} (hgd : o.guard = none) (s x : Operand)
    (ho : o.op = .call { callee := .builtin .append, args := #[s, x], argTypes := #[TS, TS] }) {vs vx v' : Value} (hs : a.eval s = vs) (hx : a.eval x = vx) (hrun : (Builtin.append_ #[TS, TS] o.type #[vs, vx]).run Try.prog w = .ok v' w')
    (h : K (a.put o.dst v') w') : if Region.wanted o (yielded ops a.tmps) = true then Oper.wp Try.prog o a w K Q else E := by
  have hw : Region.wanted o (yielded ops a.tmps) = true := by simp [Region.wanted, hgd]
  rw [if_pos hw]
  unfold Oper.wp execOp
  simp only [ho, resolve, invoke, builtin, Sem.run_bind, Sem.run_pure, Result.andThen_ok, List.map_toArray, List.map_cons, List.map_nil, hs, hx, hrun]
  exact h
/-- bytes as a writer has them: a row of its own, or the full one of a string's bytes -/
def GRowB (B : Nat) (v : Value) (bs : List Int) (w : World) : Prop := w.ownsRow B 5 1 v bs.length (BB bs) ∨ ∃ g cur f, v = .slice (some ⟨g, 0, none⟩) bs.length bs.length ∧ B ≤ g ∧ w.heap[g]? = some (.cells cur 5 f) ∧ cur.toList = BB bs ∧ 0 < bs.length

theorem GRowB.blk {B : Nat} {v : Value} {bs : List Int} {w : World} (h : GRowB B v bs w) {k : Nat} (hk : v.ownBlock = some k) : B ≤ k ∧ ∃ cur f, w.heap[k]? = some (.cells cur 5 f) := by
  rcases h with h | ⟨g, cur, f, rfl, hB, hg, _⟩
  · rcases h.2 with ⟨e2, _⟩ | ⟨g2, c2, cur, e2, hb, hh, _⟩
    · rw [e2] at hk; simp [Value.ownBlock] at hk
    · rw [e2] at hk
      simp only [Value.ownBlock, Option.some.injEq] at hk
      subst hk
      exact ⟨hb, cur, _, hh⟩
  · simp only [Value.ownBlock, Option.some.injEq] at hk
    subst hk
    exact ⟨hB, cur, f, hg⟩

theorem GRowB.step {B : Nat} {v : Value} {bs : List Int} {w w' : World} (h : GRowB B v bs w) (hb : Below w.heap.size w w') : GRowB B v bs w' := by
  rcases h with h | ⟨g, cur, f, e, hB, hg, r⟩
  · exact .inl (gowns_below h hb)
  · exact .inr ⟨g, cur, f, e, hB, (hb.block g (Array.getElem?_eq_some_iff.1 hg).1).trans hg, r⟩

theorem GRowB.has {B : Nat} {a : Option Addr} {c : Nat} {bs : List Int} {w : World} (h : GRowB B (.slice a bs.length c) bs w) (hb : GByt bs) : Has .u8 w a bs.length bs := by
  rcases h with h | ⟨g, cur, f, e, _, hg, hc, _⟩
  · obtain ⟨a', c', e, hh⟩ := has_of_owns8 h (gbytes_byt hb)
    simp only [Value.slice.injEq, true_and] at e
    obtain ⟨rfl, rfl⟩ := e
    exact hh
  · simp only [Value.slice.injEq, true_and] at e
    obtain ⟨rfl, rfl⟩ := e
    refine ⟨rfl, fun n hn => wf_u8 n (hb n hn), .inr ⟨g, 0, rfl, (Array.getElem?_eq_some_iff.1 hg).1, fun i hi => ?_⟩⟩
    have : cur[i]? = some (.int .u8 (bs.getD i 0)) := by
      rw [← Array.getElem?_toList, hc]
      simp only [BB, List.getElem?_map, List.getD_eq_getElem?_getD, List.getElem?_eq_getElem hi, Option.map_some, Option.getD_some]
    simp [World.cell?, hg, this]

/-- blocks that are neither p nor bytes are as they were -/
def GFram (p : Nat) (w w' : World) : Prop := w.heap.size ≤ w'.heap.size ∧ ∀ k cs T f, k ≠ p → T ≠ 5 → w.heap[k]? = some (.cells cs T f) → w'.heap[k]? = some (.cells cs T f)

theorem GFram.trans {p : Nat} {a b c : World} (h : GFram p a b) (k : GFram p b c) : GFram p a c := ⟨Nat.le_trans h.1 k.1, fun j cs T f h1 h2 h3 => k.2 j cs T f h1 h2 (h.2 j cs T f h1 h2 h3)⟩
theorem GFram.refl (p : Nat) (w : World) : GFram p w w := ⟨Nat.le_refl _, fun _ _ _ _ _ _ h => h⟩
theorem GFram.below {p : Nat} {w w' : World} (b : Below w.heap.size w w') : GFram p w w' := ⟨b.size, fun k _ _ _ _ _ h => (b.block k (Array.getElem?_eq_some_iff.1 h).1).trans h⟩
end Go.Proofs.Ytkipfppblhkodaa
