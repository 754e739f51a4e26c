/- Texts of one chain, joined: QRules2, QChk. -/
import Derived.Test.YtffbnggdckjogaaGreatG39
import Derived.Test.YtffbnggdckjogaaGreatG40
import Derived.Deep.RegionHeld3
import Derived.Deep.Onto
import Derived.Deep.AppendLies
import Derived.OneCell
namespace Go.Proofs.YtffbnggdckjogaaGreat
open Go.RowKit
theorem pushQ {ops : Array Oper} {o : Oper} {a : Act} {w : World} {K : Act → World → Prop} {Q : Exit → Act → World → Prop} {E : Prop} {T TS : TypeId} {z : Value} {k bs : Nat}
    (hT : Tryz.prog.underlying TS = some (.slice T)) (hinfo : (Tryz.prog.info? T).map (fun i => (i.zero, i.size, i.bytes)) = some (some z, k, bs)) (hzs : z.cells.size = k) (hk : 0 < k) (hbs : bs ≤ 1000) (hgd : o.guard = none) (s x : Operand)
    (ho : o.op = .call { callee := .builtin .append, args := #[s, x], argTypes := #[TS, TS] }) (base n c : Nat) (v : Value) (xs news : List Value) (ad : Addr)
    (hs : a.eval s = v) (hx : a.eval x = .slice (some ad) 1 c) (hown : w.ownsRow base T k v n xs) (hl : news.length = k) (hn : ∀ j u, news[j]? = some u → w.cell? (ad.add j) = some u) (h1 : ∀ u ∈ news, u.oneCell' = true) (hsm : n ≤ 100000) (hbase : base ≤ w.heap.size)
    (h : ∀ v' w', w'.ownsRow base T k v' (n + 1) (xs ++ news) → w.grownBy w' v.ownBlock → K (a.put o.dst v') w') :
    if Region.wanted o (yielded ops a.tmps) = true then Oper.wp Tryz.prog o a w K Q else E := by
  have hw : Region.wanted o (yielded ops a.tmps) = true := by simp [Region.wanted, hgd]
  rw [if_pos hw]
  obtain ⟨i0, hi, hz0, hz1, hz2⟩ := info_parts hinfo
  refine wp_append_own w s x TS ho base T i0 z k bs hT hi hz0 hz1 hz2 hzs hk v n xs hs hown ad 1 c news hx (by omega) hn h1 (by unfold maxLen; omega) ?_ hbase ?_
  · have : (n + 1) * bs ≤ 100001 * 1000 := Nat.mul_le_mul (by omega) hbs
    omega
  · intro v' w' h2 h3 _
    exact h v' w' h2 h3
def SayD.cells (s : SayD) : List Value := [.int .i64 s.act, .slice s.params.a s.params.n s.params.c]
theorem Tryz.infoSaying : (Tryz.prog.info? 87).map (fun i => (i.zero, i.size, i.bytes)) = some (some (.agg #[.int .i64 0, .slice none 0 0]), 2, 32) := by kernel_rfl
theorem flat_len (S : List SayD) : (S.flatMap SayD.cells).length = S.length * 2 := by
  induction S with
  | nil => rfl
  | cons s S ih => simp only [List.flatMap_cons, List.length_append, ih, SayD.cells, List.length_cons, List.length_nil]; omega
theorem sflat_at {S : List SayD} {i : Nat} {s : SayD} (h : S[i]? = some s) : (S.flatMap SayD.cells)[i * 2]? = some (.int .i64 s.act) ∧ (S.flatMap SayD.cells)[i * 2 + 1]? = some (.slice s.params.a s.params.n s.params.c) := by
  induction S generalizing i with
  | nil => simp at h
  | cons x S ih =>
    cases i with
    | zero =>
      simp only [List.getElem?_cons_zero, Option.some.injEq] at h
      subst h
      exact ⟨rfl, rfl⟩
    | succ i =>
      simp only [List.getElem?_cons_succ] at h
      obtain ⟨h1, h2⟩ := ih h
      rw [List.flatMap_cons, show (i + 1) * 2 = i * 2 + 2 by omega]
      exact ⟨by rw [List.getElem?_append_right (by simp [SayD.cells])]; simpa [SayD.cells] using h1, by rw [List.getElem?_append_right (by simp [SayD.cells])]; simpa [SayD.cells, show i * 2 + 2 + 1 - 2 = i * 2 + 1 by omega] using h2⟩
def SayD.good (s : SayD) (base : Nat) (w : World) : Prop := (Lit.int .i64 s.act).wf = true ∧ (∀ n ∈ s.ps, (Lit.int .i64 n).wf = true) ∧ w.ownsRow base 3 1 (.slice s.params.a s.params.n s.params.c) s.params.n (II s.ps)
theorem say_row {w : World} {base b g n cap : Nat} {S : List SayD} (h : w.ownsRow base 87 2 (.slice (some ⟨g, 0, none⟩) n cap) n (S.flatMap SayD.cells)) (hg : ∀ s ∈ S, s.good b w) : QRow 2 SayD.lie w ⟨some ⟨g, 0, none⟩, n, cap⟩ S := by
  have hl : S.length = n := by have := h.1; rw [flat_len] at this; omega
  refine ⟨hl, fun i s hs => ⟨g, 0, rfl, ?_⟩⟩
  have hi : i < n := by have := (List.getElem?_eq_some_iff.1 hs).1; omega
  obtain ⟨h1, h2⟩ := sflat_at hs
  obtain ⟨g1, g2, g3⟩ := hg s (List.mem_of_getElem? hs)
  rw [Nat.zero_add]
  exact ⟨⟨(h.cellAt (i * 2) (by omega)).trans h1, g1⟩, ⟨(h.cellAt (i * 2 + 1) (by omega)).trans h2, fun e => by obtain ⟨_, _, e2, _, h3⟩ := own_is g3; simp only [Value.slice.injEq, true_and] at e2; obtain ⟨rfl, rfl⟩ := e2; exact h3 e⟩, has_ownI g3 g2⟩
def sayL (al : List ActD) (l : List Int) : List (Int × List Int) := l.map fun i => (i, (al.getD i.toNat ActD.z).ws)
structure RulAt (w W2 wr : World) (kind : Int) (wl : List Int) (al : List ActD) (l : List Int) (p7 : Nat) (wa : Option Addr) (wc : Nat) (v : Value) (S : List SayD) : Prop where
  c0 : wr.cell? ⟨p7, 0, none⟩ = some (.int .i64 kind)
  c1 : wr.cell? ⟨p7, 1, none⟩ = some (.slice wa wl.length wc)
  c2 : wr.cell? ⟨p7, 2, none⟩ = some v
  fz : wr.frozen? ⟨p7, 2, none⟩ = false
  pw : w.heap.size + 2 ≤ p7
  bs : p7 + 1 ≤ wr.heap.size
  ws : wr.ownsRow (w.heap.size + 2) 3 1 (.slice wa wl.length wc) wl.length (II wl)
  wne : (Value.slice wa wl.length wc).ownBlock ≠ some p7
  wf : ∀ x ∈ wl, (Lit.int .i64 x).wf = true
  own : wr.ownsRow (p7 + 1) 87 2 v S.length (S.flatMap SayD.cells)
  good : ∀ s ∈ S, s.good (p7 + 1) wr
  says : S.map (fun s => (s.act, s.ps)) = sayL al l
  bel : Below (w.heap.size + 2) W2 wr
theorem RulAt.form {w W2 wr : World} {kind : Int} {wl : List Int} {al : List ActD} {l : List Int} {p7 : Nat} {wa : Option Addr} {wc : Nat} {v : Value} {S : List SayD} (h : RulAt w W2 wr kind wl al l p7 wa wc v S) : ∃ sa c, v = .slice sa S.length c ∧ (sa = none → S.length = 0 ∧ c = 0) := by
  rcases h.own.2 with ⟨e, e2⟩ | ⟨g, c, cur, e, _⟩
  · exact ⟨none, 0, by rw [e, e2], fun _ => ⟨e2, rfl⟩⟩
  · exact ⟨_, c, e, by simp⟩
theorem own_types {w : World} {b1 b2 n1 n2 k1 k2 : Nat} {t1 t2 : TypeId} {v1 v2 : Value} {x1 x2 : List Value} (h1 : w.ownsRow b1 t1 k1 v1 n1 x1) (h2 : w.ownsRow b2 t2 k2 v2 n2 x2) (ht : t1 ≠ t2) : v1.ownBlock = none ∨ v1.ownBlock ≠ v2.ownBlock := by
  rcases h1.2 with ⟨rfl, _⟩ | ⟨g1, c1, cur1, rfl, _, hh1, _⟩
  · exact .inl rfl
  · refine .inr fun e => ?_
    rcases h2.2 with ⟨rfl, _⟩ | ⟨g2, c2, cur2, rfl, _, hh2, _⟩
    · simp [Value.ownBlock] at e
    · simp only [Value.ownBlock, Option.some.injEq] at e
      subst e
      rw [hh1] at hh2
      simp only [Option.some.injEq, Obj.cells.injEq] at hh2
      exact ht hh2.2.1
theorem RulAt.push {w W2 wr w5 w6 : World} {kind i : Int} {wl ps : List Int} {al : List ActD} {l : List Int} {p7 m c5 : Nat} {wa a5 : Option Addr} {wc : Nat} {v v6 : Value} {S : List SayD} (h : RulAt w W2 wr kind wl al l p7 wa wc v S)
    (hi : (Lit.int .i64 i).wf = true) (hps : (al.getD i.toNat ActD.z).ws = ps) (hpw : ∀ n ∈ ps, (Lit.int .i64 n).wf = true) (hb5 : Below wr.drew.heap.size wr.drew w5) (ho5 : w5.ownsRow wr.drew.heap.size 3 1 (.slice a5 m c5) m (II ps))
    (ho6 : w6.ownsRow (p7 + 1) 87 2 v6 (S.length + 1) (S.flatMap SayD.cells ++ [.int .i64 i, .slice a5 m c5])) (hg6 : (w5.alloc (.cells #[.int .i64 i, .slice a5 m c5] 87)).grownBy w6 v.ownBlock) :
    RulAt w W2 (w6.setCell ⟨p7, 2, none⟩ v6) kind wl al (l ++ [i]) p7 wa wc v6 (S ++ [⟨i, ⟨a5, m, c5⟩, ps⟩]) := by
  have hd : Below wr.heap.size wr w5 := (Below.refl wr.heap.size wr).drew.trans hb5
  have hal : Below w5.heap.size w5 (w5.alloc (.cells #[.int .i64 i, .slice a5 m c5] 87)) := bl_alloc (Below.refl _ _)
  have hA := bl_step hd hal
  have hrow : some p7 ≠ v.ownBlock := fun e => by have := (h.own.lt p7 e.symm).1; omega
  have ct : 3 ≠ 87 := by decide
  have hown := owns_below h.own hA
  have cell : ∀ {o : Nat} {x : Value}, wr.cell? ⟨p7, o, none⟩ = some x → w6.cell? ⟨p7, o, none⟩ = some x := fun hx => hg6.cell (cell_keep hx hA) hrow
  have keep : ∀ {b n c : Nat} {a : Option Addr} {xs : List Value}, wr.ownsRow b 3 1 (.slice a n c) n xs → w6.ownsRow b 3 1 (.slice a n c) n xs := fun hx => (owns_below hx hA).kept hg6 (own_types (owns_below hx hA) hown ct)
  have hsz : wr.heap.size ≤ w6.heap.size := Nat.le_trans hA.size hg6.size
  have hnew : w6.ownsRow (p7 + 1) 3 1 (.slice a5 m c5) m (II ps) := by
    have h1 : w5.ownsRow (p7 + 1) 3 1 (.slice a5 m c5) m (II ps) := ho5.mono (by simpa using h.bs)
    exact (h1.alloc _).kept hg6 (own_types (h1.alloc _) hown ct)
  refine ⟨(World.cell?_setCell_other _ _ _ _ (by simp)).trans (cell h.c0), (World.cell?_setCell_other _ _ _ _ (by simp)).trans (cell h.c1), World.cell?_setCell_same _ _ _ (cell h.c2), ?_, h.pw, ?_, ?_, h.wne, h.wf, ?_, ?_, ?_, ?_⟩
  · rw [World.frozen?_setCell, hg6.frozen_far ⟨p7, 2, none⟩ (by have := h.bs; have := hA.size; show p7 < _; omega) hrow, hA.frozen (p := ⟨p7, 2, none⟩) (by have := h.bs; show p7 < _; omega)]
    exact h.fz
  · rw [World.size_setCell]; have := h.bs; omega
  · exact ownsRow_setCell_other (keep h.ws) h.wne v6
  · rw [List.length_append, List.flatMap_append]
    exact ownsRow_setCell_below ho6 (a := ⟨p7, 2, none⟩) (Nat.lt_succ_self _) v6
  · intro s hs
    rcases List.mem_append.1 hs with hs | hs
    · obtain ⟨g1, g2, g3⟩ := h.good s hs
      exact ⟨g1, g2, ownsRow_setCell_below (keep g3) (a := ⟨p7, 2, none⟩) (Nat.lt_succ_self _) v6⟩
    · simp only [List.mem_cons, List.not_mem_nil, or_false] at hs
      subst hs
      exact ⟨hi, hpw, ownsRow_setCell_below hnew (a := ⟨p7, 2, none⟩) (Nat.lt_succ_self _) v6⟩
  · rw [List.map_append, h.says]
    simp only [sayL, List.map_append, List.map_cons, List.map_nil, hps]
  · have hw2 := h.pw
    have hbs := h.bs
    refine Below.setCell ?_ (by show w.heap.size + 2 ≤ p7; omega) v6
    refine (h.bel.trans (hA.mono (by omega))).grown hg6 (by have := hA.size; omega) ?_
    intro j hj
    have := (h.own.lt j hj).1
    omega
theorem res_cells {w W2 wr : World} {o : Obj} (hW : W2 = ((w.alloc o).alloc (.cells #[.int .i64 0, .slice none 0 0, .slice none 0 0] 48))) (hb : Below (w.heap.size + 2) W2 wr) :
    (wr.cell? ⟨w.heap.size + 1, 0, none⟩ = some (.int .i64 0) ∧ wr.cell? ⟨w.heap.size + 1, 1, none⟩ = some (.slice none 0 0) ∧ wr.cell? ⟨w.heap.size + 1, 2, none⟩ = some (.slice none 0 0)) ∧ (wr.frozen? ⟨w.heap.size + 1, 0, none⟩ = false ∧ wr.frozen? ⟨w.heap.size + 1, 1, none⟩ = false ∧ wr.frozen? ⟨w.heap.size + 1, 2, none⟩ = false) := by
  subst hW
  have c : ∀ i, wr.cell? ⟨w.heap.size + 1, i, none⟩ = (#[.int .i64 0, .slice none 0 0, .slice none 0 0] : Array Value)[i]? := fun i => (hb.cell (p := ⟨w.heap.size + 1, i, none⟩) (by simp)).trans (World.cell?_alloc_at _ _ _ _ (by simp))
  have f : ∀ i, wr.frozen? ⟨w.heap.size + 1, i, none⟩ = false := fun i => (hb.frozen (p := ⟨w.heap.size + 1, i, none⟩) (by simp)).trans (World.frozen?_alloc_at _ _ _ _ (by simp))
  exact ⟨⟨c 0, c 1, c 2⟩, f 0, f 1, f 2⟩
theorem own_form {w : World} {base e k n : Nat} {v : Value} {xs : List Value} (h : w.ownsRow base e k v n xs) : ∃ a c, v = .slice a n c := by
  rcases h.2 with ⟨e, e2⟩ | ⟨g, c, cur, e, _⟩
  · exact ⟨none, 0, by rw [e, e2]⟩
  · exact ⟨_, c, e⟩
theorem say_src (w : World) (x : Int) (y : Value) : ∀ (j : Nat) (u : Value), ([.int .i64 x, y] : List Value)[j]? = some u → (w.alloc (.cells #[.int .i64 x, y] 87)).cell? ((⟨w.heap.size, 0, none⟩ : Addr).add j) = some u := by
  intro j u hj
  rw [Addr.add_lit, Nat.zero_add, World.cell?_alloc_at _ _ _ _ rfl]
  simpa using hj
theorem say_cell {w wr w6 : World} {p7 n : Nat} {v u : Value} {xs : List Value} {o : Obj} (ho : wr.ownsRow (p7 + 1) 87 2 v n xs) (hg : (w.alloc o).grownBy w6 v.ownBlock) (hp : p7 < w.heap.size) (hc : w.cell? ⟨p7, 2, none⟩ = some u) (hf : w.frozen? ⟨p7, 2, none⟩ = false) : w6.cell? ⟨p7, 2, none⟩ = some u ∧ w6.frozen? ⟨p7, 2, none⟩ = false := by
  have hrow : some p7 ≠ v.ownBlock := fun e => by have := (ho.lt p7 e.symm).1; omega
  exact ⟨hg.cell (cell_keep hc (bl_alloc (Below.refl _ _))) hrow, by rw [hg.frozen_far ⟨p7, 2, none⟩ (by simp; omega) hrow, (bl_alloc (o := o) (Below.refl w.heap.size w)).frozen (p := ⟨p7, 2, none⟩) hp]; exact hf⟩
theorem start_one {w W2 w1 : World} {kind : Int} {wl : List Int} {al : List ActD} {a1 : Option Addr} {n cp1 : Nat} (hs : W2.heap.size = w.heap.size + 2) (hl : wl.length = n) (hb : Below W2.drew.heap.size W2.drew w1) (ho : w1.ownsRow W2.drew.heap.size 3 1 (.slice a1 n cp1) n (II wl)) (hwf : ∀ x ∈ wl, (Lit.int .i64 x).wf = true) :
    RulAt w W2 (w1.alloc (.cells #[.int .i64 kind, .slice a1 n cp1, .slice none 0 0] 48)) kind wl al [] w1.heap.size a1 cp1 (.slice none 0 0) [] := by
  subst hl
  have h1 : w.heap.size + 2 ≤ w1.heap.size := by have := hb.size; simpa [hs] using this
  exact ⟨(World.cell?_alloc_at _ _ _ _ rfl).trans rfl, (World.cell?_alloc_at _ _ _ _ rfl).trans rfl, (World.cell?_alloc_at _ _ _ _ rfl).trans rfl, World.frozen?_alloc_at _ _ _ _ rfl, h1, by simp, ((ho.mono (by simp [hs])).alloc _), fun e => absurd (ho.lt _ e).2 (Nat.lt_irrefl _), hwf, World.ownsRow_nil _ _ _ _, by simp, rfl,
    ((((Below.refl W2.heap.size W2).drew).trans hb).mono (by omega)).alloc h1 _⟩
abbrev RZ : Obj := .cells #[.int .i64 0, .slice none 0 0, .slice none 0 0] 48
theorem rz_cells {W2 w1 : World} {n : Nat} (hn : W2.heap.size = n) (hb1 : Below (W2.drew.alloc RZ).heap.size (W2.drew.alloc RZ) w1) :
    (w1.cell? ⟨n, 0, none⟩ = some (.int .i64 0) ∧ w1.cell? ⟨n, 1, none⟩ = some (.slice none 0 0) ∧ w1.cell? ⟨n, 2, none⟩ = some (.slice none 0 0)) ∧ (w1.frozen? ⟨n, 0, none⟩ = false ∧ w1.frozen? ⟨n, 1, none⟩ = false ∧ w1.frozen? ⟨n, 2, none⟩ = false) ∧ n < w1.heap.size := by
  subst hn
  have hs : W2.heap.size < (W2.drew.alloc RZ).heap.size := by simp
  have c : ∀ i, w1.cell? ⟨W2.heap.size, i, none⟩ = (#[.int .i64 0, .slice none 0 0, .slice none 0 0] : Array Value)[i]? := fun i => (hb1.cell (p := ⟨W2.heap.size, i, none⟩) hs).trans (World.cell?_alloc_at _ _ _ _ rfl)
  have f : ∀ i, w1.frozen? ⟨W2.heap.size, i, none⟩ = false := fun i => (hb1.frozen (p := ⟨W2.heap.size, i, none⟩) hs).trans (World.frozen?_alloc_at _ _ _ _ rfl)
  exact ⟨⟨c 0, c 1, c 2⟩, ⟨f 0, f 1, f 2⟩, Nat.lt_of_lt_of_le hs hb1.size⟩
theorem start_two {w W2 w1 : World} {kind : Int} {wl : List Int} {al : List ActD} {a1 : Option Addr} {n cp1 : Nat} (hs : W2.heap.size = w.heap.size + 2) (hl : wl.length = n) (hb : Below (W2.drew.alloc (.cells #[.int .i64 0, .slice none 0 0, .slice none 0 0] 48)).heap.size (W2.drew.alloc (.cells #[.int .i64 0, .slice none 0 0, .slice none 0 0] 48)) w1) (ho : w1.ownsRow (W2.drew.alloc (.cells #[.int .i64 0, .slice none 0 0, .slice none 0 0] 48)).heap.size 3 1 (.slice a1 n cp1) n (II wl)) (hwf : ∀ x ∈ wl, (Lit.int .i64 x).wf = true) :
    RulAt w W2 (((w1.setCell ⟨w.heap.size + 2, 0, none⟩ (.int .i64 kind)).setCell ⟨w.heap.size + 2, 1, none⟩ (.slice a1 n cp1)).setCell ⟨w.heap.size + 2, 2, none⟩ (.slice none 0 0)) kind wl al [] (w.heap.size + 2) a1 cp1 (.slice none 0 0) [] := by
  subst hl
  obtain ⟨⟨r0, r1, r2⟩, ⟨f0, f1, f2⟩, hsz⟩ := rz_cells hs hb
  have hbs : (W2.drew.alloc (.cells #[.int .i64 0, .slice none 0 0, .slice none 0 0] 48)).heap.size = w.heap.size + 3 := by simp [hs]
  rw [hbs] at ho
  have s0 : ((w1.setCell ⟨w.heap.size + 2, 0, none⟩ (.int .i64 kind)).setCell ⟨w.heap.size + 2, 1, none⟩ (.slice a1 wl.length cp1)).cell? ⟨w.heap.size + 2, 2, none⟩ = some (.slice none 0 0) := (World.cell?_setCell_other _ _ _ _ (by simp)).trans ((World.cell?_setCell_other _ _ _ _ (by simp)).trans r2)
  have s1 : (w1.setCell ⟨w.heap.size + 2, 0, none⟩ (.int .i64 kind)).cell? ⟨w.heap.size + 2, 1, none⟩ = some (.slice none 0 0) := (World.cell?_setCell_other _ _ _ _ (by simp)).trans r1
  have o1 := ownsRow_setCell_below ho (a := ⟨w.heap.size + 2, 0, none⟩) (by show w.heap.size + 2 < w.heap.size + 3; omega) (.int .i64 kind)
  have o2 := ownsRow_setCell_below o1 (a := ⟨w.heap.size + 2, 1, none⟩) (by show w.heap.size + 2 < w.heap.size + 3; omega) (.slice a1 wl.length cp1)
  have o3 := ownsRow_setCell_below o2 (a := ⟨w.heap.size + 2, 2, none⟩) (by show w.heap.size + 2 < w.heap.size + 3; omega) (.slice none 0 0)
  have b1 : Below (w.heap.size + 2) W2 w1 := (((Below.refl W2.heap.size W2).drew.mono (by omega)).alloc (by simp [hs]) _).trans (hb.mono (by rw [hbs]; omega))
  exact ⟨(World.cell?_setCell_other _ _ _ _ (by simp)).trans ((World.cell?_setCell_other _ _ _ _ (by simp)).trans (World.cell?_setCell_same _ _ _ r0)), (World.cell?_setCell_other _ _ _ _ (by simp)).trans (World.cell?_setCell_same _ _ _ s1), World.cell?_setCell_same _ _ _ s0, by simpa using f2, Nat.le_refl _, by simp; omega, o3.mono (by omega), fun e => absurd (ho.lt _ e).1 (by omega), hwf, World.ownsRow_nil _ _ _ _, by simp, rfl,
    ((b1.setCell (by simp) _).setCell (by simp) _).setCell (by simp) _⟩
@[reducible] def TabD.box' (t : TabD) : Obj := .cells #[.int .i64 t.kind, .slice t.keys.a t.keys.n t.keys.c, .slice t.acts.a t.acts.n t.acts.c, .int .i64 t.cap, .int .i64 t.dflt, .slice t.args.a t.args.n t.args.c] 26
@[reducible] def TabD.v' (t : TabD) : Value := .agg #[.int .i64 t.kind, .slice t.keys.a t.keys.n t.keys.c, .slice t.acts.a t.acts.n t.acts.c, .int .i64 t.cap, .int .i64 t.dflt, .slice t.args.a t.args.n t.args.c]
def RulesDone (kind : Int) (wl : List Int) (al : List ActD) (l : List Int) (w : World) (e : Ending) (w' : World) : Prop :=
  ∃ wa wc m S, e = .returned (.agg #[.int .i64 kind, .slice wa wl.length wc, .slice (QSl.a m) (QSl.n m) (QSl.c m)]) ∧ Has .i64 w' wa wl.length wl ∧ QRow 2 SayD.lie w' m S ∧ S.map (fun s => (s.act, s.ps)) = sayL al l ∧ Below w.heap.size w w' ∧ w'.ownsRow w.heap.size 3 1 (.slice wa wl.length wc) wl.length (II wl) ∧ w'.ownsRow w.heap.size 87 2 (.slice (QSl.a m) (QSl.n m) (QSl.c m)) S.length (S.flatMap SayD.cells) ∧ ∀ s ∈ S, s.good w.heap.size w'
theorem rul_end {w W2 wr : World} {kind : Int} {wl : List Int} {al : List ActD} {l : List Int} {p7 : Nat} {wa sa : Option Addr} {wc sc : Nat} {S : List SayD} (h : RulAt w W2 wr kind wl al l p7 wa wc (.slice sa S.length sc) S) (hB : Below w.heap.size w W2) (x0 x1 x2 : Value) :
    RulesDone kind wl al l w (.returned (.agg #[.int .i64 kind, .slice wa wl.length wc, .slice sa S.length sc])) (((wr.setCell ⟨w.heap.size + 1, 0, none⟩ x0).setCell ⟨w.heap.size + 1, 1, none⟩ x1).setCell ⟨w.heap.size + 1, 2, none⟩ x2) := by
  have k3 : ∀ {b n k : Nat} {t : TypeId} {v : Value} {xs : List Value}, w.heap.size + 1 < b → wr.ownsRow b t k v n xs → (((wr.setCell ⟨w.heap.size + 1, 0, none⟩ x0).setCell ⟨w.heap.size + 1, 1, none⟩ x1).setCell ⟨w.heap.size + 1, 2, none⟩ x2).ownsRow b t k v n xs := fun hb hx =>
    ownsRow_setCell_below (ownsRow_setCell_below (ownsRow_setCell_below hx (a := ⟨w.heap.size + 1, 0, none⟩) hb x0) (a := ⟨w.heap.size + 1, 1, none⟩) hb x1) (a := ⟨w.heap.size + 1, 2, none⟩) hb x2
  have hp := h.pw
  have o1 := k3 (by omega) h.ws
  have o2 := k3 (by omega) h.own
  have bl : Below w.heap.size w (((wr.setCell ⟨w.heap.size + 1, 0, none⟩ x0).setCell ⟨w.heap.size + 1, 1, none⟩ x1).setCell ⟨w.heap.size + 1, 2, none⟩ x2) := (((hB.trans (h.bel.mono (by omega))).setCell (by simp) _).setCell (by simp) _).setCell (by simp) _
  refine ⟨wa, wc, ⟨sa, S.length, sc⟩, S, rfl, has_ownI o1 h.wf, ?_, h.says, bl, o1.mono (by omega), o2.mono (by omega), fun s hs => ⟨(h.good s hs).1, (h.good s hs).2.1, (k3 (by omega) (h.good s hs).2.2).mono (by omega)⟩⟩
  rcases o2.2 with ⟨e, e2⟩ | ⟨g, c, cur, e, _⟩
  · have : S = [] := List.eq_nil_of_length_eq_zero e2
    subst this
    exact ⟨rfl, by simp⟩
  · simp only [Value.slice.injEq] at e
    obtain ⟨rfl, _, rfl⟩ := e
    exact say_row o2 (fun s hs => ⟨(h.good s hs).1, (h.good s hs).2.1, k3 (by omega) (h.good s hs).2.2⟩)
set_option maxHeartbeats 16000000 in
set_option maxRecDepth 20000 in
theorem rulesOf_any (t : TabD) (wq : QSl) (wl : List Int) (aq : QSl) (al : List ActD) (w : World) (hw : Has .i64 w wq.a wq.n wl) (hwn : wq.nil0) (hws : wq.n ≤ 100000) (ht : Has .i64 w t.acts.a t.acts.n t.al) (htn : t.acts.n ≤ 10000) (ha : QRow 2 ActD.lie w aq al) (hin : ∀ i ∈ t.al, 0 ≤ i ∧ i < (aq.n : Int)) (hpar : ∀ x ∈ al, x.w.n ≤ 100000) :
    Calls Tryz.prog 16 #[t.v', .slice wq.a wq.n wq.c, .slice aq.a aq.n aq.c] w (RulesDone t.kind wl al t.al w) := by
  obtain ⟨W2, hW⟩ : ∃ W2, W2 = ((w.alloc t.box').alloc RZ) := ⟨_, rfl⟩
  obtain ⟨b0, h0⟩ : ∃ b0, b0 = w.heap.size := ⟨_, rfl⟩
  obtain ⟨b1, h1⟩ : ∃ b1, b1 = w.heap.size + 1 := ⟨_, rfl⟩
  have z0 : W2.cell? ⟨b0, 0, none⟩ = some (.int .i64 t.kind) := by rw [hW, h0]; exact (World.cell?_alloc_past _ _ _ (by simp)).trans ((World.cell?_alloc_at _ _ _ _ rfl).trans rfl)
  have z2 : W2.cell? ⟨b0, 2, none⟩ = some (.slice t.acts.a t.acts.n t.acts.c) := by rw [hW, h0]; exact (World.cell?_alloc_past _ _ _ (by simp)).trans ((World.cell?_alloc_at _ _ _ _ rfl).trans rfl)
  have HB : Hid (Below w.heap.size w W2) := by rw [hW]; exact bl_alloc (bl_alloc (Below.refl _ _))
  have hWs : W2.heap.size = w.heap.size + 2 := by rw [hW]; simp
  have HWD := hid ((hw.step HB.out).step (Below.refl W2.heap.size W2).drew)
  have E2 := hid hW
  have E0 := hid h0
  have E1 := hid h1
  have HT := hid ht
  have HA := hid ha
  have HIN := hid hin
  have HPA := hid hpar
  have HNW := hid hwn
  have HWL := hid hw.1
  have HWF := hid hw.2.1
  obtain ⟨qa, eqa⟩ : ∃ qa, aq.a = qa := ⟨_, rfl⟩
  rw [eqa]
  have EQA := hid eqa
  clear hW h0 h1 hw ht ha hin hpar hwn eqa
  go_enter Tryz.func16, Tryz.ntmps16
  go_wp2_with fail
  rw [← E2.out, ← E1.out, ← E0.out]
  have hne : ¬ (w.heap.size + 2 = b0) := by rw [E0.out]; omega
  have hne' : ¬ (b0 = w.heap.size + 2) := by rw [E0.out]; omega
  go_region_held3 (fun w' => w'.cell? ⟨b0, 0, none⟩ = some (.int .i64 t.kind))
    (first
      | go_keep
      | exact cell_keep (by assumption) hbx
      | exact cell_keep (cell_keep (w := W2.drew) z0 hbx) (bl_alloc (Below.refl _ _)))
    (first
      | (refine stepI rfl _ _ rfl wq.n wq.c wl wq.a (by simp [Act.eval]) (by simp [Act.eval]) HNW.out (by first | exact HWD.out | exact HWD.out.alloc) (by omega) ?_; intro v1 w1 hown1 hbx; obtain ⟨a1, cp1, rfl, hle1, hn1⟩ := own_is hown1; (first | (have RC := rz_cells hWs hbx; have rc0 := RC.1.1; have rc1 := RC.1.2.1; have rc2 := RC.1.2.2; have rf0 := RC.2.1.1; have rf1 := RC.2.1.2.1; have rf2 := RC.2.1.2.2; have rsz := RC.2.2) | skip)))
  · obtain ⟨WR, hWR⟩ : ∃ WR, WR = w1.alloc (.cells #[.int .i64 t.kind, .slice a1 wq.n cp1, .slice none 0 0] 48) := ⟨_, rfl⟩
    obtain ⟨p7, hp7⟩ : ∃ p7, p7 = w1.heap.size := ⟨_, rfl⟩
    have RA0 : Hid (RulAt w W2 WR t.kind wl al [] p7 a1 cp1 (.slice none 0 0) []) := by
      show RulAt w W2 WR t.kind wl al [] p7 a1 cp1 (.slice none 0 0) []
      rw [hWR, hp7]
      exact start_one hWs HWL.out hbx hown1 HWF.out
    rw [← hWR, ← hp7]
    have BEL := hid RA0.out.bel
    have zb := (BEL.out.cell (p := ⟨b0, 2, none⟩) (by rw [E0.out]; simp)).trans z2
    clear hWR hp7 hbx hown1 hn1 hle1
    obtain ⟨ta, eta⟩ : ∃ ta, t.acts.a = ta := ⟨_, rfl⟩
    rw [eta] at zb
    have ETA := hid eta
    clear eta
    go_wp2
    go_loopw [18, 9] (fun q _ wr => ∃ k : Nat, ∃ v S, k ≤ t.acts.n ∧ q = .int .i64 k ∧ Hid (RulAt w W2 wr t.kind wl al (t.al.take k) p7 a1 cp1 v S)) (fun q _ _ => t.acts.n - (intOf q).toNat)
    case atStart => exact ⟨0, _, _, Nat.zero_le _, rfl, RA0⟩
    case round =>
      obtain ⟨k, v, S, hk, rfl, RA⟩ := hrel
      clear RA0 BEL zb
      have BW : Hid (Below w.heap.size w wr) := HB.out.trans (RA.out.bel.mono (by omega))
      have hSl : S.length = k := by
        have h1 := congrArg List.length RA.out.says
        simp only [List.length_map, sayL, List.length_take, HT.out.1] at h1
        omega
      have HSL := hid hSl
      clear hSl
      obtain ⟨sa, sc, rfl, _⟩ := RA.out.form
      by_cases hlt : k < t.acts.n
      · obtain ⟨g, off, i, ea', hi, r0⟩ := int_at' (HT.out.step BW.out) hlt
        obtain rfl : ta = some ⟨g, off, none⟩ := by rw [← ETA.out]; exact ea'
        have hki : (k : Int) < (t.acts.n : Int) := by omega
        have hmem := List.mem_of_getElem? hi
        obtain ⟨hi0, hi1⟩ := HIN.out i hmem
        obtain ⟨j, rfl⟩ : ∃ j : Nat, i = j := ⟨i.toNat, by omega⟩
        obtain ⟨ag, aoff, x, eaq', hx, ⟨c0, hnil⟩, _, hws', _⟩ := row_at (HA.out.step ActD.keeps BW.out) (show j < aq.n by omega)
        obtain rfl : qa = some ⟨ag, aoff, none⟩ := by rw [← EQA.out]; exact eaq'
        have hji : (j : Int) < (aq.n : Int) := by omega
        have hxs : x.w.n ≤ 100000 := HPA.out x (List.mem_of_getElem? hx)
        have HX := hid (hws'.step (Below.refl wr.heap.size wr).drew)
        have HNIL := hid hnil
        have y2 := RA.out.c2
        have yf := RA.out.fz
        have hp7 : p7 < wr.heap.size := by have := RA.out.bs; omega
        have HIW := hid (HT.out.2.1 _ hmem)
        have HPS : Hid ((al.getD ((j : Int)).toNat ActD.z).ws = x.ws) := by
          show (al.getD ((j : Int)).toNat ActD.z).ws = x.ws
          rw [Int.toNat_natCast, List.getD_eq_getElem?_getD, hx]
          rfl
        have HTK : Hid (t.al.take k ++ [(j : Int)] = t.al.take (k + 1)) := by
          show t.al.take k ++ [(j : Int)] = t.al.take (k + 1)
          rw [List.take_add_one, hi]
          rfl
        clear ea' eaq' hi hx hmem hnil hws' hi0 hi1
        go_wp2_with fail
        go_region_law (first
          | (refine stepI rfl _ _ rfl x.w.n x.w.c x.ws x.w.a (by simp [Act.eval]) (by simp [Act.eval]) HNIL.out HX.out (by omega) ?_; intro v5 w5 ho5 hb5; obtain ⟨a5, c5, rfl, hle5, hn5⟩ := own_is ho5; have y5 := cell_keep (w := wr.drew) y2 hb5; have yf5 := (hb5.frozen (p := ⟨p7, 2, none⟩) hp7).trans yf; have hp75 : p7 < w5.heap.size := Nat.lt_of_lt_of_le hp7 hb5.size)
          | (refine pushQ Tryz.underlying46 Tryz.infoSaying rfl (by decide) (by decide) rfl _ _ rfl (p7 + 1) S.length 1 (.slice sa S.length sc) (S.flatMap SayD.cells) [.int .i64 (j : Int), .slice a5 x.w.n c5] ⟨w5.heap.size, 0, none⟩ (by simp [Act.eval]) (by simp [Act.eval]) ((owns_below (owns_below RA.out.own ((Below.refl wr.heap.size wr).drew)) hb5).alloc _) rfl (say_src w5 _ _) (by intro u hu; simp only [List.mem_cons, List.not_mem_nil, or_false] at hu; rcases hu with rfl | rfl <;> rfl) (by have := HSL.out; omega) (by simp; omega) ?_; intro v6 w6 ho6 hg6; obtain ⟨a6, c6, rfl⟩ := own_form ho6; obtain ⟨y6, yf6⟩ := say_cell RA.out.own hg6 hp75 y5 yf5))
        all_goals
              have RN : Hid (RulAt w W2 (w6.setCell ⟨p7, 2, none⟩ (.slice a6 (S.length + 1) c6)) t.kind wl al (t.al.take (k + 1)) p7 a1 cp1 (.slice a6 (S.length + 1) c6) (S ++ [⟨(j : Int), ⟨a5, x.w.n, c5⟩, x.ws⟩])) := by
                rw [← HTK.out]
                exact RA.out.push HIW.out HPS.out HX.out.2.1 hb5 ho5 ho6 hg6
              clear ho5 ho6 hg6 hb5 y2 yf y5 yf5 y6 yf6 RA HX HNIL r0 c0 BW
              go_wp2
              go_roundw
              case rel => exact ⟨k + 1, _, _, by omega, by go_num, RN⟩
              case measure => simp [intOf]; omega
      · have ek : k = t.acts.n := by omega
        have c0 := RA.out.c0
        have c1 := RA.out.c1
        have c2 := RA.out.c2
        have hr := res_cells E2.out RA.out.bel
        rw [← E1.out] at hr
        obtain ⟨⟨q0, q1, q2⟩, f0, f1, f2⟩ := hr
        have HF : Hid (RulesDone t.kind wl al t.al w (.returned (.agg #[.int .i64 t.kind, .slice a1 wl.length cp1, .slice sa S.length sc])) (((wr.setCell ⟨b1, 0, none⟩ (.int .i64 t.kind)).setCell ⟨b1, 1, none⟩ (.slice a1 wl.length cp1)).setCell ⟨b1, 2, none⟩ (.slice sa S.length sc))) := by
          show RulesDone t.kind wl al t.al w _ _
          have hl : t.al.take k = t.al := List.take_of_length_le (by rw [HT.out.1]; omega)
          have RB := RA.out
          rw [hl] at RB
          rw [E1.out]
          exact rul_end RB HB.out _ _ _
        have sb : b1 < wr.heap.size := World.block_lt_of_cell? wr _ q0
        clear RA BW
        subst ek
        go_wp2
        exact bodyPost_ret (v := .agg #[.int .i64 t.kind, .slice a1 wl.length cp1, .slice sa S.length sc]) (by simp [results, Tryz.results16, go_sem, *]) rfl HF.out
  · obtain ⟨WR, hWR⟩ : ∃ WR, WR = ((w1.setCell ⟨w.heap.size + 2, 0, none⟩ (.int .i64 t.kind)).setCell ⟨w.heap.size + 2, 1, none⟩ (.slice a1 wq.n cp1)).setCell ⟨w.heap.size + 2, 2, none⟩ (.slice none 0 0) := ⟨_, rfl⟩
    obtain ⟨p7, hp7⟩ : ∃ p7, p7 = w.heap.size + 2 := ⟨_, rfl⟩
    have RA0 : Hid (RulAt w W2 WR t.kind wl al [] p7 a1 cp1 (.slice none 0 0) []) := by
      show RulAt w W2 WR t.kind wl al [] p7 a1 cp1 (.slice none 0 0) []
      rw [hWR, hp7]
      exact start_two hWs HWL.out hbx hown1 HWF.out
    rw [← hWR, ← hp7]
    have BEL := hid RA0.out.bel
    have zb := (BEL.out.cell (p := ⟨b0, 2, none⟩) (by rw [E0.out]; simp)).trans z2
    clear hWR hp7 hbx hown1 hn1 hle1
    obtain ⟨ta, eta⟩ : ∃ ta, t.acts.a = ta := ⟨_, rfl⟩
    rw [eta] at zb
    have ETA := hid eta
    clear eta
    go_wp2
    go_loopw [18, 9] (fun q _ wr => ∃ k : Nat, ∃ v S, k ≤ t.acts.n ∧ q = .int .i64 k ∧ Hid (RulAt w W2 wr t.kind wl al (t.al.take k) p7 a1 cp1 v S)) (fun q _ _ => t.acts.n - (intOf q).toNat)
    case atStart => exact ⟨0, _, _, Nat.zero_le _, rfl, RA0⟩
    case round =>
      obtain ⟨k, v, S, hk, rfl, RA⟩ := hrel
      clear RA0 BEL zb
      have BW : Hid (Below w.heap.size w wr) := HB.out.trans (RA.out.bel.mono (by omega))
      have hSl : S.length = k := by
        have h1 := congrArg List.length RA.out.says
        simp only [List.length_map, sayL, List.length_take, HT.out.1] at h1
        omega
      have HSL := hid hSl
      clear hSl
      obtain ⟨sa, sc, rfl, _⟩ := RA.out.form
      by_cases hlt : k < t.acts.n
      · obtain ⟨g, off, i, ea', hi, r0⟩ := int_at' (HT.out.step BW.out) hlt
        obtain rfl : ta = some ⟨g, off, none⟩ := by rw [← ETA.out]; exact ea'
        have hki : (k : Int) < (t.acts.n : Int) := by omega
        have hmem := List.mem_of_getElem? hi
        obtain ⟨hi0, hi1⟩ := HIN.out i hmem
        obtain ⟨j, rfl⟩ : ∃ j : Nat, i = j := ⟨i.toNat, by omega⟩
        obtain ⟨ag, aoff, x, eaq', hx, ⟨c0, hnil⟩, _, hws', _⟩ := row_at (HA.out.step ActD.keeps BW.out) (show j < aq.n by omega)
        obtain rfl : qa = some ⟨ag, aoff, none⟩ := by rw [← EQA.out]; exact eaq'
        have hji : (j : Int) < (aq.n : Int) := by omega
        have hxs : x.w.n ≤ 100000 := HPA.out x (List.mem_of_getElem? hx)
        have HX := hid (hws'.step (Below.refl wr.heap.size wr).drew)
        have HNIL := hid hnil
        have y2 := RA.out.c2
        have yf := RA.out.fz
        have hp7 : p7 < wr.heap.size := by have := RA.out.bs; omega
        have HIW := hid (HT.out.2.1 _ hmem)
        have HPS : Hid ((al.getD ((j : Int)).toNat ActD.z).ws = x.ws) := by
          show (al.getD ((j : Int)).toNat ActD.z).ws = x.ws
          rw [Int.toNat_natCast, List.getD_eq_getElem?_getD, hx]
          rfl
        have HTK : Hid (t.al.take k ++ [(j : Int)] = t.al.take (k + 1)) := by
          show t.al.take k ++ [(j : Int)] = t.al.take (k + 1)
          rw [List.take_add_one, hi]
          rfl
        clear ea' eaq' hi hx hmem hnil hws' hi0 hi1
        go_wp2_with fail
        go_region_law (first
          | (refine stepI rfl _ _ rfl x.w.n x.w.c x.ws x.w.a (by simp [Act.eval]) (by simp [Act.eval]) HNIL.out HX.out (by omega) ?_; intro v5 w5 ho5 hb5; obtain ⟨a5, c5, rfl, hle5, hn5⟩ := own_is ho5; have y5 := cell_keep (w := wr.drew) y2 hb5; have yf5 := (hb5.frozen (p := ⟨p7, 2, none⟩) hp7).trans yf; have hp75 : p7 < w5.heap.size := Nat.lt_of_lt_of_le hp7 hb5.size)
          | (refine pushQ Tryz.underlying46 Tryz.infoSaying rfl (by decide) (by decide) rfl _ _ rfl (p7 + 1) S.length 1 (.slice sa S.length sc) (S.flatMap SayD.cells) [.int .i64 (j : Int), .slice a5 x.w.n c5] ⟨w5.heap.size, 0, none⟩ (by simp [Act.eval]) (by simp [Act.eval]) ((owns_below (owns_below RA.out.own ((Below.refl wr.heap.size wr).drew)) hb5).alloc _) rfl (say_src w5 _ _) (by intro u hu; simp only [List.mem_cons, List.not_mem_nil, or_false] at hu; rcases hu with rfl | rfl <;> rfl) (by have := HSL.out; omega) (by simp; omega) ?_; intro v6 w6 ho6 hg6; obtain ⟨a6, c6, rfl⟩ := own_form ho6; obtain ⟨y6, yf6⟩ := say_cell RA.out.own hg6 hp75 y5 yf5))
        all_goals
              have RN : Hid (RulAt w W2 (w6.setCell ⟨p7, 2, none⟩ (.slice a6 (S.length + 1) c6)) t.kind wl al (t.al.take (k + 1)) p7 a1 cp1 (.slice a6 (S.length + 1) c6) (S ++ [⟨(j : Int), ⟨a5, x.w.n, c5⟩, x.ws⟩])) := by
                rw [← HTK.out]
                exact RA.out.push HIW.out HPS.out HX.out.2.1 hb5 ho5 ho6 hg6
              clear ho5 ho6 hg6 hb5 y2 yf y5 yf5 y6 yf6 RA HX HNIL r0 c0 BW
              go_wp2
              go_roundw
              case rel => exact ⟨k + 1, _, _, by omega, by go_num, RN⟩
              case measure => simp [intOf]; omega
      · have ek : k = t.acts.n := by omega
        have c0 := RA.out.c0
        have c1 := RA.out.c1
        have c2 := RA.out.c2
        have hr := res_cells E2.out RA.out.bel
        rw [← E1.out] at hr
        obtain ⟨⟨q0, q1, q2⟩, f0, f1, f2⟩ := hr
        have HF : Hid (RulesDone t.kind wl al t.al w (.returned (.agg #[.int .i64 t.kind, .slice a1 wl.length cp1, .slice sa S.length sc])) (((wr.setCell ⟨b1, 0, none⟩ (.int .i64 t.kind)).setCell ⟨b1, 1, none⟩ (.slice a1 wl.length cp1)).setCell ⟨b1, 2, none⟩ (.slice sa S.length sc))) := by
          show RulesDone t.kind wl al t.al w _ _
          have hl : t.al.take k = t.al := List.take_of_length_le (by rw [HT.out.1]; omega)
          have RB := RA.out
          rw [hl] at RB
          rw [E1.out]
          exact rul_end RB HB.out _ _ _
        have sb : b1 < wr.heap.size := World.block_lt_of_cell? wr _ q0
        clear RA BW
        subst ek
        go_wp2
        exact bodyPost_ret (v := .agg #[.int .i64 t.kind, .slice a1 wl.length cp1, .slice sa S.length sc]) (by simp [results, Tryz.results16, go_sem, *]) rfl HF.out
end Go.Proofs.YtffbnggdckjogaaGreat

namespace Go.Proofs.YtffbnggdckjogaaGreat
open Go.RowKit
theorem wf_i64 (n : Int) (h : -9223372036854775808 ≤ n ∧ n < 9223372036854775808) : (Lit.int .i64 n).wf = true := by
  simp [Lit.wf, IntKind.min, IntKind.max, IntKind.bits, IntKind.signed]
  omega
def saysC (al : List PAct) (ac : List Int) (dflt : Int) (zs : List Int) : Int := if dflt ∈ ac then hit2 zs (al.getD dflt.toNat ⟨[], []⟩).ws else 5
def storeC (t : PTab) (wl : List Int) (al : List PAct) : Int :=
  if isK t.kind = false then 5 else if InC 1 (mostK t.kind) [(wl.length : Int)] = false ∨ InC 1 4 [(t.al.length : Int)] = false then 2 else if InC 0 16 [t.cap] = false then 1 else if InC 1 48 wl = false then 6 else if InC 0 ((al.length : Int) - 1) t.al = false then 1 else saysC al t.al t.dflt t.zs
theorem says_is {al : List ActD} {ac : List Int} {S : List SayD} {dflt C : Int} {zs : List Int} (h : S.map (fun s => (s.act, s.ps)) = sayL al ac) (hs : SayIs S dflt zs C) : C = saysC (al.map ActD.p) ac dflt zs := by
  have key : ∀ s ∈ S, s.act ∈ ac ∧ s.ps = (al.getD s.act.toNat ActD.z).ws := by
    intro s hs
    have : (s.act, s.ps) ∈ sayL al ac := by rw [← h]; exact List.mem_map.2 ⟨s, hs, rfl⟩
    obtain ⟨i, hi, e⟩ := List.mem_map.1 this
    simp only [Prod.mk.injEq] at e
    obtain ⟨e1, e2⟩ := e
    subst e1
    exact ⟨hi, e2.symm⟩
  have gd : ∀ k : Nat, ((al.map ActD.p).getD k ⟨[], []⟩).ws = (al.getD k ActD.z).ws := by
    intro k
    simp only [List.getD_eq_getElem?_getD, List.getElem?_map]
    cases al[k]? <;> rfl
  unfold saysC
  rcases hs with ⟨hno, rfl⟩ | ⟨s, hs, ha, rfl⟩
  · have : dflt ∉ ac := by
      intro hd
      have : (dflt, (al.getD dflt.toNat ActD.z).ws) ∈ S.map (fun s => (s.act, s.ps)) := by rw [h]; exact List.mem_map.2 ⟨dflt, hd, rfl⟩
      obtain ⟨s, hs, e⟩ := List.mem_map.1 this
      simp only [Prod.mk.injEq] at e
      exact hno s hs e.1
    rw [if_neg this]
  · obtain ⟨h1, h2⟩ := key s hs
    rw [ha] at h1 h2
    rw [if_pos h1, gd, h2]
theorem past3 (w : World) (cs : Array Value) (ty : TypeId) (o1 o2 o3 : Obj) (i : Nat) (v : Value) (h : cs[i]? = some v) : ((((w.alloc (.cells cs ty)).alloc o1).alloc o2).alloc o3).cell? ⟨w.heap.size, i, none⟩ = some v :=
  (World.cell?_alloc_past _ _ _ (by simp; omega)).trans ((World.cell?_alloc_past _ _ _ (by simp; omega)).trans ((World.cell?_alloc_past _ _ _ (by simp)).trans ((World.cell?_alloc_at _ _ _ _ rfl).trans h)))
set_option maxHeartbeats 16000000 in
set_option maxRecDepth 20000 in
theorem check_store (t : TabD) (wq : QSl) (wl : List Int) (aq : QSl) (al : List ActD) (w : World) (hw : Has .i64 w wq.a wq.n wl) (hwn : wq.nil0) (hws : wq.n ≤ 100000) (hcap : (Lit.int .i64 t.cap).wf = true) (ht : Has .i64 w t.acts.a t.acts.n t.al) (htn : t.acts.n ≤ 10000) (hz : Has .u64 w t.args.a t.args.n t.zs) (hzn : t.args.n ≤ 100000) (ha : QRow 2 ActD.lie w aq al) (haq : aq.n ≤ 100000) (hpar : ∀ x ∈ al, x.w.n ≤ 100000) :
    Calls Tryz.prog 14 #[t.v', .slice wq.a wq.n wq.c, .slice aq.a aq.n aq.c] w fun e w' => e = .returned (.int .i64 (storeC t.p wl (al.map ActD.p))) ∧ Below w.heap.size w w' := by
  have bw1 : ∀ o, Below w.heap.size w (w.alloc o) := fun o => bl_alloc (Below.refl _ _)
  have HKI : Hid (∀ w', Calls Tryz.prog 24 #[.int .i64 t.kind] w' fun e w'' => e = .returned (.bool (isK t.kind)) ∧ w'' = w') := fun w' => qkind_any t.kind w'
  have HMO : Hid (∀ w', Calls Tryz.prog 26 #[.int .i64 t.kind] w' fun e w'' => e = .returned (.int .i64 (mostK t.kind)) ∧ w'' = w') := fun w' => qmost_any t.kind w'
  have HW1 : Hid (∀ (lo hi x : Int), (Lit.int .i64 x).wf = true → ∀ (w' : World) (b : Nat), b = w'.heap.size → Calls Tryz.prog 25 #[.int .i64 lo, .int .i64 hi, .slice (some ⟨b, 0, none⟩) 1 1] (w'.alloc (.cells #[.int .i64 x] 3)) fun e w'' => e = .returned (.bool (InC lo hi [x])) ∧ w'' = w'.alloc (.cells #[.int .i64 x] 3)) := fun lo hi x hx w' b hb => by
    subst hb
    exact qwithin_any lo hi _ 1 1 [x] _ (by omega) (has_oneI w' x hx)
  have HWN := hid (HW1.out 1 (mostK t.kind) (wq.n : Int) (wf_i64 _ (by omega)))
  have HTN := hid (HW1.out 1 4 (t.acts.n : Int) (wf_i64 _ (by omega)))
  have HCP := hid (HW1.out 0 16 t.cap hcap)
  have HWW : Hid (∀ w', Below w.heap.size w w' → Calls Tryz.prog 25 #[.int .i64 1, .int .i64 48, .slice wq.a wq.n wq.c] w' fun e w'' => e = .returned (.bool (InC 1 48 wl)) ∧ w'' = w') := fun w' h => qwithin_any 1 48 _ _ _ wl w' hws (hw.step h)
  have HTW : Hid (∀ w', Below w.heap.size w w' → Calls Tryz.prog 25 #[.int .i64 0, .int .i64 ((aq.n : Int) - 1), .slice t.acts.a t.acts.n t.acts.c] w' fun e w'' => e = .returned (.bool (InC 0 ((aq.n : Int) - 1) t.al)) ∧ w'' = w') := fun w' h => qwithin_any 0 _ _ _ _ t.al w' (by omega) (ht.step h)
  have HRU : Hid (InC 0 ((aq.n : Int) - 1) t.al = true → ∀ w', Below w.heap.size w w' → Calls Tryz.prog 16 #[t.v', .slice wq.a wq.n wq.c, .slice aq.a aq.n aq.c] w' (RulesDone t.kind wl al t.al w')) := fun hin w' h =>
    rulesOf_any t wq wl aq al w' (hw.step h) hwn hws (ht.step h) htn (ha.step ActD.keeps h) (fun i hi => by
      have := List.all_eq_true.1 hin i hi
      have := of_decide_eq_true this
      omega) hpar
  have HZ := hid hz
  have HRES : Hid (storeC t.p wl (al.map ActD.p) = if isK t.kind = false then 5 else if InC 1 (mostK t.kind) [(wq.n : Int)] = false ∨ InC 1 4 [(t.acts.n : Int)] = false then 2 else if InC 0 16 [t.cap] = false then 1 else if InC 1 48 wl = false then 6 else if InC 0 ((aq.n : Int) - 1) t.al = false then 1 else saysC (al.map ActD.p) t.al t.dflt t.zs) := by
    show storeC t.p wl (al.map ActD.p) = _
    unfold storeC
    rw [hw.1, List.length_map, ha.1, show t.p.al.length = t.acts.n from ht.1]
    rfl
  have HAL := hid ht.1
  clear hw hwn ht hz ha hpar hcap HW1
  cases hK : isK t.kind with
  | false =>
    rw [hK] at HKI
    rw [if_pos hK] at HRES
    clear HMO HWN HTN HCP HWW HTW HRU hK
    go_enter Tryz.func14, Tryz.ntmps14
    go_wp2_with fail
    refine (HKI.out _).mono ?_
    rintro e w1 ⟨rfl, rfl⟩
    clear HKI
    go_wp2
    go_ret
    exact ⟨by rw [HRES.out]; rfl, bw1 _⟩
  | true =>
    rw [hK] at HKI
    rw [if_neg (by rw [hK]; decide)] at HRES
    clear hK
    go_enter Tryz.func14, Tryz.ntmps14
    go_wp2_with fail
    refine (HKI.out _).mono ?_
    rintro e w1 ⟨rfl, rfl⟩
    clear HKI
    go_wp2_with fail
    refine (HMO.out _).mono ?_
    rintro e w1 ⟨rfl, rfl⟩
    clear HMO
    go_wp2_with fail
    refine (HWN.out _ _ (by simp)).mono ?_
    rintro e w1 ⟨rfl, rfl⟩
    clear HWN
    cases hA : InC 1 (mostK t.kind) [(wq.n : Int)] with
    | false =>
      rw [if_pos (.inl hA)] at HRES
      clear HTN HCP HWW HTW HRU hA
      go_wp2
      go_ret
      exact ⟨by rw [HRES.out]; rfl, (bl_alloc (bl_alloc (Below.refl w.heap.size w)))⟩
    | true =>
      go_wp2_with fail
      refine (HTN.out _ _ (by simp)).mono ?_
      rintro e w1 ⟨rfl, rfl⟩
      clear HTN
      cases hB : InC 1 4 [(t.acts.n : Int)] with
      | false =>
        rw [if_pos (.inr hB)] at HRES
        clear HCP HWW HTW HRU hA hB
        go_wp2
        go_ret
        exact ⟨by rw [HRES.out]; rfl, (bl_alloc (bl_alloc (bl_alloc (Below.refl w.heap.size w))))⟩
      | true =>
        rw [if_neg (fun h => h.elim (fun h => by rw [hA] at h; cases h) (fun h => by rw [hB] at h; cases h))] at HRES
        clear hA hB
        go_wp2_with fail
        refine (HCP.out _ _ (by simp)).mono ?_
        rintro e w1 ⟨rfl, rfl⟩
        clear HCP
        cases hC : InC 0 16 [t.cap] with
        | false =>
          rw [if_pos hC] at HRES
          clear HWW HTW HRU hC
          go_wp2
          go_ret
          exact ⟨by rw [HRES.out]; rfl, (bl_alloc (bl_alloc (bl_alloc (bl_alloc (Below.refl w.heap.size w)))))⟩
        | true =>
          rw [if_neg (fun h => by rw [hC] at h; cases h)] at HRES
          clear hC
          go_wp2_with fail
          refine (HWW.out _ (bl_alloc (bl_alloc (bl_alloc (bl_alloc (Below.refl w.heap.size w)))))).mono ?_
          rintro e w1 ⟨rfl, rfl⟩
          clear HWW
          cases hD : InC 1 48 wl with
          | false =>
            rw [if_pos hD] at HRES
            clear HTW HRU hD
            go_wp2
            go_ret
            exact ⟨by rw [HRES.out]; rfl, (bl_alloc (bl_alloc (bl_alloc (bl_alloc (Below.refl w.heap.size w)))))⟩
          | true =>
            rw [if_neg (fun h => by rw [hD] at h; cases h)] at HRES
            clear hD
            go_wp2_with fail
            refine (HTW.out _ (bl_alloc (bl_alloc (bl_alloc (bl_alloc (Below.refl w.heap.size w)))))).mono ?_
            rintro e w1 ⟨rfl, rfl⟩
            clear HTW
            cases hE : InC 0 ((aq.n : Int) - 1) t.al with
            | false =>
              rw [if_pos hE] at HRES
              clear HRU hE
              go_wp2
              go_ret
              exact ⟨by rw [HRES.out]; rfl, (bl_alloc (bl_alloc (bl_alloc (bl_alloc (Below.refl w.heap.size w)))))⟩
            | true =>
              rw [if_neg (fun h => by rw [hE] at h; cases h)] at HRES
              have HRU := hid (HRU.out hE)
              clear hE
              go_wp2_with fail
              refine (HRU.out _ (bl_alloc (bl_alloc (bl_alloc (bl_alloc (Below.refl w.heap.size w)))))).mono ?_
              rintro e w1 ⟨wa, wc, m, S, rfl, _, hrow, hsays, hb1, -⟩
              have HB1 := hid (bl_step (bl_alloc (bl_alloc (bl_alloc (bl_alloc (Below.refl w.heap.size w))))) hb1)
              have HROW := hid hrow
              have HSA := hid hsays
              have x4 : w1.cell? ⟨w.heap.size, 4, none⟩ = some (.int .i64 t.dflt) := cell_keep (past3 w _ _ _ _ _ 4 _ rfl) hb1
              have x5 : w1.cell? ⟨w.heap.size, 5, none⟩ = some (.slice t.args.a t.args.n t.args.c) := cell_keep (past3 w _ _ _ _ _ 5 _ rfl) hb1
              have hs1 : w.heap.size < w1.heap.size := World.block_lt_of_cell? w1 _ x4
              have hml : m.n ≤ 100000 := by
                have h1 := congrArg List.length HSA.out
                simp only [List.length_map, sayL, HROW.out.1, HAL.out] at h1
                omega
              have HHI : Hid (∀ o, (w1.alloc o).cell? ⟨w1.heap.size, 2, none⟩ = some (.slice m.a m.n m.c) → Calls Tryz.prog 27 #[.pointer (some ⟨w1.heap.size, 0, none⟩), .agg #[.int .i64 t.dflt, .slice t.args.a t.args.n t.args.c]] (w1.alloc o) (SayDone S t.dflt t.zs (w1.alloc o))) := fun o h2 =>
                qhit_any w1.heap.size m S t.dflt t.args.a t.args.n t.args.c t.zs (w1.alloc o) hml hzn h2 (HROW.out.step SayD.keeps (bl_alloc (Below.refl _ _))) ((HZ.out.step HB1.out).step (bl_alloc (Below.refl _ _)))
              clear HRU hb1 hrow hsays
              go_wp2_with fail
              refine (HHI.out _ ((World.cell?_alloc_at _ _ _ _ rfl).trans rfl)).mono ?_
              rintro e w2 ⟨C, rfl, hC, hb2⟩
              have HC := hid (says_is HSA.out hC)
              have HE := hid (bl_step (bl_alloc HB1.out) hb2)
              clear HHI hC hb2 HB1
              go_wp2
              go_ret
              exact ⟨by rw [HRES.out, ← HC.out]; rfl, HE.out⟩
end Go.Proofs.YtffbnggdckjogaaGreat
