/- Texts of one chain, joined: LEnts, LSteps, LOwn. -/
import Derived.Test.YtffbnggdckjogaaGreatG6
import Derived.Deep.RegionHeld3
namespace Go.Proofs.YtffbnggdckjogaaGreat
open Go.RowKit Mth
structure ED where
  ka : Option Addr
  kn : Nat
  kc : Nat
  ln : Int
  act : Int
  a : Option Addr
  n : Nat
  c : Nat
def ED.cells (d : ED) : List Value := [.slice d.ka d.kn d.kc, .slice none 0 0, .int .i64 d.ln, .int .i64 0, .int .i64 d.act, .slice d.a d.n d.c]
structure Ent where
  ks : List Int
  ln : Int
  ac : Int
  xs : List Int
def ED.good (d : ED) (w : World) (e : Ent) : Prop :=
  (d.ka = none → d.kn = 0 ∧ d.kc = 0) ∧ d.kn ≤ 1000 ∧ Has .u64 w d.ka d.kn e.ks ∧ d.ln = e.ln ∧ d.act = e.ac ∧ (d.a = none → d.n = 0 ∧ d.c = 0) ∧ d.n ≤ 1000 ∧ Has .u64 w d.a d.n e.xs
theorem ED.good.moved {d : ED} {w w' : World} {e : Ent} (h : d.good w e) (g : Moved w w') : d.good w' e :=
  ⟨h.1, h.2.1, g.has h.2.2.1, h.2.2.2.1, h.2.2.2.2.1, h.2.2.2.2.2.1, h.2.2.2.2.2.2.1, g.has h.2.2.2.2.2.2.2⟩
def ED.new (d : ED) (B : Nat) : Prop := From B d.ka d.kn ∧ From B d.a d.n
theorem ED.good.off {d : ED} {w w' : World} {e : Ent} {g B : Nat} (h : d.good w e) (f : d.new B) (hg : g < B) (hr : w.grownBy w' (some g)) : d.good w' e :=
  ⟨h.1, h.2.1, h.2.2.1.off f.1 hg hr, h.2.2.2.1, h.2.2.2.2.1, h.2.2.2.2.2.1, h.2.2.2.2.2.2.1, h.2.2.2.2.2.2.2.off f.2 hg hr⟩
abbrev NoEntry : Value := .agg #[.slice none 0 0, .slice none 0 0, .int .i64 0, .int .i64 0, .int .i64 0, .slice none 0 0]
theorem Tryz.infoEntry : (Tryz.prog.info? 38).map (fun i => (i.zero, i.size, i.bytes)) = some (some NoEntry, 6, 96) := by kernel_rfl
theorem flat_at (ds : List ED) (i j : Nat) (hi : i < ds.length) (hj : j < 6) : (ds.flatMap ED.cells)[6 * i + j]? = (ds[i]).cells[j]? := by
  induction ds generalizing i with
  | nil => simp at hi
  | cons d ds ih =>
    cases i with
    | zero =>
      simp only [List.flatMap_cons, Nat.mul_zero, Nat.zero_add, List.getElem_cons_zero]
      rw [List.getElem?_append_left (by simp [ED.cells]; omega)]
    | succ i =>
      simp only [List.flatMap_cons, List.getElem_cons_succ]
      rw [List.getElem?_append_right (by simp [ED.cells]; omega)]
      have : 6 * (i + 1) + j - (ED.cells d).length = 6 * i + j := by simp [ED.cells]; omega
      rw [this]
      exact ih i (by simpa using hi)
def ED.at (d : ED) (w : World) (g o : Nat) : Prop :=
  w.cell? ⟨g, o, none⟩ = some (.slice d.ka d.kn d.kc) ∧ w.cell? ⟨g, o + 1, none⟩ = some (.slice none 0 0) ∧ w.cell? ⟨g, o + 2, none⟩ = some (.int .i64 d.ln) ∧ w.cell? ⟨g, o + 3, none⟩ = some (.int .i64 0) ∧ w.cell? ⟨g, o + 4, none⟩ = some (.int .i64 d.act) ∧ w.cell? ⟨g, o + 5, none⟩ = some (.slice d.a d.n d.c)
theorem ED.at.moved {d : ED} {w w' : World} {g o : Nat} (h : d.at w g o) (m : Moved w w') : d.at w' g o := by
  obtain ⟨h0, h1, h2, h3, h4, h5⟩ := h
  have t := tight_slice d.ka d.kn d.kc
  exact ⟨m.cell h0 h0 t, m.cell h1 h0 t, m.cell h2 h0 t, m.cell h3 h0 t, m.cell h4 h0 t, m.cell h5 h0 t⟩
def Ents (w : World) (a : Option Addr) (n : Nat) (E : List Ent) : Prop :=
  E.length = n ∧ ∀ (i : Nat) (e : Ent), E[i]? = some e → ∃ g, ∃ d : ED, a = some ⟨g, 0, none⟩ ∧ d.at w g (i * 6) ∧ d.good w e
theorem Ents.moved {w w' : World} {a : Option Addr} {n : Nat} {E : List Ent} (h : Ents w a n E) (m : Moved w w') : Ents w' a n E := by
  refine ⟨h.1, fun i e he => ?_⟩
  obtain ⟨g, d, ea, hat, hg⟩ := h.2 i e he
  exact ⟨g, d, ea, hat.moved m, hg.moved m⟩
theorem stepE {ops : Array Oper} {o : Oper} {a : Act} {w : World} {K : Act → World → Prop} {Q : Exit → Act → World → Prop} {F : Prop} (hgd : o.guard = none) (s x : Operand)
    (ho : o.op = .call { callee := .builtin .append, args := #[s, x], argTypes := #[42, 42] }) (base g n cap : Nat) (xs news : List Value) (ad : Addr) (c : Nat)
    (hs : a.eval s = .slice (some ⟨g, 0, none⟩) n cap) (hx : a.eval x = .slice (some ad) 1 c) (hown : w.ownsRow base 38 6 (.slice (some ⟨g, 0, none⟩) n cap) n xs) (hl : news.length = 1 * 6) (hn : ∀ j u, news[j]? = some u → w.cell? (ad.add j) = some u) (h1 : ∀ u ∈ news, u.oneCell' = true)
    (hroom : n + 1 ≤ cap) (h : ∀ w', w'.ownsRow base 38 6 (.slice (some ⟨g, 0, none⟩) (n + 1) cap) (n + 1) (xs ++ news) → w.grownBy w' (some g) → K (a.put o.dst (.slice (some ⟨g, 0, none⟩) (n + 1) cap)) w') :
    if Region.wanted o (yielded ops a.tmps) = true then Oper.wp Tryz.prog o a w K Q else F := by
  have hw : Region.wanted o (yielded ops a.tmps) = true := by simp [Region.wanted, hgd]
  rw [if_pos hw]
  obtain ⟨i0, hi, hz0, hz1, hz2⟩ := info_parts Tryz.infoEntry
  obtain ⟨w', hrun, r1, r2⟩ := run_append_fits (P := Tryz.prog) w base 42 o.type 38 i0 6 Tryz.underlying42 hi hz1 g n cap xs hown ad 1 c news hl hn h1 hroom
  unfold Oper.wp execOp
  simp only [ho, resolve, invoke, builtin, Sem.run_bind, Sem.run_pure, Result.andThen_ok, List.map_toArray, List.map_cons, List.map_nil, hs, hx, hrun]
  exact h w' r1 r2
theorem six_cells (w : World) (d : ED) (t : TypeId) : ∀ (j : Nat) (u : Value), d.cells[j]? = some u → (w.alloc (.cells #[.slice d.ka d.kn d.kc, .slice none 0 0, .int .i64 d.ln, .int .i64 0, .int .i64 d.act, .slice d.a d.n d.c] t)).cell? ((⟨w.heap.size, 0, none⟩ : Addr).add j) = some u := by
  intro j u hj
  have hj6 : j < 6 := (List.getElem?_eq_some_iff.1 hj).1
  match j, hj6, hj with
  | 0, _, hj => simp [ED.cells] at hj; subst hj; simp [Addr.add]
  | 1, _, hj => simp [ED.cells] at hj; subst hj; simp [Addr.add]
  | 2, _, hj => simp [ED.cells] at hj; subst hj; simp [Addr.add]
  | 3, _, hj => simp [ED.cells] at hj; subst hj; simp [Addr.add]
  | 4, _, hj => simp [ED.cells] at hj; subst hj; simp [Addr.add]
  | 5, _, hj => simp [ED.cells] at hj; subst hj; simp [Addr.add]
theorem six_one (d : ED) : ∀ u ∈ d.cells, u.oneCell' = true := by
  intro u hu
  simp only [ED.cells, List.mem_cons, List.not_mem_nil, or_false] at hu
  rcases hu with rfl | rfl | rfl | rfl | rfl | rfl <;> rfl
def Out (w : World) (base g cap : Nat) (E : List Ent) : Prop :=
  ∃ ds : List ED, ds.length = E.length ∧ w.ownsRow base 38 6 (.slice (some ⟨g, 0, none⟩) E.length cap) E.length (ds.flatMap ED.cells) ∧ ∀ (i : Nat) (d : ED) (e : Ent), ds[i]? = some d → E[i]? = some e → d.good w e ∧ d.new (g + 1)
theorem Out.step {w w' : World} {base g cap : Nat} {E : List Ent} (h : Out w base g cap E) (hb : Below w.heap.size w w') : Out w' base g cap E := by
  obtain ⟨ds, hl, ho, hg⟩ := h
  exact ⟨ds, hl, owns_below ho hb, fun i d e hd he => ⟨(hg i d e hd he).1.moved (moved_below hb), (hg i d e hd he).2⟩⟩
theorem Out.push {w w5 w6 : World} {base g cap : Nat} {E : List Ent} {ds : List ED} {d : ED} {e : Ent} (hl : ds.length = E.length) (hg : ∀ (i : Nat) (d : ED) (e : Ent), ds[i]? = some d → E[i]? = some e → d.good w e ∧ d.new (g + 1)) (hB : Below w.heap.size w w5)
    (ho : w6.ownsRow base 38 6 (.slice (some ⟨g, 0, none⟩) (E.length + 1) cap) (E.length + 1) (ds.flatMap ED.cells ++ d.cells)) (hgr : w5.grownBy w6 (some g)) (hd : d.good w5 e) (hn : d.new (g + 1)) : Out w6 base g cap (E ++ [e]) := by
  have e1 : (E ++ [e]).length = E.length + 1 := by simp
  refine ⟨ds ++ [d], by simp [hl], by rw [e1]; simpa using ho, fun i d' e' hd' he' => ?_⟩
  by_cases hi : i < ds.length
  · rw [List.getElem?_append_left hi] at hd'
    rw [List.getElem?_append_left (by omega)] at he'
    obtain ⟨g1, g2⟩ := hg i d' e' hd' he'
    exact ⟨(g1.moved (moved_below hB)).off g2 (Nat.lt_succ_self _) hgr, g2⟩
  · rw [List.getElem?_append_right (Nat.le_of_not_lt hi)] at hd'
    rw [List.getElem?_append_right (by omega)] at he'
    have hi2 : i - ds.length = 0 := by
      have := (List.getElem?_eq_some_iff.1 hd').1
      simp at this
      omega
    rw [hi2] at hd'
    rw [← hl, hi2] at he'
    have ed : d = d' := by simpa using hd'
    have ee : e = e' := by simpa using he'
    subst ed; subst ee
    exact ⟨hd.off hn (Nat.lt_succ_self _) hgr, hn⟩
theorem Out.ents {w : World} {base g cap : Nat} {E : List Ent} (h : Out w base g cap E) : Ents w (some ⟨g, 0, none⟩) E.length E := by
  obtain ⟨ds, hl, ho, hg⟩ := h
  refine ⟨rfl, fun i e he => ?_⟩
  have hi : i < E.length := (List.getElem?_eq_some_iff.1 he).1
  have hd : ds[i]? = some (ds[i]'(by omega)) := List.getElem?_eq_getElem _
  refine ⟨g, ds[i]'(by omega), rfl, ?_, (hg i _ e hd he).1⟩
  have key : ∀ j, j < 6 → w.cell? ⟨g, i * 6 + j, none⟩ = (ds[i]'(by omega)).cells[j]? := by
    intro j hj
    rw [ho.cellAt (i * 6 + j) (by omega), Nat.mul_comm i 6]
    exact flat_at ds i j (by omega) hj
  exact ⟨key 0 (by omega), key 1 (by omega), key 2 (by omega), key 3 (by omega), key 4 (by omega), key 5 (by omega)⟩
end Go.Proofs.YtffbnggdckjogaaGreat

namespace Go.Proofs.YtffbnggdckjogaaGreat
open Go.RowKit Mth
structure SD where
  doo : Int
  ka : Option Addr
  kn : Nat
  kc : Nat
  ks : List Int
  ma : Option Addr
  mn : Nat
  mc : Nat
  ms : List Int
  ln : Int
  pr : Int
  ac : Int
  a : Option Addr
  n : Nat
  c : Nat
  xs : List Int
def SD.ok (d : SD) (w : World) : Prop := (d.ka = none → d.kn = 0 ∧ d.kc = 0) ∧ Has .u64 w d.ka d.kn d.ks ∧ (d.ma = none → d.mn = 0 ∧ d.mc = 0) ∧ Has .u64 w d.ma d.mn d.ms ∧ (d.a = none → d.n = 0 ∧ d.c = 0) ∧ Has .u64 w d.a d.n d.xs
def SD.at (d : SD) (w : World) (g o : Nat) : Prop :=
  w.cell? ⟨g, o, none⟩ = some (.int .i64 d.doo) ∧ w.cell? ⟨g, o + 1, none⟩ = some (.slice d.ka d.kn d.kc) ∧ w.cell? ⟨g, o + 2, none⟩ = some (.slice d.ma d.mn d.mc) ∧ w.cell? ⟨g, o + 3, none⟩ = some (.int .i64 d.ln) ∧ w.cell? ⟨g, o + 4, none⟩ = some (.int .i64 d.pr) ∧ w.cell? ⟨g, o + 5, none⟩ = some (.int .i64 d.ac) ∧ w.cell? ⟨g, o + 6, none⟩ = some (.slice d.a d.n d.c)
def Steps (w : World) (a : Option Addr) (n : Nat) (S : List SD) : Prop :=
  S.length = n ∧ ∀ (i : Nat) (d : SD), S[i]? = some d → ∃ g off, a = some ⟨g, off, none⟩ ∧ d.at w g (off + i * 7) ∧ d.ok w
theorem SD.at.moved {d : SD} {w w' : World} {g o : Nat} (h : d.at w g o) (m : Moved w w') : d.at w' g o := by
  obtain ⟨h0, h1, h2, h3, h4, h5, h6⟩ := h
  have t := tight_slice d.ka d.kn d.kc
  exact ⟨m.cell h0 h1 t, m.cell h1 h1 t, m.cell h2 h1 t, m.cell h3 h1 t, m.cell h4 h1 t, m.cell h5 h1 t, m.cell h6 h1 t⟩
theorem SD.ok.moved {d : SD} {w w' : World} (h : d.ok w) (m : Moved w w') : d.ok w' := by
  obtain ⟨h0, h1, h2, h3, h4, h5⟩ := h
  exact ⟨h0, m.has h1, h2, m.has h3, h4, m.has h5⟩
theorem Steps.moved {w w' : World} {a : Option Addr} {n : Nat} {S : List SD} (h : Steps w a n S) (m : Moved w w') : Steps w' a n S := by
  refine ⟨h.1, fun i d hd => ?_⟩
  obtain ⟨g, off, e, h0, h1⟩ := h.2 i d hd
  exact ⟨g, off, e, h0.moved m, h1.moved m⟩
theorem Steps.step {w w' : World} {a : Option Addr} {n : Nat} {S : List SD} (h : Steps w a n S) (hb : Below w.heap.size w w') : Steps w' a n S := h.moved (moved_below hb)
def SD.small (d : SD) : Prop := d.kn ≤ 20 ∧ d.mn ≤ 20 ∧ d.n ≤ 20
def Told (n : Nat) (S : List SD) (e : Ending) : Prop := e = .returned (.bool true) ∨ (e = .returned (.bool false) ∧ n ≤ 200 ∧ ∀ d ∈ S, d.small)
set_option maxHeartbeats 1000000 in
set_option maxRecDepth 20000 in
theorem lgreat_any {w : World} {a : Option Addr} {n c : Nat} {S : List SD} (h : Steps w a n S) :
    Calls Tryz.prog 6 #[.slice a n c] w fun e w' => Told n S e ∧ w' = w := by
  have HS := hid h
  have hlen := h.1
  clear h
  by_cases h200 : (200 : Int) < (n : Int)
  · go_enter Tryz.func6, Tryz.ntmps6
    go_wp2
    go_ret
    exact ⟨.inl rfl, rfl⟩
  · go_enter Tryz.func6, Tryz.ntmps6
    go_wp2
    go_loop [3] (fun q => ∃ k : Nat, k ≤ n ∧ q = .int .i64 k ∧ Hid (∀ i d, i < k → S[i]? = some d → d.small)) (fun q => n - (intOf q).toNat)
    case atStart => exact ⟨0, Nat.zero_le _, rfl, fun i d hi => absurd hi (Nat.not_lt_zero _)⟩
    case round =>
      obtain ⟨k, hk, rfl, hsm⟩ := hrel
      by_cases hlt : k < n
      · have hd : S[k]? = some (S[k]'(by omega)) := List.getElem?_eq_getElem _
        obtain ⟨g, off, rfl, ⟨h0, h1, h2, h3, h4, h5, h6⟩, _⟩ := HS.out.2 k _ hd
        have HD := hid hd
        clear hd HS
        generalize S[k]'(by omega) = d at *
        have hki : (k : Int) < (n : Int) := by omega
        by_cases e1 : (20 : Int) < (d.kn : Int)
        · go_wp2
          go_ret
          exact ⟨.inl rfl, rfl⟩
        · by_cases e2 : (20 : Int) < (d.mn : Int)
          · go_wp2
            go_ret
            exact ⟨.inl rfl, rfl⟩
          · by_cases e3 : (20 : Int) < (d.n : Int)
            · go_wp2
              go_ret
              exact ⟨.inl rfl, rfl⟩
            · have HE := hid (And.intro e1 (And.intro e2 e3))
              go_wp2
              go_round
              case rel => exact ⟨k + 1, by omega, by go_num, fun i d' hi hd' => by
                by_cases e : i = k
                · subst e
                  have e' : d = d' := by simpa using HD.out.symm.trans hd'
                  subst e'
                  have := HE.out
                  exact ⟨by omega, by omega, by omega⟩
                · exact hsm.out i d' (by omega) hd'⟩
              case measure => simp [intOf]; omega
      · go_wp2
        go_ret
        exact ⟨.inr ⟨rfl, by omega, fun d hd => by
          obtain ⟨i, hi, rfl⟩ := List.getElem_of_mem hd
          exact hsm.out i _ (by omega) (List.getElem?_eq_getElem hi)⟩, rfl⟩
end Go.Proofs.YtffbnggdckjogaaGreat

namespace Go.Proofs.YtffbnggdckjogaaGreat
open Go.RowKit Mth
abbrev EC (ka : Option Addr) (kn kc : Nat) (ma : Option Addr) (mn mc : Nat) (ln pr ac : Int) (a : Option Addr) (n c : Nat) : Obj := .cells #[.slice ka kn kc, .slice ma mn mc, .int .i64 ln, .int .i64 pr, .int .i64 ac, .slice a n c] 38
theorem keep6 {w w' : World} {s : Nat} {x0 x1 x2 x3 x4 x5 : Value} (h : w.cell? ⟨s, 0, none⟩ = some x0 ∧ w.cell? ⟨s, 1, none⟩ = some x1 ∧ w.cell? ⟨s, 2, none⟩ = some x2 ∧ w.cell? ⟨s, 3, none⟩ = some x3 ∧ w.cell? ⟨s, 4, none⟩ = some x4 ∧ w.cell? ⟨s, 5, none⟩ = some x5) (hb : Below w.heap.size w w') :
    w'.cell? ⟨s, 0, none⟩ = some x0 ∧ w'.cell? ⟨s, 1, none⟩ = some x1 ∧ w'.cell? ⟨s, 2, none⟩ = some x2 ∧ w'.cell? ⟨s, 3, none⟩ = some x3 ∧ w'.cell? ⟨s, 4, none⟩ = some x4 ∧ w'.cell? ⟨s, 5, none⟩ = some x5 := by
  have hs := World.block_lt_of_cell? w _ h.1
  have cs : ∀ i, w'.cell? ⟨s, i, none⟩ = w.cell? ⟨s, i, none⟩ := fun i => hb.cell (p := ⟨s, i, none⟩) hs
  rw [cs, cs, cs, cs, cs, cs]
  exact h
structure Six (w : World) (s : Nat) (x0 x1 x2 x3 x4 x5 : Value) : Prop where
  k0 : w.cell? ⟨s, 0, none⟩ = some x0
  k1 : w.cell? ⟨s, 1, none⟩ = some x1
  k2 : w.cell? ⟨s, 2, none⟩ = some x2
  k3 : w.cell? ⟨s, 3, none⟩ = some x3
  k4 : w.cell? ⟨s, 4, none⟩ = some x4
  k5 : w.cell? ⟨s, 5, none⟩ = some x5
  f0 : w.frozen? ⟨s, 0, none⟩ = false
  f1 : w.frozen? ⟨s, 1, none⟩ = false
  f2 : w.frozen? ⟨s, 2, none⟩ = false
  f3 : w.frozen? ⟨s, 3, none⟩ = false
  f4 : w.frozen? ⟨s, 4, none⟩ = false
  f5 : w.frozen? ⟨s, 5, none⟩ = false
theorem Six.step {w w' : World} {s : Nat} {x0 x1 x2 x3 x4 x5 : Value} (t : Six w s x0 x1 x2 x3 x4 x5) (h : Below w.heap.size w w') : Six w' s x0 x1 x2 x3 x4 x5 := by
  have hs := World.block_lt_of_cell? w _ t.k0
  have cs : ∀ i, w'.cell? ⟨s, i, none⟩ = w.cell? ⟨s, i, none⟩ := fun i => h.cell (p := ⟨s, i, none⟩) hs
  have cf : ∀ i, w'.frozen? ⟨s, i, none⟩ = w.frozen? ⟨s, i, none⟩ := fun i => h.frozen (p := ⟨s, i, none⟩) hs
  exact ⟨(cs 0).trans t.k0, (cs 1).trans t.k1, (cs 2).trans t.k2, (cs 3).trans t.k3, (cs 4).trans t.k4, (cs 5).trans t.k5, (cf 0).trans t.f0, (cf 1).trans t.f1, (cf 2).trans t.f2, (cf 3).trans t.f3, (cf 4).trans t.f4, (cf 5).trans t.f5⟩
theorem Six.moved {w w' : World} {s : Nat} {x0 x1 x2 x3 x4 x5 : Value} (t : Six w s x0 x1 x2 x3 x4 x5) (h : Moved w w') (hx : ¬ Loose x0) : Six w' s x0 x1 x2 x3 x4 x5 :=
  ⟨h.cell t.k0 t.k0 hx, h.cell t.k1 t.k0 hx, h.cell t.k2 t.k0 hx, h.cell t.k3 t.k0 hx, h.cell t.k4 t.k0 hx, h.cell t.k5 t.k0 hx, (h.frozen t.k0 hx).trans t.f0, (h.frozen t.k0 hx).trans t.f1, (h.frozen t.k0 hx).trans t.f2, (h.frozen t.k0 hx).trans t.f3, (h.frozen t.k0 hx).trans t.f4, (h.frozen t.k0 hx).trans t.f5⟩
theorem six_new (w : World) (x0 x1 x2 x3 x4 x5 : Value) (t : TypeId) : Six (w.alloc (.cells #[x0, x1, x2, x3, x4, x5] t)) w.heap.size x0 x1 x2 x3 x4 x5 :=
  ⟨by simp, by simp, by simp, by simp, by simp, by simp, by simp, by simp, by simp, by simp, by simp, by simp⟩
theorem Has.far {w : World} {a : Option Addr} {n B r o : Nat} {zs : List Int} (h : Has .u64 w a n zs) (f : From B a n) (hr : r < B) (v : Value) : Has .u64 (w.setCell ⟨r, o, none⟩ v) a n zs := by
  refine ⟨h.1, h.2.1, ?_⟩
  by_cases h0 : 0 < n
  · obtain ⟨b, off, rfl, hlt, hc⟩ := h.some h0
    obtain ⟨b', off', e, hb, _⟩ := f h0
    simp only [Option.some.injEq, Addr.mk.injEq] at e
    obtain ⟨rfl, rfl, _⟩ := e
    refine .inr ⟨b, off, rfl, by simpa [World.setCell] using hlt, fun i hi => ?_⟩
    rw [World.cell?_setCell_other _ _ _ _ (fun e => by have := congrArg Addr.block e; simp only at this; omega)]
    exact hc i hi
  · exact .inl (List.eq_nil_of_length_eq_zero (by have := h.1; omega))
def Lst (w : World) (B : Nat) (a : Option Addr) (n c : Nat) (zs : List Int) : Prop := (a = none → n = 0 ∧ c = 0) ∧ n ≤ c ∧ Has .u64 w a n zs ∧ From B a n
theorem Lst.moved {w w' : World} {B : Nat} {a : Option Addr} {n c : Nat} {zs : List Int} (h : Lst w B a n c zs) (m : Moved w w') : Lst w' B a n c zs := ⟨h.1, h.2.1, m.has h.2.2.1, h.2.2.2⟩
theorem Lst.mono {w : World} {B B' : Nat} {a : Option Addr} {n c : Nat} {zs : List Int} (h : Lst w B a n c zs) (hB : B' ≤ B) : Lst w B' a n c zs := ⟨h.1, h.2.1, h.2.2.1, h.2.2.2.mono hB⟩
theorem six_set {w : World} {s : Nat} {x0 x1 x2 x3 x4 x5 : Value} (t : Six w s x0 x1 x2 x3 x4 x5) (v0 v1 v2 v3 v4 v5 : Value) :
    Six ((((((w.setCell ⟨s, 0, none⟩ v0).setCell ⟨s, 1, none⟩ v1).setCell ⟨s, 2, none⟩ v2).setCell ⟨s, 3, none⟩ v3).setCell ⟨s, 4, none⟩ v4).setCell ⟨s, 5, none⟩ v5) s v0 v1 v2 v3 v4 v5 := by
  have k0 := t.k0
  have k1 := t.k1
  have k2 := t.k2
  have k3 := t.k3
  have k4 := t.k4
  have k5 := t.k5
  have f0 := t.f0
  have f1 := t.f1
  have f2 := t.f2
  have f3 := t.f3
  have f4 := t.f4
  have f5 := t.f5
  refine ⟨?_, ?_, ?_, ?_, ?_, ?_, by simpa using f0, by simpa using f1, by simpa using f2, by simpa using f3, by simpa using f4, by simpa using f5⟩ <;> simp [go_sem, k0, k1, k2, k3, k4, k5]
abbrev EV (ka : Option Addr) (kn kc : Nat) (ma : Option Addr) (mn mc : Nat) (ln pr ac : Int) (a : Option Addr) (n c : Nat) : Value := .agg #[.slice ka kn kc, .slice ma mn mc, .int .i64 ln, .int .i64 pr, .int .i64 ac, .slice a n c]
end Go.Proofs.YtffbnggdckjogaaGreat
