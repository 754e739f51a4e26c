/- Texts of one chain, joined: MCopy, MIns, MIns2. -/
import Derived.Test.YtffbnggdckjogaaGreatG16
import Derived.Test.YtffbnggdckjogaaGreatG17
import Derived.Lib.AppendZerosOnto
import Derived.Lib.Overlaps
import Derived.Laws.Externs
namespace Go.Proofs.YtffbnggdckjogaaGreat
open Go.RowKit Mth
def ListDone (w w' : World) (n : Nat) (zs : List Int) (e : Ending) : Prop := ∃ a c, e = .returned (.slice a n c) ∧ Lst w' w.heap.size a n c zs ∧ Below w.heap.size w w'
theorem lst_of_own {w w' : World} {v : Value} {n : Nat} {zs : List Int} (ho : w'.ownsRow w.heap.size 63 1 v n (UU zs)) (hz : ∀ n ∈ zs, 0 ≤ n ∧ n < 18446744073709551616) : ∃ a c, v = .slice a n c ∧ Lst w' w.heap.size a n c zs := by
  obtain ⟨a, c, rfl, hc, hn⟩ := own_is ho
  exact ⟨a, c, rfl, hn, hc, has_own64 ho hz, own_from ho⟩
set_option maxHeartbeats 1000000 in
set_option maxRecDepth 20000 in
theorem list_any {w : World} {a : Option Addr} {n c : Nat} {zs : List Int} (hn : a = none → n = 0 ∧ c = 0) (hz : Has .u64 w a n zs) (h3 : n ≤ 1000) :
    Calls Tryz.prog 132 #[.slice a n c] w fun e w' => ListDone w w' n zs e := by
  have HN := hid hn
  have HZ := hid hz
  clear hn hz
  go_enter Tryz.func132, Tryz.ntmps132
  go_wp2_with (at_builtin; refine copy64_law rfl _ _ rfl rfl _ _ _ zs rfl HN.out ?c1 ?c2 ?_)
  case c1 => exact HZ.out
  case c2 => omega
  intro v w1 ho hb
  obtain ⟨a', c', rfl, hl⟩ := lst_of_own ho HZ.out.nums
  have HL := hid hl
  have HB := hid hb
  clear ho hl hb
  go_wp2
  go_ret
  exact ⟨a', c', rfl, HL.out, HB.out⟩
def CopyDone (w w' : World) (e : TE) (r : Ending) : Prop := ∃ d : MD, r = .returned d.ev ∧ d.good w' e ∧ d.new w.heap.size ∧ d.ln = 0 ∧ Below w.heap.size w w'
theorem MD.new.mono {d : MD} {B B' : Nat} (h : d.new B) (hB : B' ≤ B) : d.new B' := ⟨h.1.mono hB, h.2.1.mono hB, h.2.2.mono hB⟩
set_option maxHeartbeats 4000000 in
set_option maxRecDepth 20000 in
theorem mcopied_any {w : World} {f : MD} {e : TE} (hf : f.good w e) :
    Calls Tryz.prog 124 #[f.ev] w fun r w' => CopyDone w w' e r := by
  have hb0 : Below w.heap.size w ((w.alloc f.ec).alloc (EC none 0 0 none 0 0 0 0 0 none 0 0)) := bl_alloc (bl_alloc (Below.refl _ _))
  have hb1 : Below ((w.alloc f.ec).alloc (EC none 0 0 none 0 0 0 0 0 none 0 0)).heap.size ((w.alloc f.ec).alloc (EC none 0 0 none 0 0 0 0 0 none 0 0)) ((w.alloc f.ec).alloc (EC none 0 0 none 0 0 0 0 0 none 0 0)).drew := (Below.refl _ _).drew
  have HF := hid ((hf.step hb0).step hb1)
  have LK := hid (list_any (c := f.kc) hf.kn0 HF.out.ks hf.ks3)
  have T1 : Six ((w.alloc f.ec).alloc (EC none 0 0 none 0 0 0 0 0 none 0 0)) w.heap.size (.slice f.ka f.kn f.kc) (.slice f.ma f.mn f.mc) (.int .i64 f.ln) (.int .i64 f.pr) (.int .i64 f.ac) (.slice f.a f.n f.c) := Six.step (six_new w _ _ _ _ _ _ _) (bl_alloc (Below.refl _ _))
  have R1 := six_new (w.alloc f.ec) (.slice none 0 0) (.slice none 0 0) (.int .i64 0) (.int .i64 0) (.int .i64 0) (.slice none 0 0) 38
  rw [show (w.alloc f.ec).heap.size = w.heap.size + 1 from by simp] at R1
  have HR : Hid (Six ((w.alloc f.ec).alloc (EC none 0 0 none 0 0 0 0 0 none 0 0)) (w.heap.size + 1) (.slice none 0 0) (.slice none 0 0) (.int .i64 0) (.int .i64 0) (.int .i64 0) (.slice none 0 0)) := R1
  have HB0 := hid hb0
  have HB1 := hid hb1
  clear hf hb0 hb1 R1
  obtain ⟨k0, k1, k2, k3, k4, k5, -, -, -, -, -, -⟩ := T1
  go_enter Tryz.func124, Tryz.ntmps124
  go_wp2
  generalize (w.alloc f.ec).alloc (EC none 0 0 none 0 0 0 0 0 none 0 0) = w0 at *
  go_region_held3 (fun w' => w'.cell? ⟨w.heap.size, 0, none⟩ = some (.slice f.ka f.kn f.kc) ∧ w'.cell? ⟨w.heap.size, 1, none⟩ = some (.slice f.ma f.mn f.mc) ∧ w'.cell? ⟨w.heap.size, 2, none⟩ = some (.int .i64 f.ln) ∧ w'.cell? ⟨w.heap.size, 3, none⟩ = some (.int .i64 f.pr) ∧ w'.cell? ⟨w.heap.size, 4, none⟩ = some (.int .i64 f.ac) ∧ w'.cell? ⟨w.heap.size, 5, none⟩ = some (.slice f.a f.n f.c))
    (first
      | go_keep
      | (go_split_ands
         first
         | exact keep6 ⟨by assumption, by assumption, by assumption, by assumption, by assumption, by assumption⟩ hbk
         | exact keep6 ⟨by assumption, by assumption, by assumption, by assumption, by assumption, by assumption⟩ hbm
         | exact keep6 ⟨by assumption, by assumption, by assumption, by assumption, by assumption, by assumption⟩ hba))
    (first
      | (go_at_call 132; (with_reducible refine LK.out.mono ?_); rintro r wk ⟨ak, ck, rfl, lk, hbk⟩; have LM := hid (list_any (c := f.mc) HF.out.mn0 (HF.out.ms.step hbk) HF.out.ms3))
      | (go_at_call 132; (with_reducible refine LM.out.mono ?_); rintro r wm ⟨am, cm, rfl, lm, hbm⟩; have LA := hid (list_any (c := f.c) HF.out.n0 ((HF.out.xs.step hbk).step hbm) HF.out.xs3))
      | (go_at_call 132; (with_reducible refine LA.out.mono ?_); rintro r wa ⟨aa, ca, rfl, la, hba⟩; obtain ⟨_, _, _, _, _, _, _, _, _, _, _, _⟩ := ((((HR.out.step HB1.out).step hbk).step hbm).step hba)))
  all_goals
    have hlt : w.heap.size + 1 < w0.drew.heap.size := World.block_lt_of_cell? w0.drew _ (HR.out.step HB1.out).k0
    have e1 : w0.drew.heap.size ≤ wk.heap.size := hbk.size
    have e2 : wk.heap.size ≤ wm.heap.size := hbm.size
    have hS := six_set ((((HR.out.step HB1.out).step hbk).step hbm).step hba) (.slice ak f.kn ck) (.slice am f.mn cm) (.int .i64 0) (.int .i64 f.pr) (.int .i64 f.ac) (.slice aa f.n ca)
    have hB : Below w.heap.size w wa := bl_step (bl_step (bl_step (bl_step HB0.out HB1.out) hbk) hbm) hba
    have l1 := ((lk.step hbm).step hba).set6 (r := w.heap.size + 1) (B' := w.heap.size) hlt (.slice ak f.kn ck) (.slice am f.mn cm) (.int .i64 0) (.int .i64 f.pr) (.int .i64 f.ac) (.slice aa f.n ca) (by omega)
    have l2 := (lm.step hba).set6 (r := w.heap.size + 1) (B' := w.heap.size) (by omega) (.slice ak f.kn ck) (.slice am f.mn cm) (.int .i64 0) (.int .i64 f.pr) (.int .i64 f.ac) (.slice aa f.n ca) (by omega)
    have l3 := la.set6 (r := w.heap.size + 1) (B' := w.heap.size) (by omega) (.slice ak f.kn ck) (.slice am f.mn cm) (.int .i64 0) (.int .i64 f.pr) (.int .i64 f.ac) (.slice aa f.n ca) (by omega)
    have hB6 := below_six hB (r := w.heap.size + 1) (by omega) (.slice ak f.kn ck) (.slice am f.mn cm) (.int .i64 0) (.int .i64 f.pr) (.int .i64 f.ac) (.slice aa f.n ca)
    have HE : Hid (CopyDone w _ e (.returned (EV ak f.kn ck am f.mn cm 0 f.pr f.ac aa f.n ca))) := ⟨⟨ak, f.kn, ck, am, f.mn, cm, 0, f.pr, f.ac, aa, f.n, ca⟩, rfl, ⟨l1.1, HF.out.ks3, l1.2.2.1, l2.1, HF.out.ms3, l2.2.2.1, HF.out.pr, HF.out.ac, l3.1, HF.out.xs3, l3.2.2.1⟩, ⟨l1.2.2.2, l2.2.2.2, l3.2.2.2⟩, rfl, hB6⟩
    obtain ⟨s0, s1, s2, s3, s4, s5, -, -, -, -, -, -⟩ := hS
    clear lk lm la l1 l2 l3 hB hB6 hbk hbm hba
    go_wp2
    exact bodyPost_ret (v := EV ak f.kn ck am f.mn cm 0 f.pr f.ac aa f.n ca) (by simp [results, Tryz.results124, go_sem, s0, s1, s2, s3, s4, s5]) rfl HE.out
end Go.Proofs.YtffbnggdckjogaaGreat

namespace Go.Proofs.YtffbnggdckjogaaGreat
open Go.RowKit Mth
def RowAt (w : World) (g : Nat) (cur : List Value) : Prop := w.heap[g]? = some (.cells cur.toArray 38 (0, 0))
theorem RowAt.cell {w : World} {g : Nat} {cur : List Value} (h : RowAt w g cur) (j : Nat) : w.cell? ⟨g, j, none⟩ = cur[j]? := by
  unfold RowAt at h
  simp [World.cell?, h]
theorem grown_setRow (w : World) (g : Nat) (cs : Array Value) : w.grownBy (w.setRow g cs) (some g) :=
  ⟨rfl, rfl, rfl, by rw [setRow_size]; exact Nat.le_refl _, fun k _ hk => setRow_other w g k cs (fun e => hk (by rw [e]))⟩
theorem run_copy6 {w : World} {g : Nat} {cur : List Value} (hg : RowAt w g cur) (ty : TypeId) (o dLen dCap : Nat) (a : Addr) (sLen sCap m : Nat) (cs : List Value) (hm : m = Nat.min sLen dLen) (hn : cs.length = m * 6)
    (hsrc : ∀ j v, cs[j]? = some v → w.cell? (a.add j) = some v) (hfit : o + cs.length ≤ cur.length) (h1 : ∀ v ∈ cs, v.oneCell' = true) :
    (Builtin.copy_ #[42, 42] ty #[.slice (some ⟨g, o, none⟩) dLen dCap, .slice (some a) sLen sCap]).run Tryz.prog w =
      .ok (goInt m) (w.setRow g (cur.take o ++ cs ++ cur.drop (o + cs.length)).toArray) := by
  obtain ⟨i0, hi, -, hz1, -⟩ := info_parts Tryz.infoEntry
  have hl := run_loadCells_list (P := Tryz.prog) w a cs hsrc
  have hst := run_storeCells_at Tryz.prog g o 38 cs 0 cur.toArray w hg (by simpa using hfit) h1
  simp only [Nat.add_zero] at hst
  rw [hn] at hl
  simp [Builtin.copy_, run_underlying Tryz.underlying42, Builtin.lenOf, Builtin.firstCells, sizeOf, typeInfo, hi, hz1, ← hm, hl, hst]
theorem step_copy6 {ops : Array Oper} {o : Oper} {a : Act} {w : World} {K : Act → World → Prop} {Q : Exit → Act → World → Prop} {E : Prop} (hgd : o.guard = none) (d x : Operand)
    (hop : o.op = Op.call { callee := Callee.builtin Builtin.copy, args := #[d, x], argTypes := #[42, 42] })
    {g : Nat} {cur : List Value} (hg : RowAt w g cur) (of dLen dCap : Nat) (ad : Addr) (sLen sCap m : Nat) (cs : List Value) (hd : a.eval d = .slice (some ⟨g, of, none⟩) dLen dCap) (hx : a.eval x = .slice (some ad) sLen sCap) (hm : m = Nat.min sLen dLen) (hn : cs.length = m * 6)
    (hsrc : ∀ j v, cs[j]? = some v → w.cell? (ad.add j) = some v) (hfit : of + cs.length ≤ cur.length) (h1 : ∀ v ∈ cs, v.oneCell' = true)
    (h : ∀ w', RowAt w' g (cur.take of ++ cs ++ cur.drop (of + cs.length)) → w.grownBy w' (some g) → K (a.put o.dst (goInt m)) w') :
    if Region.wanted o (yielded ops a.tmps) = true then Oper.wp Tryz.prog o a w K Q else E := by
  have hw : Region.wanted o (yielded ops a.tmps) = true := by simp [Region.wanted, hgd]
  rw [if_pos hw]
  have hr := run_copy6 hg o.type of dLen dCap ad sLen sCap m cs hm hn hsrc hfit h1
  unfold Oper.wp execOp
  simp only [hop, resolve, invoke, builtin, Sem.run_bind, Sem.run_pure, Result.andThen_ok, List.map_toArray, List.map_cons, List.map_nil, hd, hx, hr]
  exact h _ (setRow_heap w g _ _ _ _ hg) (grown_setRow _ _ _)
theorem ins_list (cur xs d : List Value) (A R : Nat) (hxs : cur.take (A + R) = xs) (hl : xs.length = A + R) (hc : A + R + 6 ≤ cur.length) (hd : d.length = 6) :
    (((cur.take (A + 6) ++ xs.drop A ++ cur.drop (A + 6 + R)).take A ++ d ++ (cur.take (A + 6) ++ xs.drop A ++ cur.drop (A + 6 + R)).drop (A + 6)).take (A + R + 6)) = xs.take A ++ d ++ xs.drop A := by
  have e1 : (cur.take (A + 6) ++ xs.drop A ++ cur.drop (A + 6 + R)).take A = xs.take A := by
    rw [List.append_assoc, List.take_append_of_le_length (by simp; omega), List.take_take, ← hxs, List.take_take]
    congr 1
    omega
  have e2 : (cur.take (A + 6) ++ xs.drop A ++ cur.drop (A + 6 + R)).drop (A + 6) = xs.drop A ++ cur.drop (A + 6 + R) := by
    rw [List.append_assoc, List.drop_append_of_le_length (by simp; omega), List.drop_eq_nil_of_le (by simp; omega), List.nil_append]
  rw [e1, e2, ← List.append_assoc]
  rw [List.take_append_of_le_length (by simp; omega), List.take_of_length_le (by simp; omega)]
theorem ins_list2 (cur xs d : List Value) (A R : Nat) (hxs : cur.take A = xs.take A) (hl : xs.length = A + R) (hc : A + R + 6 ≤ cur.length) (hd : d.length = 6) :
    (((cur.take A ++ d ++ cur.drop (A + 6)).take (A + 6) ++ xs.drop A ++ (cur.take A ++ d ++ cur.drop (A + 6)).drop (A + 6 + R)).take (A + R + 6)) = xs.take A ++ d ++ xs.drop A := by
  have e1 : (cur.take A ++ d ++ cur.drop (A + 6)).take (A + 6) = xs.take A ++ d := by
    rw [List.take_append_of_le_length (by simp; omega), List.take_of_length_le (by simp; omega), hxs]
  rw [e1]
  rw [List.take_append_of_le_length (by simp; omega), List.take_of_length_le (by simp; omega)]
end Go.Proofs.YtffbnggdckjogaaGreat

namespace Go.Proofs.YtffbnggdckjogaaGreat
open Go.RowKit Mth
def InsDone (w w' : World) (B : Nat) (la : Option Addr) (n cap : Nat) (ys : List Value) (r : Ending) : Prop :=
  ∃ g cap', r = .returned (.slice (some ⟨g, 0, none⟩) (n + 1) cap') ∧ w'.ownsRow B 38 6 (.slice (some ⟨g, 0, none⟩) (n + 1) cap') (n + 1) ys ∧ w.grownBy w' (Value.slice la n cap).ownBlock ∧ (la = some ⟨g, 0, none⟩ ∨ w.heap.size ≤ g)
theorem own_some {w : World} {B n cap : Nat} {la : Option Addr} {xs : List Value} (h : w.ownsRow B 38 6 (.slice la n cap) n xs) : (la = none ∧ n = 0 ∧ cap = 0) ∨ ∃ g cur, la = some ⟨g, 0, none⟩ ∧ B ≤ g ∧ g < w.heap.size ∧ RowAt w g cur ∧ n ≤ cap ∧ cap ≤ maxLen ∧ cur.length = cap * 6 ∧ cur.take (n * 6) = xs := by
  rcases h.2 with ⟨e1, e2⟩ | ⟨g, cap', cur, e, hb, hh, h1, h2, h3, h4⟩
  · simp only [Value.slice.injEq] at e1
    exact .inl ⟨e1.1, e2, e1.2.2⟩
  · simp only [Value.slice.injEq, true_and] at e
    obtain ⟨rfl, rfl⟩ := e
    exact .inr ⟨g, cur.toList, rfl, hb, (Array.getElem?_eq_some_iff.1 hh).1, by unfold RowAt; simpa using hh, h1, h2, by simpa using h3, h4⟩
theorem own6v {w : World} {Z n : Nat} {v : Value} {xs : List Value} (h : w.ownsRow Z 38 6 v n xs) (h0 : 0 < n) : ∃ g c, v = .slice (some ⟨g, 0, none⟩) n c := by
  rcases h.2 with ⟨rfl, rfl⟩ | ⟨g, c, cur, rfl, _⟩
  · omega
  · exact ⟨g, c, rfl⟩
theorem rowAt_src {w : World} {g o : Nat} {cur cs : List Value} (h : RowAt w g cur) (hc : ∀ j v, cs[j]? = some v → cur[o + j]? = some v) : ∀ j v, cs[j]? = some v → w.cell? ((⟨g, o, none⟩ : Addr).add j) = some v := fun j v hj => by
  rw [Addr.add_lit, h.cell]
  exact hc j v hj
structure Fr (w w' : World) (p o : Nat) : Prop where
  size : w.heap.size ≤ w'.heap.size
  kept : ∀ k, k < w.heap.size → k ≠ p → (∀ g n c, w.cell? ⟨p, o, none⟩ = some (.slice (some ⟨g, 0, none⟩) n c) → k ≠ g) → w'.heap[k]? = w.heap[k]?
  new : ∀ g n c, w'.cell? ⟨p, o, none⟩ = some (.slice (some ⟨g, 0, none⟩) n c) → (∃ n' c', w.cell? ⟨p, o, none⟩ = some (.slice (some ⟨g, 0, none⟩) n' c')) ∨ w.heap.size ≤ g
theorem fr_below {w w' : World} {p o : Nat} (hb : Below w.heap.size w w') (hp : p < w.heap.size) : Fr w w' p o :=
  ⟨hb.size, fun k hk _ _ => hb.block k hk, fun _ n c h => .inl ⟨n, c, (hb.cell (p := ⟨p, o, none⟩) hp).symm.trans h⟩⟩
theorem Fr.after {w wA w' : World} {p o : Nat} (hb : Below w.heap.size w wA) (hp : p < w.heap.size) (h : Fr wA w' p o) : Fr w w' p o := by
  have hc : wA.cell? ⟨p, o, none⟩ = w.cell? ⟨p, o, none⟩ := hb.cell (p := ⟨p, o, none⟩) hp
  refine ⟨Nat.le_trans hb.size h.size, fun k hk hkp hkg => ?_, fun g n c hg => ?_⟩
  · rw [h.kept k (Nat.lt_of_lt_of_le hk hb.size) hkp (fun g n c hg => hkg g n c (by rw [← hc]; exact hg))]
    exact hb.block k hk
  · rcases h.new g n c hg with ⟨n', c', h1⟩ | h1
    · exact .inl ⟨n', c', by rw [← hc]; exact h1⟩
    · exact .inr (Nat.le_trans hb.size h1)
theorem run_app6 {w : World} {base n cap : Nat} {la : Option Addr} {xs news : List Value} {ad : Addr} {c : Nat} (ty : TypeId) (hown : w.ownsRow base 38 6 (.slice la n cap) n xs) (hl : news.length = 1 * 6) (hn : ∀ j u, news[j]? = some u → w.cell? (ad.add j) = some u) (h1 : ∀ u ∈ news, u.oneCell' = true) (hsm : n ≤ 100000) (hbase : base ≤ w.heap.size) :
    ∃ g cap' w', (Builtin.append_ #[42, 42] ty #[.slice la n cap, .slice (some ad) 1 c]).run Tryz.prog w = .ok (.slice (some ⟨g, 0, none⟩) (n + 1) cap') w' ∧ w'.ownsRow base 38 6 (.slice (some ⟨g, 0, none⟩) (n + 1) cap') (n + 1) (xs ++ news) ∧ w.grownBy w' (Value.slice la n cap).ownBlock ∧ (la = some ⟨g, 0, none⟩ ∨ w.heap.size ≤ g) := by
  obtain ⟨i0, hi, hz0, hz1, hz2⟩ := info_parts Tryz.infoEntry
  rcases own_some hown with ⟨rfl, rfl, rfl⟩ | ⟨g, cur, rfl, hBg, hgl, hR, hnc, hm, hc, hx⟩
  · have hx0 : xs = [] := List.eq_nil_of_length_eq_zero (by have := hown.1; omega)
    subst hx0
    obtain ⟨v', w', hrun, r1, r2, -⟩ := run_append_own (P := Tryz.prog) w w.heap.size 42 ty 38 i0 NoEntry 6 96 Tryz.underlying42 hi hz0 hz1 hz2 rfl (by decide) (.slice none 0 0) 0 [] (World.ownsRow_nil _ _ _ _) ad 1 c news hl hn h1 (by unfold maxLen; omega) (by omega) (Nat.le_refl _)
    obtain ⟨g', c', rfl⟩ := own6v r1 (by omega)
    exact ⟨g', c', w', hrun, ⟨r1.1, by
      rcases r1.2 with h | ⟨g2, c2, cur2, hv, hb2, r⟩
      · exact .inl h
      · exact .inr ⟨g2, c2, cur2, hv, Nat.le_trans hbase hb2, r⟩⟩, r2, .inr (r1.lt g' rfl).1⟩
  · by_cases hroom : n + 1 ≤ cap
    · obtain ⟨w', hrun, r1, r2⟩ := run_append_fits (P := Tryz.prog) w base 42 ty 38 i0 6 Tryz.underlying42 hi hz1 g n cap xs hown ad 1 c news hl hn h1 hroom
      exact ⟨g, cap, w', hrun, r1, r2, .inl rfl⟩
    · obtain ⟨v', w', hrun, r1, r2, -⟩ := run_append_own (P := Tryz.prog) w base 42 ty 38 i0 NoEntry 6 96 Tryz.underlying42 hi hz0 hz1 hz2 rfl (by decide) (.slice (some ⟨g, 0, none⟩) n cap) n xs hown ad 1 c news hl hn h1 (by unfold maxLen; omega) (by omega) hbase
      obtain ⟨g', c', rfl⟩ := own6v r1 (by omega)
      have hxl := hown.1
      have hgrow := run_append_grow (P := Tryz.prog) w 42 ty 38 i0 NoEntry Tryz.underlying42 hi hz0 ⟨g, 0, none⟩ n cap xs (by rw [hz1]; exact hxl) (rowAt_src hR (fun j v hj => by
        rw [← hx] at hj
        have hj2 : j < n * 6 := by
          have := (List.getElem?_eq_some_iff.1 hj).1
          rw [List.length_take] at this; omega
        rwa [List.getElem?_take_of_lt hj2, ← Nat.zero_add j] at hj)) ad 1 c news (by rw [hz1]; exact hl) hn (by omega) (by omega) (by rw [hz2]; exact growslice_fits (by omega) (by omega))
      rw [hrun] at hgrow
      simp only [Result.ok.injEq, Value.slice.injEq, Option.some.injEq, Addr.mk.injEq, and_true] at hgrow
      exact ⟨g', c', w', hrun, r1, r2, .inr (Nat.le_of_eq hgrow.1.1.symm)⟩
set_option maxHeartbeats 4000000 in
set_option maxRecDepth 20000 in
theorem ins_end {w : World} {B n cap vb : Nat} {la : Option Addr} {xs news : List Value} (ho : w.ownsRow B 38 6 (.slice la n cap) n xs) (hl : news.length = 6) (hv : ∀ j u, news[j]? = some u → w.cell? ((⟨vb, 0, none⟩ : Addr).add j) = some u) (h1 : ∀ u ∈ news, u.oneCell' = true) (hn : n ≤ 100000) (hB : B ≤ w.heap.size) :
    Calls Tryz.prog 123 #[.slice la n cap, .int .i64 n, .slice (some ⟨vb, 0, none⟩) 1 1] w fun r w' => InsDone w w' B la n cap (xs ++ news) r := by
  obtain ⟨g', c', w1, hrun, ho1, hg1, hf1⟩ := run_app6 (c := 1) 42 ho (by omega) hv h1 hn hB
  have HE : Hid (InsDone w w1 B la n cap (xs ++ news) (.returned (.slice (some ⟨g', 0, none⟩) (n + 1) c'))) := ⟨g', c', rfl, ho1, hg1, hf1⟩
  have h3 : (la = none ∧ n = 0 ∧ cap = 0) ∨ (∃ g, la = some ⟨g, 0, none⟩ ∧ n < cap) ∨ (∃ g, la = some ⟨g, 0, none⟩ ∧ cap = n) := by
    rcases own_some ho with h | ⟨g, cur, e, -, -, -, hc, -⟩
    · exact .inl h
    · by_cases e' : cap = n
      · exact .inr (.inr ⟨g, e, e'⟩)
      · exact .inr (.inl ⟨g, e, by omega⟩)
  clear ho hv h1 ho1 hg1 hf1
  rcases h3 with ⟨rfl, rfl, rfl⟩ | ⟨g, rfl, hc⟩ | ⟨g, rfl, rfl⟩
  case' inr.inl =>
    have hci : (n : Int) ≤ (cap : Int) := by omega
    have hcn : ¬ cap = n := by omega
  all_goals
    go_enter Tryz.func123, Tryz.ntmps123
    go_wp2_with (at_builtin; refine Lib.wpList_append_run _ rfl _ _ _ _ rfl _ _ rfl rfl _ _ hrun ?_)
    go_ret
    exact HE.out
theorem sizeE (w : World) : (Go.sizeOf 38).run Tryz.prog w = .ok 6 w := by
  obtain ⟨i0, hi, -, hz1, -⟩ := info_parts Tryz.infoEntry
  simp [sizeOf, typeInfo, hi, hz1]
theorem rowAt_shape {w : World} {g : Nat} {cur : List Value} (h : RowAt w g cur) : w.shape? g = some (38, cur.length) := by
  unfold RowAt at h
  simp [World.shape?, h]
theorem rowAt_frozen {w : World} {g j : Nat} {cur : List Value} (h : RowAt w g cur) : w.frozen? ⟨g, j, none⟩ = false := by
  unfold RowAt at h
  simp [World.frozen?, h]
theorem no_overlap {w : World} {vb g : Nat} {cur news : List Value} (hg : RowAt w g cur) (hv : RowAt w vb news) (hne : vb ≠ g) (hc : cur.length ≠ 0) (o lb cb : Nat) :
    (callFunc 140 #[.slice (some ⟨vb, 0, none⟩) 1 1, .slice (some ⟨g, o, none⟩) lb cb]).run Tryz.prog w = .ok (.value (.bool false)) w := by
  rw [run_callFunc_extern Tryz.func140 (by kernel_rfl) (by kernel_rfl) (by kernel_rfl) (e := Extern.SlicesOverlaps.overlaps #[42, 42] #[4]) (by kernel_rfl),
    Lib.run_overlaps_apart w 42 4 38 Tryz.underlying42 6 sizeE ⟨vb, 0, none⟩ ⟨g, o, none⟩ 1 1 lb cb hne 38 38 news.length cur.length (rowAt_shape hv) (rowAt_shape hg) hc (rowAt_frozen hv) (rowAt_frozen hv)]
  rfl
theorem RowAt.grown {w w' : World} {g : Nat} {cur : List Value} {row : Option Nat} (h : RowAt w g cur) (hg : w.grownBy w' row) (hne : some g ≠ row) : RowAt w' g cur := by
  unfold RowAt at *
  rw [hg.block g (Array.getElem?_eq_some_iff.1 h).1 hne]
  exact h
theorem owns_of_row {w : World} {B g n cap : Nat} {cur xs : List Value} (h : RowAt w g cur) (hB : B ≤ g) (hn : n ≤ cap) (hm : cap ≤ maxLen) (hc : cur.length = cap * 6) (hx : cur.take (n * 6) = xs) : w.ownsRow B 38 6 (.slice (some ⟨g, 0, none⟩) n cap) n xs := by
  refine ⟨?_, .inr ⟨g, cap, cur.toArray, rfl, hB, h, hn, hm, by simpa using hc, by simpa using hx⟩⟩
  rw [← hx, List.length_take, hc]
  omega
set_option maxHeartbeats 4000000 in
set_option maxRecDepth 20000 in
theorem ins_shift {w : World} {B n cap vb g i : Nat} {cur xs news : List Value} (hr : RowAt w g cur) (hB : B ≤ g) (hm : cap ≤ maxLen) (hc : cur.length = cap * 6) (hx : cur.take (n * 6) = xs) (h1x : ∀ u ∈ xs, u.oneCell' = true) (hv : RowAt w vb news) (hl : news.length = 6) (h1 : ∀ u ∈ news, u.oneCell' = true) (hne : vb ≠ g) (hn : n ≤ 100000) (hi : i < n) (hroom : n + 1 ≤ cap) :
    Calls Tryz.prog 123 #[.slice (some ⟨g, 0, none⟩) n cap, .int .i64 i, .slice (some ⟨vb, 0, none⟩) 1 1] w fun r w' => InsDone w w' B (some ⟨g, 0, none⟩) n cap (xs.take (i * 6) ++ news ++ xs.drop (i * 6)) r := by
  have hcap : cap ≤ 9223372036854775807 := by unfold maxLen at hm; omega
  have hxl : xs.length = n * 6 := by rw [← hx, List.length_take, hc]; omega
  have hov := no_overlap hr hv hne (by omega)
  obtain ⟨u, hu⟩ : ∃ u, u = i + 1 := ⟨_, rfl⟩
  obtain ⟨N, hN⟩ : ∃ N, N = n + 1 := ⟨_, rfl⟩
  have s1 : (i : Int) + 1 = (u : Int) := by omega
  have s2 : (n : Int) + 1 = (N : Int) := by omega
  have w1 : IntKind.i64.wrap (u : Int) = (u : Int) := wrap_small _ (by omega) (by omega)
  have w2 : IntKind.i64.wrap (N : Int) = (N : Int) := wrap_small _ (by omega) (by omega)
  have g1 : (i : Int) ≤ (n : Int) := by omega
  have g2 : (n : Int) ≤ (cap : Int) := by omega
  have g3 : ¬ (i : Int) = (n : Int) := by omega
  have g4 : ¬ (cap : Int) < (N : Int) := by omega
  have g5 : (N : Int) ≤ (cap : Int) := by omega
  have g6 : (u : Int) ≤ (N : Int) := by omega
  have g7 : (i : Int) ≤ (N : Int) := by omega
  have g8 : (0 : Int) ≤ (u : Int) := by omega
  have g9 : (0 : Int) ≤ (N : Int) := by omega
  have e1 : ¬ cap = i := by omega
  have e2 : ¬ cap = u := by omega
  have HU := hid hu
  have HN := hid hN
  have HR := hid hr
  have HV := hid hv
  have hdl : (xs.drop (i * 6)).length = (n - i) * 6 := by rw [List.length_drop, hxl]; omega
  have hdx : ∀ j v, (xs.drop (i * 6))[j]? = some v → cur[i * 6 + j]? = some v := fun j v hj => by
    rw [List.getElem?_drop, ← hx] at hj
    have : i * 6 + j < n * 6 := by
      rcases Nat.lt_or_ge (i * 6 + j) (n * 6) with h | h
      · exact h
      · rw [List.getElem?_eq_none (by rw [List.length_take]; omega)] at hj; cases hj
    rwa [List.getElem?_take_of_lt this] at hj
  have HDX := hid hdx
  clear hr hv hu hN hdx
  go_enter Tryz.func123, Tryz.ntmps123
  go_wp2_with (simp only [hov])
  clear hov
  have hmn : n - i = Nat.min (N - i) (N - u) := by have := HU.out; have := HN.out; simp only [Nat.min_def]; split <;> omega
  have HMN := hid hmn
  clear hmn
  have hfit : u * 6 + (xs.drop (i * 6)).length ≤ cur.length := by have := HU.out; rw [hdl, hc]; omega
  have R0 : RowAt w.drew g cur := HR.out
  go_region_law (first
    | (refine step_copy6 (by rfl) _ _ (by rfl) R0 (u * 6) (N - u) (cap - u) ⟨g, i * 6, none⟩ (N - i) (cap - i) (n - i) (xs.drop (i * 6)) (by simp [Act.eval, Act.put]) (by simp [Act.eval, Act.put]) HMN.out hdl (rowAt_src R0 HDX.out) hfit (fun v hv => h1x v (List.mem_of_mem_drop hv)) ?_; intro w3 hR3 hG3))
  all_goals
    have hG0 : w.grownBy w.drew (some g) := ⟨rfl, rfl, rfl, Nat.le_refl _, fun _ _ _ => rfl⟩
    have V3 : RowAt w3 vb news := RowAt.grown (w := w.drew) HV.out hG3 (by intro e; exact hne (Option.some.inj e))
    have hmv : 1 = Nat.min 1 (N - i) := by have := HN.out; simp only [Nat.min_def]; split <;> omega
    have HMV := hid hmv
    clear hmv
    have hlen3 : (cur.take (u * 6) ++ xs.drop (i * 6) ++ cur.drop (u * 6 + (xs.drop (i * 6)).length)).length = cur.length := by
      simp only [List.length_append, List.length_take, List.length_drop]
      rw [List.length_drop] at hfit
      omega
    have hcp := run_copy6 hR3 3 (i * 6) (N - i) (cap - i) ⟨vb, 0, none⟩ 1 1 1 news HMV.out (by omega) (rowAt_src V3 (by simp)) (by rw [hlen3]; omega) h1
    have hR4 : RowAt (w3.setRow g _) g _ := setRow_heap w3 g _ ((cur.take (u * 6) ++ xs.drop (i * 6) ++ cur.drop (u * 6 + (xs.drop (i * 6)).length)).take (i * 6) ++ news ++ (cur.take (u * 6) ++ xs.drop (i * 6) ++ cur.drop (u * 6 + (xs.drop (i * 6)).length)).drop (i * 6 + news.length)).toArray _ _ hR3
    have hG4 := grown_setRow w3 g ((cur.take (u * 6) ++ xs.drop (i * 6) ++ cur.drop (u * 6 + (xs.drop (i * 6)).length)).take (i * 6) ++ news ++ (cur.take (u * 6) ++ xs.drop (i * 6) ++ cur.drop (u * 6 + (xs.drop (i * 6)).length)).drop (i * 6 + news.length)).toArray
    generalize w3.setRow g _ = w4 at *
    have HE : Hid (InsDone w w4 B (some ⟨g, 0, none⟩) n cap (xs.take (i * 6) ++ news ++ xs.drop (i * 6)) (.returned (.slice (some ⟨g, 0, none⟩) N cap))) := by
      have f1 := HU.out
      have f2 := HN.out
      subst f1; subst f2
      have hR : n * 6 = i * 6 + (n - i) * 6 := by omega
      refine ⟨g, cap, rfl, ?_, ?_, .inl rfl⟩
      · rw [hdl] at hR4
        rw [show (i + 1) * 6 = i * 6 + 6 from by omega, hl] at hR4
        refine owns_of_row hR4 hB hroom hm ?_ ?_
        · rw [hdl, show (i + 1) * 6 = i * 6 + 6 from by omega] at hlen3
          simp only [List.length_append, List.length_take, List.length_drop] at hlen3 ⊢
          omega
        · rw [show (n + 1) * 6 = i * 6 + (n - i) * 6 + 6 from by omega]
          exact ins_list cur xs news (i * 6) ((n - i) * 6) (by rw [← hR]; exact hx) (by omega) (by omega) hl
      · refine ⟨hG4.os.trans hG3.os, hG4.tape.trans hG3.tape, hG4.output.trans hG3.output, Nat.le_trans hG3.size hG4.size, fun k hk hne' => ?_⟩
        rw [hG4.block k (Nat.lt_of_lt_of_le hk hG3.size) hne', hG3.block k hk hne']
        rfl
    clear hR4 hG4 hR3 hG3 V3 hlen3 R0
    go_wp2
    go_ret
    exact HE.out
end Go.Proofs.YtffbnggdckjogaaGreat
