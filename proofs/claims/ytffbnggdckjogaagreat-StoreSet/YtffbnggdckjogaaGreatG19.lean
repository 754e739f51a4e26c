/- Texts of one chain, joined: MIns3, MDel, MTab, KMay, KRows. -/
import Derived.Test.YtffbnggdckjogaaGreatG18
import Derived.Deep.CutRange
namespace Go.Proofs.YtffbnggdckjogaaGreat
open Go.RowKit Mth
theorem run_grow6 {w : World} {g n cap i K N : Nat} {cur xs : List Value} (hr : RowAt w g cur) (hx : cur.take (n * 6) = xs) (hc : cur.length = cap * 6) (hnc : n ≤ cap) (hn : n ≤ 100000) (hi : i < n) (hN : N = n + 1) (hK : i + K = N) (hfull : cap < N) :
    ∃ (w' : World) (G : Nat) (row : List Value), (Builtin.append_ #[42, 3] 42 #[.slice (some ⟨g, 0, none⟩) i cap, .int .i64 K]).run Tryz.prog w = .ok (.slice (some ⟨w.heap.size, 0, none⟩) N G) w' ∧ RowAt w' w.heap.size row ∧ row.length = G * 6 ∧ N ≤ G ∧ G ≤ maxLen ∧ row.take (i * 6) = xs.take (i * 6) ∧ w.grownBy w' none := by
  obtain ⟨i0, hI, hz0, hz1, hz2⟩ := info_parts Tryz.infoEntry
  have hxl : xs.length = n * 6 := by rw [← hx, List.length_take, hc]; omega
  have hold : (Builtin.firstCells i0.size i (.slice (some ⟨g, 0, none⟩) i cap)).run Tryz.prog w.drew = .ok (xs.take (i * 6)).toArray w.drew := by
    rw [hz1]
    refine run_firstCells_some w.drew 6 i ⟨g, 0, none⟩ i cap (xs.take (i * 6)) (by rw [List.length_take]; omega) (rowAt_src (w := w.drew) hr (fun j v hj => ?_))
    rw [List.getElem?_take] at hj
    split at hj
    · rw [← hx, List.getElem?_take_of_lt (by omega)] at hj
      rwa [Nat.zero_add]
    · cases hj
  have h := Lib.run_append_grow_zeros w 42 3 42 38 i0 NoEntry .i64 .i64 Tryz.underlying42 Tryz.underlying3 hI hz0 (some ⟨g, 0, none⟩) i cap (xs.take (i * 6)) hold K (by omega) (by omega) (by omega) (by omega) (by rw [hz2]; omega) (by rw [hz2, hK]; exact growslice_fits hfull (by omega))
  rw [hK] at h
  have hG := grownCap_ge w N cap 38
  refine ⟨_, grownCap w N cap 38, ((xs.take (i * 6)).toArray ++ Builtin.zeroCells NoEntry.cells K ++ Builtin.zeroCells NoEntry.cells (grownCap w N cap 38 - N)).toList, h, ?_, ?_, hG, grownCap_le_maxLen w N cap _ (by unfold maxLen; omega), ?_, ?_⟩
  · unfold RowAt
    rw [Array.toArray_toList]
    exact heap_alloc_new w.drew _
  · have e : NoEntry.cells.size = 6 := rfl
    simp only [Array.length_toList, Array.size_append, Builtin.zeroCells, Array.size_map, Array.size_range, e, List.size_toArray, List.length_take]
    omega
  · simp only [Array.toList_append, List.append_assoc]
    rw [List.take_append_of_le_length (by simp; omega), List.take_of_length_le (by simp; omega)]
  · exact ⟨rfl, rfl, rfl, by simp, fun k hk _ => heap_alloc_old w.drew _ hk⟩
theorem wpList_copy_eq {ops : Array Oper} {rest : List Oper} {o : Oper} {a : Act} {w w' : World} {v : Value} {Q : Exit → Act → World → Prop} (hgd : o.guard = none) (d x : Operand)
    (hop : o.op = Op.call { callee := Callee.builtin Builtin.copy, args := #[d, x], argTypes := #[42, 42] }) (vd vx : Value) (hd : a.eval d = vd) (hx : a.eval x = vx)
    (hr : (Builtin.copy_ #[42, 42] o.type #[vd, vx]).run Tryz.prog w = .ok v w') (h : wpList Tryz.prog ops Q rest (a.put o.dst v) w') : wpList Tryz.prog ops Q (o :: rest) a w :=
  wpList_plain hgd fun _ hK => by
    unfold Oper.wp execOp
    simp only [hop, resolve, invoke, builtin, Sem.run_bind, Sem.run_pure, Result.andThen_ok, List.map_toArray, List.map_cons, List.map_nil, hd, hx, hr]
    exact hK _ _ h
set_option maxHeartbeats 4000000 in
set_option maxRecDepth 20000 in
theorem ins_grow {w : World} {B n cap vb g i : Nat} {cur xs news : List Value} (hr : RowAt w g cur) (hc : cur.length = cap * 6) (hx : cur.take (n * 6) = xs) (h1x : ∀ u ∈ xs, u.oneCell' = true) (hv : RowAt w vb news) (hl : news.length = 6) (h1 : ∀ u ∈ news, u.oneCell' = true) (hn : n ≤ 100000) (hi : i < n) (hnc : n ≤ cap) (hfull : cap < n + 1) (hB : B ≤ w.heap.size) :
    Calls Tryz.prog 123 #[.slice (some ⟨g, 0, none⟩) n cap, .int .i64 i, .slice (some ⟨vb, 0, none⟩) 1 1] w fun r w' => InsDone w w' B (some ⟨g, 0, none⟩) n cap (xs.take (i * 6) ++ news ++ xs.drop (i * 6)) r := by
  have hxl : xs.length = n * 6 := by rw [← hx, List.length_take, hc]; omega
  obtain ⟨u, hu⟩ : ∃ u, u = i + 1 := ⟨_, rfl⟩
  obtain ⟨N, hN⟩ : ∃ N, N = n + 1 := ⟨_, rfl⟩
  obtain ⟨K, hK⟩ : ∃ K, N - i = K := ⟨_, rfl⟩
  obtain ⟨W1, G, row, hrz, R1, rl, hNG, hGm, hrt, hG1⟩ := run_grow6 hr hx hc hnc hn hi hN (K := K) (by omega) (by omega)
  have hgl : g < w.heap.size := (Array.getElem?_eq_some_iff.1 hr).1
  have hvl : vb < w.heap.size := (Array.getElem?_eq_some_iff.1 hv).1
  have Rg := hr.grown hG1 (by simp)
  have Rv := hv.grown hG1 (by simp)
  have hmv : 1 = Nat.min 1 K := by simp only [Nat.min_def]; split <;> omega
  have hcp := run_copy6 R1 3 (i * 6) K (G - i) ⟨vb, 0, none⟩ 1 1 1 news hmv (by omega) (rowAt_src Rv (by simp)) (by omega) h1
  have R2 : RowAt (W1.setRow w.heap.size _) w.heap.size _ := setRow_heap W1 w.heap.size _ (row.take (i * 6) ++ news ++ row.drop (i * 6 + news.length)).toArray _ _ R1
  have hG2 := grown_setRow W1 w.heap.size (row.take (i * 6) ++ news ++ row.drop (i * 6 + news.length)).toArray
  generalize W1.setRow w.heap.size _ = W2 at *
  have Rg2 := Rg.grown hG2 (by simp; omega)
  have HG1 := hid hG1
  have HG2 := hid hG2
  have hG63 : G ≤ 9223372036854775807 := by unfold maxLen at hGm; omega
  have s1 : (i : Int) + 1 = (u : Int) := by omega
  have s2 : (n : Int) + 1 = (N : Int) := by omega
  have s3 : (N : Int) - (i : Int) = (K : Int) := by omega
  have w1 : IntKind.i64.wrap (u : Int) = (u : Int) := wrap_small _ (by omega) (by omega)
  have w2 : IntKind.i64.wrap (N : Int) = (N : Int) := wrap_small _ (by omega) (by omega)
  have w3 : IntKind.i64.wrap (K : Int) = (K : Int) := wrap_small _ (by omega) (by omega)
  have g1 : (i : Int) ≤ (n : Int) := by omega
  have g2 : (n : Int) ≤ (cap : Int) := by omega
  have g3 : ¬ (i : Int) = (n : Int) := by omega
  have g4 : (cap : Int) < (N : Int) := by omega
  have g5 : (N : Int) ≤ (G : Int) := by omega
  have g6 : (u : Int) ≤ (N : Int) := by omega
  have g7 : (i : Int) ≤ (N : Int) := by omega
  have g8 : (0 : Int) ≤ (u : Int) := by omega
  have e1 : ¬ cap = i := by omega
  have e2 : ¬ G = i := by omega
  have e3 : ¬ G = u := by omega
  have hu3 : (i : Int) ≤ (cap : Int) := by omega
  have HU := hid hu
  have HN := hid hN
  have hdl : (xs.drop (i * 6)).length = (n - i) * 6 := by rw [List.length_drop, hxl]; omega
  have hdx : ∀ j v, (xs.drop (i * 6))[j]? = some v → cur[i * 6 + j]? = some v := fun j v hj => by
    rw [List.getElem?_drop, ← hx] at hj
    have : i * 6 + j < n * 6 := by
      rcases Nat.lt_or_ge (i * 6 + j) (n * 6) with h | h
      · exact h
      · rw [List.getElem?_eq_none (by rw [List.length_take]; omega)] at hj; cases hj
    rwa [List.getElem?_take_of_lt this] at hj
  have HDX := hid hdx
  have HR2 := hid R2
  have HRG := hid Rg2
  have hl2 : (row.take (i * 6) ++ news ++ row.drop (i * 6 + news.length)).length = G * 6 := by simp only [List.length_append, List.length_take, List.length_drop]; omega
  have hfit : u * 6 + (xs.drop (i * 6)).length ≤ (row.take (i * 6) ++ news ++ row.drop (i * 6 + news.length)).length := by rw [hl2, hdl]; omega
  have hmn : n - i = Nat.min (n - i) (N - u) := by simp only [Nat.min_def]; split <;> omega
  have HMN := hid hmn
  have HEND : Hid (∀ W3, RowAt W3 w.heap.size ((row.take (i * 6) ++ news ++ row.drop (i * 6 + news.length)).take (u * 6) ++ xs.drop (i * 6) ++ (row.take (i * 6) ++ news ++ row.drop (i * 6 + news.length)).drop (u * 6 + (xs.drop (i * 6)).length)) → W2.drew.grownBy W3 (some w.heap.size) → InsDone w W3 B (some ⟨g, 0, none⟩) n cap (xs.take (i * 6) ++ news ++ xs.drop (i * 6)) (.returned (.slice (some ⟨w.heap.size, 0, none⟩) N G))) := by
    intro W3 R3 hG3
    subst hu; subst hN
    refine ⟨w.heap.size, G, rfl, ?_, ?_, .inr (Nat.le_refl _)⟩
    · rw [hdl, show (i + 1) * 6 = i * 6 + 6 from by omega, hl] at R3
      refine owns_of_row R3 hB (by omega) hGm ?_ ?_
      · rw [hl] at hl2
        simp only [List.length_append, List.length_take, List.length_drop] at hl2 ⊢
        omega
      · rw [show (n + 1) * 6 = i * 6 + (n - i) * 6 + 6 from by omega]
        exact ins_list2 row xs news (i * 6) ((n - i) * 6) hrt (by omega) (by omega) hl
    · refine ⟨hG3.os.trans (hG2.os.trans hG1.os), hG3.tape.trans (hG2.tape.trans hG1.tape), hG3.output.trans (hG2.output.trans hG1.output), Nat.le_trans hG1.size (Nat.le_trans hG2.size hG3.size), fun k hk _ => ?_⟩
      have k1 : k < W1.heap.size := Nat.lt_of_lt_of_le hk hG1.size
      have k2 : k < W2.heap.size := Nat.lt_of_lt_of_le k1 hG2.size
      have hne : some k ≠ some w.heap.size := by intro e; have := Option.some.inj e; omega
      rw [hG3.block k k2 hne]
      show W2.heap[k]? = w.heap[k]?
      rw [hG2.block k k1 hne, hG1.block k hk (by simp)]
  clear hr hv hu hN hdx hmn hmv R1 R2 Rg Rv Rg2 hG1 hG2 hrt
  go_enter Tryz.func123, Tryz.ntmps123
  go_wp2_with (first
    | (at_builtin; refine Lib.wpList_append_run _ rfl _ _ _ _ rfl _ _ rfl rfl _ _ hrz ?_)
    | (at_builtin; refine wpList_copy_eq rfl _ _ rfl _ _ rfl rfl hcp ?_))
  have R0 : RowAt W2.drew w.heap.size _ := HR2.out
  go_region_law (first
    | (refine step_copy6 (by rfl) _ _ (by rfl) R0 (u * 6) (N - u) (G - u) ⟨g, i * 6, none⟩ (n - i) (cap - i) (n - i) (xs.drop (i * 6)) (by simp [Act.eval, Act.put]) (by simp [Act.eval, Act.put]) HMN.out hdl (rowAt_src (w := W2.drew) HRG.out HDX.out) hfit (fun v hv => h1x v (List.mem_of_mem_drop hv)) ?_; intro w3 hR3 hG3))
  all_goals
    have HE := hid (HEND.out _ hR3 hG3)
    clear hR3 hG3 R0
    go_wp2
    go_ret
    exact HE.out
end Go.Proofs.YtffbnggdckjogaaGreat

namespace Go.Proofs.YtffbnggdckjogaaGreat
open Go.RowKit Mth
theorem ins_any {w : World} {B n cap vb i : Nat} {la : Option Addr} {xs news : List Value} (ho : w.ownsRow B 38 6 (.slice la n cap) n xs) (h1x : ∀ u ∈ xs, u.oneCell' = true) (hv : RowAt w vb news) (hl : news.length = 6) (h1 : ∀ u ∈ news, u.oneCell' = true) (hvb : ∀ g, la = some ⟨g, 0, none⟩ → vb ≠ g) (hn : n ≤ 100000) (hi : i ≤ n) (hB : B ≤ w.heap.size) :
    Calls Tryz.prog 123 #[.slice la n cap, .int .i64 i, .slice (some ⟨vb, 0, none⟩) 1 1] w fun r w' => InsDone w w' B la n cap (xs.take (i * 6) ++ news ++ xs.drop (i * 6)) r := by
  by_cases e : i = n
  · subst e
    rw [List.take_of_length_le (by rw [ho.1]; exact Nat.le_refl _), List.drop_eq_nil_of_le (by rw [ho.1]; exact Nat.le_refl _), List.append_nil]
    exact ins_end ho hl (rowAt_src hv (by simp)) h1 hn hB
  · rcases own_some ho with ⟨_, h, _⟩ | ⟨g, cur, rfl, hBg, _, hr, hnc, hm, hc, hx⟩
    · omega
    · by_cases hroom : n + 1 ≤ cap
      · exact ins_shift hr hBg hm hc hx h1x hv hl h1 (hvb g rfl) hn (by omega) hroom
      · exact ins_grow hr hc hx h1x hv hl h1 hn (by omega) hnc (by omega) hB
abbrev Z6 : List Value := [.slice none 0 0, .slice none 0 0, .int .i64 0, .int .i64 0, .int .i64 0, .slice none 0 0]
theorem run_clear6 {w : World} {g : Nat} {cur : List Value} (hg : RowAt w g cur) (ty : TypeId) (o c : Nat) (hfit : o + 6 ≤ cur.length) :
    (Builtin.clear_ #[42] ty #[.slice (some ⟨g, o, none⟩) 1 c]).run Tryz.prog w = .ok (.tuple #[]) (w.setRow g (cur.take o ++ Z6 ++ cur.drop (o + 6)).toArray) := by
  obtain ⟨i0, hi, hz0, hz1, -⟩ := info_parts Tryz.infoEntry
  have hst := run_storeCells_at Tryz.prog g o 38 Z6 0 cur.toArray w hg (by simpa using hfit) (by simp [Z6, Value.oneCell'])
  simp only [Nat.add_zero] at hst
  have hzc : (Builtin.zeroCells NoEntry.cells 1).toList = Z6 := by kernel_rfl
  have hzv : (zeroValue 38).run Tryz.prog w = .ok NoEntry w := by simp [zeroValue, typeInfo, hi, hz0]
  have hst' : (storeCells ⟨g, o, none⟩ (Builtin.zeroCells NoEntry.cells 1).toList).run Tryz.prog w = .ok () (w.setRow g (cur.take o ++ Z6 ++ cur.drop (o + 6)).toArray) := by rw [hzc]; exact hst
  simp [Builtin.clear_, run_underlying Tryz.underlying42, hzv, hst']
theorem stepF {ops : Array Oper} {o : Oper} {a : Act} {w : World} {K : Act → World → Prop} {Q : Exit → Act → World → Prop} {F : Prop} (hgd : o.guard = none) (s x : Operand)
    (ho : o.op = .call { callee := .builtin .append, args := #[s, x], argTypes := #[42, 42] }) (base g n m cap : Nat) (xs news : List Value) (ad : Addr) (c : Nat)
    (hs : a.eval s = .slice (some ⟨g, 0, none⟩) n cap) (hx : a.eval x = .slice (some ad) m c) (hown : w.ownsRow base 38 6 (.slice (some ⟨g, 0, none⟩) n cap) n xs) (hl : news.length = m * 6) (hn : ∀ j u, news[j]? = some u → w.cell? (ad.add j) = some u) (h1 : ∀ u ∈ news, u.oneCell' = true)
    (hroom : n + m ≤ cap) (h : ∀ w', w'.ownsRow base 38 6 (.slice (some ⟨g, 0, none⟩) (n + m) cap) (n + m) (xs ++ news) → w.grownBy w' (some g) → K (a.put o.dst (.slice (some ⟨g, 0, none⟩) (n + m) cap)) w') :
    if Region.wanted o (yielded ops a.tmps) = true then Oper.wp Tryz.prog o a w K Q else F := by
  have hw : Region.wanted o (yielded ops a.tmps) = true := by simp [Region.wanted, hgd]
  rw [if_pos hw]
  obtain ⟨i0, hi, hz0, hz1, hz2⟩ := info_parts Tryz.infoEntry
  obtain ⟨w', hrun, r1, r2⟩ := run_append_fits (P := Tryz.prog) w base 42 o.type 38 i0 6 Tryz.underlying42 hi hz1 g n cap xs hown ad m c news hl hn h1 hroom
  unfold Oper.wp execOp
  simp only [ho, resolve, invoke, builtin, Sem.run_bind, Sem.run_pure, Result.andThen_ok, List.map_toArray, List.map_cons, List.map_nil, hs, hx, hrun]
  exact h w' r1 r2
def DelDone (w w' : World) (B g n cap : Nat) (ys : List Value) (r : Ending) : Prop :=
  ∃ m, m + 1 = n ∧ r = .returned (.slice (some ⟨g, 0, none⟩) m cap) ∧ w'.ownsRow B 38 6 (.slice (some ⟨g, 0, none⟩) m cap) m ys ∧ w.grownBy w' (some g) ∧ (m = 0 → w'.cell? ⟨g, 0, none⟩ = some (.slice none 0 0))
set_option maxHeartbeats 4000000 in
set_option maxRecDepth 20000 in
theorem del_any {w : World} {B n cap g i u : Nat} {cur xs : List Value} (hr : RowAt w g cur) (hB : B ≤ g) (hm : cap ≤ maxLen) (hc : cur.length = cap * 6) (hx : cur.take (n * 6) = xs) (h1x : ∀ v ∈ xs, v.oneCell' = true) (hn : n ≤ 100000) (hi : i < n) (hnc : n ≤ cap) (hu : u = i + 1) :
    Calls Tryz.prog 128 #[.slice (some ⟨g, 0, none⟩) n cap, .int .i64 i, .int .i64 u] w fun r w' => DelDone w w' B g n cap (xs.take (i * 6) ++ xs.drop (u * 6)) r := by
  have hcap : cap ≤ 9223372036854775807 := by unfold maxLen at hm; omega
  have hxl : xs.length = n * 6 := by rw [← hx, List.length_take, hc]; omega
  obtain ⟨m, hm1⟩ : ∃ m, n - u = m := ⟨_, rfl⟩
  obtain ⟨M, hM⟩ : ∃ M, i + m = M := ⟨_, rfl⟩
  have hown : w.drew.ownsRow B 38 6 (.slice (some ⟨g, 0, none⟩) i cap) i (xs.take (i * 6)) := owns_of_row (w := w.drew) hr hB (by omega) hm hc (by rw [← hx, List.take_take]; congr 1; omega)
  have hdl : (xs.drop (u * 6)).length = m * 6 := by rw [List.length_drop, hxl]; omega
  have hdx : ∀ j v, (xs.drop (u * 6))[j]? = some v → cur[u * 6 + j]? = some v := fun j v hj => by
    rw [List.getElem?_drop, ← hx] at hj
    have : u * 6 + j < n * 6 := by
      rcases Nat.lt_or_ge (u * 6 + j) (n * 6) with h | h
      · exact h
      · rw [List.getElem?_eq_none (by rw [List.length_take]; omega)] at hj; cases hj
    rwa [List.getElem?_take_of_lt this] at hj
  have HZ : Hid (∃ ad : Addr, (if cap = u then some (⟨g, 0, none⟩ : Addr) else some ⟨g, u * 6, none⟩) = some ad ∧ ∀ (k : Nat) (x : Value), (xs.drop (u * 6))[k]? = some x → w.drew.cell? (ad.add k) = some x) := by
    by_cases hcu : cap = u
    · refine ⟨⟨g, 0, none⟩, by rw [if_pos hcu], fun k x hk => ?_⟩
      have : xs.drop (u * 6) = [] := List.drop_eq_nil_of_le (by omega)
      rw [this] at hk
      simp at hk
    · exact ⟨⟨g, u * 6, none⟩, by rw [if_neg hcu], rowAt_src (w := w.drew) hr hdx⟩
  obtain ⟨ad, hadd, hac⟩ := HZ.out
  have HAC := hid hac
  have HOWN := hid hown
  have g1 : (i : Int) ≤ (u : Int) := by omega
  have g2 : (u : Int) ≤ (n : Int) := by omega
  have g3 : (n : Int) ≤ (cap : Int) := by omega
  have g4 : ¬ (i : Int) = (u : Int) := by omega
  have g5 : (i : Int) ≤ (cap : Int) := by omega
  have g6 : (u : Int) ≤ (cap : Int) := by omega
  have g7 : (M : Int) ≤ (n : Int) := by omega
  have g8 : (0 : Int) ≤ (M : Int) := by omega
  have g9 : (0 : Int) ≤ (u : Int) := by omega
  have e1 : ¬ cap = M := by omega
  have e2 : n - M = 1 := by omega
  have HMN : Hid (M + 1 = n) := by show M + 1 = n; omega
  have HU := hid hu
  clear hown hdx HZ hac hu
  go_enter Tryz.func128, Tryz.ntmps128
  go_wp2_with fail
  go_region_law (first
    | (refine stepF (by rfl) _ _ (by rfl) B g i m cap (xs.take (i * 6)) (xs.drop (u * 6)) ad (cap - u) (by simp [Act.eval, Act.put]) (by simp [Act.eval, Act.put]) HOWN.out hdl HAC.out (fun v hv => h1x v (List.mem_of_mem_drop hv)) (by omega) ?_; intro w3 ho3 hG3))
  all_goals
    rw [hM] at ho3
    rcases own_some ho3 with ⟨h, _⟩ | ⟨g', cur3, eg, -, -, R3, -, -, hc3, hx3⟩
    · cases h
    · have eg' : g = g' := by simpa using eg
      subst eg'
      have hcl := run_clear6 R3 0 (M * 6) (cap - M) (by have := HMN.out; omega)
      have R4 : RowAt (w3.setRow g _) g _ := setRow_heap w3 g _ (cur3.take (M * 6) ++ Z6 ++ cur3.drop (M * 6 + 6)).toArray _ _ R3
      have hG4 := grown_setRow w3 g (cur3.take (M * 6) ++ Z6 ++ cur3.drop (M * 6 + 6)).toArray
      generalize w3.setRow g _ = w4 at *
      have HE : Hid (DelDone w w4 B g n cap (xs.take (i * 6) ++ xs.drop (u * 6)) (.returned (.slice (some ⟨g, 0, none⟩) M cap))) := by
        have hMn := HMN.out
        refine ⟨M, hMn, rfl, ?_, ?_, ?_⟩
        · refine owns_of_row R4 hB (by omega) hm ?_ ?_
          · simp only [List.length_append, List.length_take, List.length_drop]
            simp only [List.length_cons, List.length_nil]
            omega
          · rw [List.append_assoc, List.take_append_of_le_length (by simp; omega), List.take_take, Nat.min_self]
            exact hx3
        · refine ⟨hG4.os.trans hG3.os, hG4.tape.trans hG3.tape, hG4.output.trans hG3.output, Nat.le_trans hG3.size hG4.size, fun k hk hne' => ?_⟩
          rw [hG4.block k (Nat.lt_of_lt_of_le hk hG3.size) hne', hG3.block k hk hne']
          rfl
        · intro h0
          rw [R4.cell 0, h0]
          rfl
      clear R3 R4 hG3 hG4 ho3 eg hx3 hc3
      go_wp2
      go_ret
      exact HE.out
end Go.Proofs.YtffbnggdckjogaaGreat

namespace Go.Proofs.YtffbnggdckjogaaGreat
open Go.RowKit Mth
namespace Mth
def cutI (T : List TE) (e : TE) : Nat := T.countP fun x => decide (cmpE x e < 0)
theorem cut_is {T : List TE} {e : TE} {i : Nat} (c : Cut T e i) : cutI T e = i := by
  unfold cutI
  have h1 : (T.take i).countP (fun x => decide (cmpE x e < 0)) = (T.take i).length := by
    rw [List.countP_eq_length]
    intro x hx
    obtain ⟨t, ht, rfl⟩ := List.getElem_of_mem hx
    rw [List.length_take] at ht
    exact decide_eq_true (c.lo t _ (by omega) (by rw [List.getElem_take, List.getElem?_eq_getElem (by omega)]))
  have h2 : (T.drop i).countP (fun x => decide (cmpE x e < 0)) = 0 := by
    rw [List.countP_eq_zero]
    intro x hx
    obtain ⟨t, ht, rfl⟩ := List.getElem_of_mem hx
    rw [List.length_drop] at ht
    simp only [decide_eq_true_eq]
    exact c.hi (i + t) _ (by omega) (by rw [List.getElem_drop, List.getElem?_eq_getElem (by omega)])
  conv => lhs; rw [← List.take_append_drop i T]
  rw [List.countP_append, h1, h2, List.length_take]
  have := c.le
  omega
end Mth
def addCM (keys most : Int) (T : List TE) (e : TE) : Int := if GoodM keys e then (if ∃ x ∈ T, SameP x e then 7 else if ClashM T e then 8 else if most ≤ (T.length : Int) then 10 else 0) else 6
def addTM (keys most : Int) (T : List TE) (e : TE) : List TE := if addCM keys most T e = 0 then T.take (cutI T e) ++ e :: T.drop (cutI T e) else T
def hasCM (keys : Int) (T : List TE) (e : TE) : Int := if GoodM keys e then (if ∃ x ∈ T, SameP x e then 0 else 9) else 6
def dropTM (keys : Int) (T : List TE) (e : TE) : List TE := if hasCM keys T e = 0 then T.eraseIdx (cutI T e) else T
structure MTo (w w' : World) (B p : Nat) (keys most : Int) (T : List TE) : Prop where
  t : MTab w' B p keys most T
  bel : Below B w w'
  fr : Fr w w' p 2
theorem MTab.small {w : World} {B p : Nat} {keys most : Int} {T : List TE} (t : MTab w B p keys most T) : B ≤ w.heap.size :=
  Nat.le_trans t.base (Nat.le_of_lt (World.block_lt_of_cell? w _ t.c0))
theorem MTo.same {w w' : World} {B p : Nat} {keys most : Int} {T : List TE} (t : MTab w B p keys most T) (hb : Below w.heap.size w w') : MTo w w' B p keys most T := ⟨t.step hb, hb.mono t.small, fr_below hb (World.block_lt_of_cell? w _ t.c0)⟩
def MAddDone (w w' : World) (B p : Nat) (keys most : Int) (T : List TE) (e : TE) (r : Ending) : Prop := r = .returned (.int .i64 (addCM keys most T e)) ∧ MTo w w' B p keys most (addTM keys most T e)
theorem madd_keep {w w' : World} {B p : Nat} {keys most : Int} {T : List TE} {e : TE} {c : Int} (t : MTab w B p keys most T) (hb : Below w.heap.size w w') (hc : addCM keys most T e = c) (h0 : c ≠ 0) : MAddDone w w' B p keys most T e (.returned (.int .i64 c)) := by
  refine ⟨by rw [hc], ?_⟩
  unfold addTM
  rw [if_neg (by rw [hc]; exact h0)]
  exact MTo.same t hb
abbrev TC (keys most : Int) : Obj := .cells #[.int .i64 keys, .int .i64 most, .slice none 0 0] 105
set_option maxHeartbeats 400000 in
set_option maxRecDepth 20000 in
theorem mnew_any (keys most : Int) (w : World) (B : Nat) (hB : B ≤ w.heap.size) :
    Calls Tryz.prog 30 #[.int .i64 keys, .int .i64 most] w fun r w' => r = .returned (.pointer (some ⟨w.heap.size, 0, none⟩)) ∧ MTab w' B w.heap.size keys most [] ∧ Below w.heap.size w w' := by
  have HT : Hid (MTab (w.alloc (TC keys most)) B w.heap.size keys most []) := ⟨by simp, by simp, by simp, hB, ⟨none, 0, by simp, mrow_nil _ _⟩, okM_nil _ _⟩
  go_enter Tryz.func30, Tryz.ntmps30
  go_wp2
  go_ret
  exact ⟨rfl, HT.out, bl_alloc (Below.refl _ _)⟩
end Go.Proofs.YtffbnggdckjogaaGreat

namespace Go.Proofs.YtffbnggdckjogaaGreat
open Go.RowKit Mth
structure KHead (w : World) (r : Nat) (keys most : Int) : Prop where
  c0 : w.cell? ⟨r, 0, none⟩ = some (.int .i64 3)
  c1 : w.cell? ⟨r, 1, none⟩ = some (.int .i64 keys)
  c2 : w.cell? ⟨r, 2, none⟩ = some (.int .i64 0)
  c3 : w.cell? ⟨r, 3, none⟩ = some (.int .i64 most)
theorem KHead.step {w w' : World} {r : Nat} {keys most : Int} (h : KHead w r keys most) (hb : Below w.heap.size w w') : KHead w' r keys most := by
  have hr := World.block_lt_of_cell? w _ h.c0
  have cs : ∀ i, w'.cell? ⟨r, i, none⟩ = w.cell? ⟨r, i, none⟩ := fun i => hb.cell (p := ⟨r, i, none⟩) hr
  exact ⟨(cs 0).trans h.c0, (cs 1).trans h.c1, (cs 2).trans h.c2, (cs 3).trans h.c3⟩
end Go.Proofs.YtffbnggdckjogaaGreat

namespace Go.Proofs.YtffbnggdckjogaaGreat
open Go.RowKit Mth
structure KRws (w : World) (B r : Nat) (keys most : Int) (E : List TE) : Prop where
  hd : KHead w r keys most
  f4 : w.frozen? ⟨r, 4, none⟩ = false
  base : B ≤ r
  lst : ∃ la cap, w.cell? ⟨r, 4, none⟩ = some (.slice la E.length cap) ∧ MRow w B la E.length cap E
  good : ∀ x ∈ E, GoodM keys x
theorem KRws.step {w w' : World} {B r : Nat} {keys most : Int} {E : List TE} (t : KRws w B r keys most E) (hb : Below w.heap.size w w') : KRws w' B r keys most E := by
  have hr := World.block_lt_of_cell? w _ t.hd.c0
  obtain ⟨la, cap, h4, hrow⟩ := t.lst
  exact ⟨t.hd.step hb, (hb.frozen (p := ⟨r, 4, none⟩) hr).trans t.f4, t.base, ⟨la, cap, (hb.cell (p := ⟨r, 4, none⟩) hr).trans h4, hrow.step hb⟩, t.good⟩
theorem ask_dec {w w' : World} {P : Prop} [Decidable P] {q : Ending} (h : AskDone w w' P q) : q = .returned (.bool (decide P)) ∧ Grew w w' := by
  obtain ⟨b, rfl, hb, hg⟩ := h
  refine ⟨?_, hg⟩
  by_cases hp : P
  · rw [decide_eq_true hp, hb.2 hp]
  · rw [decide_eq_false hp]
    cases b with
    | false => rfl
    | true => exact absurd (hb.1 rfl) hp
end Go.Proofs.YtffbnggdckjogaaGreat
