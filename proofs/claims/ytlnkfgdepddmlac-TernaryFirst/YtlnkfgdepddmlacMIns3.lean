/- What slices.Insert does with one entry where there is no room. -/
import Derived.Test.YtlnkfgdepddmlacMIns2
namespace Go.Proofs.Ytlnkfgdepddmlac
open Go.RowKit Mth

theorem run_grow6 {w : World} {g n cap i K N : Nat} {cur xs : List Value} (hr : RowAt w g cur) (hx : cur.take (n * 6) = xs) (hc : cur.length = cap * 6) (hnc : n ≤ cap) (hn : n ≤ 100000) (hi : i < n) (hN : N = n + 1) (hK : i + K = N) (hfull : cap < N) :
    ∃ (w' : World) (G : Nat) (row : List Value), (Builtin.append_ #[28, 3] 28 #[.slice (some ⟨g, 0, none⟩) i cap, .int .i64 K]).run Try.prog w = .ok (.slice (some ⟨w.heap.size, 0, none⟩) N G) w' ∧ RowAt w' w.heap.size row ∧ row.length = G * 6 ∧ N ≤ G ∧ G ≤ maxLen ∧ row.take (i * 6) = xs.take (i * 6) ∧ w.grownBy w' none := by
  obtain ⟨i0, hI, hz0, hz1, hz2⟩ := info_parts Try.infoEntry
  have hxl : xs.length = n * 6 := by rw [← hx, List.length_take, hc]; omega
  have hold : (Builtin.firstCells i0.size i (.slice (some ⟨g, 0, none⟩) i cap)).run Try.prog w.drew = .ok (xs.take (i * 6)).toArray w.drew := by
    rw [hz1]
    refine run_firstCells_some w.drew 6 i ⟨g, 0, none⟩ i cap (xs.take (i * 6)) (by rw [List.length_take]; omega) (rowAt_src (w := w.drew) hr (fun j v hj => ?_))
    rw [List.getElem?_take] at hj
    split at hj
    · rw [← hx, List.getElem?_take_of_lt (by omega)] at hj
      rwa [Nat.zero_add]
    · cases hj
  have h := Lib.run_append_grow_zeros w 28 3 28 33 i0 NoEntry .i64 .i64 Try.underlying28 Try.underlying3 hI hz0 (some ⟨g, 0, none⟩) i cap (xs.take (i * 6)) hold K (by omega) (by omega) (by omega) (by omega) (by rw [hz2]; omega) (by rw [hz2, hK]; exact growslice_fits hfull (by omega))
  rw [hK] at h
  have hG := grownCap_ge w N cap 33
  refine ⟨_, grownCap w N cap 33, ((xs.take (i * 6)).toArray ++ Builtin.zeroCells NoEntry.cells K ++ Builtin.zeroCells NoEntry.cells (grownCap w N cap 33 - N)).toList, h, ?_, ?_, hG, grownCap_le_maxLen w N cap _ (by unfold maxLen; omega), ?_, ?_⟩
  · unfold RowAt
    rw [Array.toArray_toList]
    exact heap_alloc_new w.drew _
  · have e : NoEntry.cells.size = 6 := rfl
    simp only [Array.length_toList, Array.size_append, Builtin.zeroCells, Array.size_map, Array.size_range, e, List.size_toArray, List.length_take]
    omega
  · simp only [Array.toList_append, List.append_assoc]
    rw [List.take_append_of_le_length (by simp; omega), List.take_of_length_le (by simp; omega)]
  · exact ⟨rfl, rfl, rfl, by simp, fun k hk _ => heap_alloc_old w.drew _ hk⟩

theorem wpList_copy_eq {ops : Array Oper} {rest : List Oper} {o : Oper} {a : Act} {w w' : World} {v : Value} {Q : Exit → Act → World → Prop} (hgd : o.guard = none) (d x : Operand)
    (hop : o.op = Op.call { callee := Callee.builtin Builtin.copy, args := #[d, x], argTypes := #[28, 28] }) (vd vx : Value) (hd : a.eval d = vd) (hx : a.eval x = vx)
    (hr : (Builtin.copy_ #[28, 28] o.type #[vd, vx]).run Try.prog w = .ok v w') (h : wpList Try.prog ops Q rest (a.put o.dst v) w') : wpList Try.prog ops Q (o :: rest) a w :=
  wpList_plain hgd fun _ hK => by
    unfold Oper.wp execOp
    simp only [hop, resolve, invoke, builtin, Sem.run_bind, Sem.run_pure, Result.andThen_ok, List.map_toArray, List.map_cons, List.map_nil, hd, hx, hr]
    exact hK _ _ h

set_option maxHeartbeats 4000000 in
set_option maxRecDepth 20000 in
theorem ins_grow {w : World} {B n cap vb g i : Nat} {cur xs news : List Value} (hr : RowAt w g cur) (hc : cur.length = cap * 6) (hx : cur.take (n * 6) = xs) (h1x : ∀ u ∈ xs, u.oneCell' = true) (hv : RowAt w vb news) (hl : news.length = 6) (h1 : ∀ u ∈ news, u.oneCell' = true) (hn : n ≤ 100000) (hi : i < n) (hnc : n ≤ cap) (hfull : cap < n + 1) (hB : B ≤ w.heap.size) :
    Calls Try.prog 54 #[.slice (some ⟨g, 0, none⟩) n cap, .int .i64 i, .slice (some ⟨vb, 0, none⟩) 1 1] w fun r w' => InsDone w w' B (some ⟨g, 0, none⟩) n cap (xs.take (i * 6) ++ news ++ xs.drop (i * 6)) r := by
  have hxl : xs.length = n * 6 := by rw [← hx, List.length_take, hc]; omega
  obtain ⟨u, hu⟩ : ∃ u, u = i + 1 := ⟨_, rfl⟩
  obtain ⟨N, hN⟩ : ∃ N, N = n + 1 := ⟨_, rfl⟩
  obtain ⟨K, hK⟩ : ∃ K, N - i = K := ⟨_, rfl⟩
  obtain ⟨W1, G, row, hrz, R1, rl, hNG, hGm, hrt, hG1⟩ := run_grow6 hr hx hc hnc hn hi hN (K := K) (by omega) (by omega)
  have hgl : g < w.heap.size := (Array.getElem?_eq_some_iff.1 hr).1
  have hvl : vb < w.heap.size := (Array.getElem?_eq_some_iff.1 hv).1
  have Rg := hr.grown hG1 (by simp)
  have Rv := hv.grown hG1 (by simp)
  have hmv : 1 = Nat.min 1 K := by simp only [Nat.min_def]; split <;> omega
  have hcp := run_copy6 R1 3 (i * 6) K (G - i) ⟨vb, 0, none⟩ 1 1 1 news hmv (by omega) (rowAt_src Rv (by simp)) (by omega) h1
  have R2 : RowAt (W1.setRow w.heap.size _) w.heap.size _ := setRow_heap W1 w.heap.size _ (row.take (i * 6) ++ news ++ row.drop (i * 6 + news.length)).toArray _ _ R1
  have hG2 := grown_setRow W1 w.heap.size (row.take (i * 6) ++ news ++ row.drop (i * 6 + news.length)).toArray
  generalize W1.setRow w.heap.size _ = W2 at *
  have Rg2 := Rg.grown hG2 (by simp; omega)
  have HG1 := hid hG1
  have HG2 := hid hG2
  have hG63 : G ≤ 9223372036854775807 := by unfold maxLen at hGm; omega
  have s1 : (i : Int) + 1 = (u : Int) := by omega
  have s2 : (n : Int) + 1 = (N : Int) := by omega
  have s3 : (N : Int) - (i : Int) = (K : Int) := by omega
  have w1 : IntKind.i64.wrap (u : Int) = (u : Int) := wrap_small _ (by omega) (by omega)
  have w2 : IntKind.i64.wrap (N : Int) = (N : Int) := wrap_small _ (by omega) (by omega)
  have w3 : IntKind.i64.wrap (K : Int) = (K : Int) := wrap_small _ (by omega) (by omega)
  have g1 : (i : Int) ≤ (n : Int) := by omega
  have g2 : (n : Int) ≤ (cap : Int) := by omega
  have g3 : ¬ (i : Int) = (n : Int) := by omega
  have g4 : (cap : Int) < (N : Int) := by omega
  have g5 : (N : Int) ≤ (G : Int) := by omega
  have g6 : (u : Int) ≤ (N : Int) := by omega
  have g7 : (i : Int) ≤ (N : Int) := by omega
  have g8 : (0 : Int) ≤ (u : Int) := by omega
  have e1 : ¬ cap = i := by omega
  have e2 : ¬ G = i := by omega
  have e3 : ¬ G = u := by omega
  have hu3 : (i : Int) ≤ (cap : Int) := by omega
  have HU := hid hu
  have HN := hid hN
  have hdl : (xs.drop (i * 6)).length = (n - i) * 6 := by rw [List.length_drop, hxl]; omega
  have hdx : ∀ j v, (xs.drop (i * 6))[j]? = some v → cur[i * 6 + j]? = some v := fun j v hj => by
    rw [List.getElem?_drop, ← hx] at hj
    have : i * 6 + j < n * 6 := by
      rcases Nat.lt_or_ge (i * 6 + j) (n * 6) with h | h
      · exact h
      · rw [List.getElem?_eq_none (by rw [List.length_take]; omega)] at hj; cases hj
    rwa [List.getElem?_take_of_lt this] at hj
  have HDX := hid hdx
  have HR2 := hid R2
  have HRG := hid Rg2
  have hl2 : (row.take (i * 6) ++ news ++ row.drop (i * 6 + news.length)).length = G * 6 := by simp only [List.length_append, List.length_take, List.length_drop]; omega
  have hfit : u * 6 + (xs.drop (i * 6)).length ≤ (row.take (i * 6) ++ news ++ row.drop (i * 6 + news.length)).length := by rw [hl2, hdl]; omega
  have hmn : n - i = Nat.min (n - i) (N - u) := by simp only [Nat.min_def]; split <;> omega
  have HMN := hid hmn
  have HEND : Hid (∀ W3, RowAt W3 w.heap.size ((row.take (i * 6) ++ news ++ row.drop (i * 6 + news.length)).take (u * 6) ++ xs.drop (i * 6) ++ (row.take (i * 6) ++ news ++ row.drop (i * 6 + news.length)).drop (u * 6 + (xs.drop (i * 6)).length)) → W2.drew.grownBy W3 (some w.heap.size) → InsDone w W3 B (some ⟨g, 0, none⟩) n cap (xs.take (i * 6) ++ news ++ xs.drop (i * 6)) (.returned (.slice (some ⟨w.heap.size, 0, none⟩) N G))) := by
    intro W3 R3 hG3
    subst hu; subst hN
    refine ⟨w.heap.size, G, rfl, ?_, ?_, .inr (Nat.le_refl _)⟩
    · rw [hdl, show (i + 1) * 6 = i * 6 + 6 from by omega, hl] at R3
      refine owns_of_row R3 hB (by omega) hGm ?_ ?_
      · rw [hl] at hl2
        simp only [List.length_append, List.length_take, List.length_drop] at hl2 ⊢
        omega
      · rw [show (n + 1) * 6 = i * 6 + (n - i) * 6 + 6 from by omega]
        exact ins_list2 row xs news (i * 6) ((n - i) * 6) hrt (by omega) (by omega) hl
    · refine ⟨hG3.os.trans (hG2.os.trans hG1.os), hG3.tape.trans (hG2.tape.trans hG1.tape), hG3.output.trans (hG2.output.trans hG1.output), Nat.le_trans hG1.size (Nat.le_trans hG2.size hG3.size), fun k hk _ => ?_⟩
      have k1 : k < W1.heap.size := Nat.lt_of_lt_of_le hk hG1.size
      have k2 : k < W2.heap.size := Nat.lt_of_lt_of_le k1 hG2.size
      have hne : some k ≠ some w.heap.size := by intro e; have := Option.some.inj e; omega
      rw [hG3.block k k2 hne]
      show W2.heap[k]? = w.heap[k]?
      rw [hG2.block k k1 hne, hG1.block k hk (by simp)]
  clear hr hv hu hN hdx hmn hmv R1 R2 Rg Rv Rg2 hG1 hG2 hrt
  go_enter Try.func54, Try.ntmps54
  go_wp2_with (first
    | (at_builtin; refine Lib.wpList_append_run _ rfl _ _ _ _ rfl _ _ rfl rfl _ _ hrz ?_)
    | (at_builtin; refine wpList_copy_eq rfl _ _ rfl _ _ rfl rfl hcp ?_))
  have R0 : RowAt W2.drew w.heap.size _ := HR2.out
  go_region_law (first
    | (refine step_copy6 (by rfl) _ _ (by rfl) R0 (u * 6) (N - u) (G - u) ⟨g, i * 6, none⟩ (n - i) (cap - i) (n - i) (xs.drop (i * 6)) (by simp [Act.eval, Act.put]) (by simp [Act.eval, Act.put]) HMN.out hdl (rowAt_src (w := W2.drew) HRG.out HDX.out) hfit (fun v hv => h1x v (List.mem_of_mem_drop hv)) ?_; intro w3 hR3 hG3))
  all_goals
    have HE := hid (HEND.out _ hR3 hG3)
    clear hR3 hG3 R0
    go_wp2
    go_ret
    exact HE.out
end Go.Proofs.Ytlnkfgdepddmlac
