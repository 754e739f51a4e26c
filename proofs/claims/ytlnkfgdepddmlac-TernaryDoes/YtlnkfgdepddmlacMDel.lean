/- What slices.Insert does at any place, and slices.Delete of one entry. -/
import Derived.Test.YtlnkfgdepddmlacMIns3
namespace Go.Proofs.Ytlnkfgdepddmlac
open Go.RowKit Mth

theorem ins_any {w : World} {B n cap vb i : Nat} {la : Option Addr} {xs news : List Value} (ho : w.ownsRow B 33 6 (.slice la n cap) n xs) (h1x : ∀ u ∈ xs, u.oneCell' = true) (hv : RowAt w vb news) (hl : news.length = 6) (h1 : ∀ u ∈ news, u.oneCell' = true) (hvb : ∀ g, la = some ⟨g, 0, none⟩ → vb ≠ g) (hn : n ≤ 100000) (hi : i ≤ n) (hB : B ≤ w.heap.size) :
    Calls Try.prog 54 #[.slice la n cap, .int .i64 i, .slice (some ⟨vb, 0, none⟩) 1 1] w fun r w' => InsDone w w' B la n cap (xs.take (i * 6) ++ news ++ xs.drop (i * 6)) r := by
  by_cases e : i = n
  · subst e
    rw [List.take_of_length_le (by rw [ho.1]; exact Nat.le_refl _), List.drop_eq_nil_of_le (by rw [ho.1]; exact Nat.le_refl _), List.append_nil]
    exact ins_end ho hl (rowAt_src hv (by simp)) h1 hn hB
  · rcases own_some ho with ⟨_, h, _⟩ | ⟨g, cur, rfl, hBg, _, hr, hnc, hm, hc, hx⟩
    · omega
    · by_cases hroom : n + 1 ≤ cap
      · exact ins_shift hr hBg hm hc hx h1x hv hl h1 (hvb g rfl) hn (by omega) hroom
      · exact ins_grow hr hc hx h1x hv hl h1 hn (by omega) hnc (by omega) hB

abbrev Z6 : List Value := [.slice none 0 0, .slice none 0 0, .int .i64 0, .int .i64 0, .int .i64 0, .slice none 0 0]

/-- one entry of a row is made empty -/
theorem run_clear6 {w : World} {g : Nat} {cur : List Value} (hg : RowAt w g cur) (ty : TypeId) (o c : Nat) (hfit : o + 6 ≤ cur.length) :
    (Builtin.clear_ #[28] ty #[.slice (some ⟨g, o, none⟩) 1 c]).run Try.prog w = .ok (.tuple #[]) (w.setRow g (cur.take o ++ Z6 ++ cur.drop (o + 6)).toArray) := by
  obtain ⟨i0, hi, hz0, hz1, -⟩ := info_parts Try.infoEntry
  have hst := run_storeCells_at Try.prog g o 33 Z6 0 cur.toArray w hg (by simpa using hfit) (by simp [Z6, Value.oneCell'])
  simp only [Nat.add_zero] at hst
  have hzc : (Builtin.zeroCells NoEntry.cells 1).toList = Z6 := by kernel_rfl
  have hzv : (zeroValue 33).run Try.prog w = .ok NoEntry w := by simp [zeroValue, typeInfo, hi, hz0]
  have hst' : (storeCells ⟨g, o, none⟩ (Builtin.zeroCells NoEntry.cells 1).toList).run Try.prog w = .ok () (w.setRow g (cur.take o ++ Z6 ++ cur.drop (o + 6)).toArray) := by rw [hzc]; exact hst
  simp [Builtin.clear_, run_underlying Try.underlying28, hzv, hst']

/-- one append of a region: m entries behind the first i of a row, where there is room -/
theorem stepF {ops : Array Oper} {o : Oper} {a : Act} {w : World} {K : Act → World → Prop} {Q : Exit → Act → World → Prop} {F : Prop} (hgd : o.guard = none) (s x : Operand)
    (ho : o.op = .call { callee := .builtin .append, args := #[s, x], argTypes := #[28, 28] }) (base g n m cap : Nat) (xs news : List Value) (ad : Addr) (c : Nat)
    (hs : a.eval s = .slice (some ⟨g, 0, none⟩) n cap) (hx : a.eval x = .slice (some ad) m c) (hown : w.ownsRow base 33 6 (.slice (some ⟨g, 0, none⟩) n cap) n xs) (hl : news.length = m * 6) (hn : ∀ j u, news[j]? = some u → w.cell? (ad.add j) = some u) (h1 : ∀ u ∈ news, u.oneCell' = true)
    (hroom : n + m ≤ cap) (h : ∀ w', w'.ownsRow base 33 6 (.slice (some ⟨g, 0, none⟩) (n + m) cap) (n + m) (xs ++ news) → w.grownBy w' (some g) → K (a.put o.dst (.slice (some ⟨g, 0, none⟩) (n + m) cap)) w') :
    if Region.wanted o (yielded ops a.tmps) = true then Oper.wp Try.prog o a w K Q else F := by
  have hw : Region.wanted o (yielded ops a.tmps) = true := by simp [Region.wanted, hgd]
  rw [if_pos hw]
  obtain ⟨i0, hi, hz0, hz1, hz2⟩ := info_parts Try.infoEntry
  obtain ⟨w', hrun, r1, r2⟩ := run_append_fits (P := Try.prog) w base 28 o.type 33 i0 6 Try.underlying28 hi hz1 g n cap xs hown ad m c news hl hn h1 hroom
  unfold Oper.wp execOp
  simp only [ho, resolve, invoke, builtin, Sem.run_bind, Sem.run_pure, Result.andThen_ok, List.map_toArray, List.map_cons, List.map_nil, hs, hx, hrun]
  exact h w' r1 r2

def DelDone (w w' : World) (B g n cap : Nat) (ys : List Value) (r : Ending) : Prop :=
  ∃ m, m + 1 = n ∧ r = .returned (.slice (some ⟨g, 0, none⟩) m cap) ∧ w'.ownsRow B 33 6 (.slice (some ⟨g, 0, none⟩) m cap) m ys ∧ w.grownBy w' (some g) ∧ (m = 0 → w'.cell? ⟨g, 0, none⟩ = some (.slice none 0 0))

set_option maxHeartbeats 4000000 in
set_option maxRecDepth 20000 in
theorem del_any {w : World} {B n cap g i u : Nat} {cur xs : List Value} (hr : RowAt w g cur) (hB : B ≤ g) (hm : cap ≤ maxLen) (hc : cur.length = cap * 6) (hx : cur.take (n * 6) = xs) (h1x : ∀ v ∈ xs, v.oneCell' = true) (hn : n ≤ 100000) (hi : i < n) (hnc : n ≤ cap) (hu : u = i + 1) :
    Calls Try.prog 59 #[.slice (some ⟨g, 0, none⟩) n cap, .int .i64 i, .int .i64 u] w fun r w' => DelDone w w' B g n cap (xs.take (i * 6) ++ xs.drop (u * 6)) r := by
  have hcap : cap ≤ 9223372036854775807 := by unfold maxLen at hm; omega
  have hxl : xs.length = n * 6 := by rw [← hx, List.length_take, hc]; omega
  obtain ⟨m, hm1⟩ : ∃ m, n - u = m := ⟨_, rfl⟩
  obtain ⟨M, hM⟩ : ∃ M, i + m = M := ⟨_, rfl⟩
  have hown : w.drew.ownsRow B 33 6 (.slice (some ⟨g, 0, none⟩) i cap) i (xs.take (i * 6)) := owns_of_row (w := w.drew) hr hB (by omega) hm hc (by rw [← hx, List.take_take]; congr 1; omega)
  have hdl : (xs.drop (u * 6)).length = m * 6 := by rw [List.length_drop, hxl]; omega
  have hdx : ∀ j v, (xs.drop (u * 6))[j]? = some v → cur[u * 6 + j]? = some v := fun j v hj => by
    rw [List.getElem?_drop, ← hx] at hj
    have : u * 6 + j < n * 6 := by
      rcases Nat.lt_or_ge (u * 6 + j) (n * 6) with h | h
      · exact h
      · rw [List.getElem?_eq_none (by rw [List.length_take]; omega)] at hj; cases hj
    rwa [List.getElem?_take_of_lt this] at hj
  have HZ : Hid (∃ ad : Addr, (if cap = u then some (⟨g, 0, none⟩ : Addr) else some ⟨g, u * 6, none⟩) = some ad ∧ ∀ (k : Nat) (x : Value), (xs.drop (u * 6))[k]? = some x → w.drew.cell? (ad.add k) = some x) := by
    by_cases hcu : cap = u
    · refine ⟨⟨g, 0, none⟩, by rw [if_pos hcu], fun k x hk => ?_⟩
      have : xs.drop (u * 6) = [] := List.drop_eq_nil_of_le (by omega)
      rw [this] at hk
      simp at hk
    · exact ⟨⟨g, u * 6, none⟩, by rw [if_neg hcu], rowAt_src (w := w.drew) hr hdx⟩
  obtain ⟨ad, hadd, hac⟩ := HZ.out
  have HAC := hid hac
  have HOWN := hid hown
  have g1 : (i : Int) ≤ (u : Int) := by omega
  have g2 : (u : Int) ≤ (n : Int) := by omega
  have g3 : (n : Int) ≤ (cap : Int) := by omega
  have g4 : ¬ (i : Int) = (u : Int) := by omega
  have g5 : (i : Int) ≤ (cap : Int) := by omega
  have g6 : (u : Int) ≤ (cap : Int) := by omega
  have g7 : (M : Int) ≤ (n : Int) := by omega
  have g8 : (0 : Int) ≤ (M : Int) := by omega
  have g9 : (0 : Int) ≤ (u : Int) := by omega
  have e1 : ¬ cap = M := by omega
  have e2 : n - M = 1 := by omega
  have HMN : Hid (M + 1 = n) := by show M + 1 = n; omega
  have HU := hid hu
  clear hown hdx HZ hac hu
  go_enter Try.func59, Try.ntmps59
  go_wp2_with fail
  go_region_law (first
    | (refine stepF (by rfl) _ _ (by rfl) B g i m cap (xs.take (i * 6)) (xs.drop (u * 6)) ad (cap - u) (by simp [Act.eval, Act.put]) (by simp [Act.eval, Act.put]) HOWN.out hdl HAC.out (fun v hv => h1x v (List.mem_of_mem_drop hv)) (by omega) ?_; intro w3 ho3 hG3))
  all_goals
    rw [hM] at ho3
    rcases own_some ho3 with ⟨h, _⟩ | ⟨g', cur3, eg, -, -, R3, -, -, hc3, hx3⟩
    · cases h
    · have eg' : g = g' := by simpa using eg
      subst eg'
      have hcl := run_clear6 R3 0 (M * 6) (cap - M) (by have := HMN.out; omega)
      have R4 : RowAt (w3.setRow g _) g _ := setRow_heap w3 g _ (cur3.take (M * 6) ++ Z6 ++ cur3.drop (M * 6 + 6)).toArray _ _ R3
      have hG4 := grown_setRow w3 g (cur3.take (M * 6) ++ Z6 ++ cur3.drop (M * 6 + 6)).toArray
      generalize w3.setRow g _ = w4 at *
      have HE : Hid (DelDone w w4 B g n cap (xs.take (i * 6) ++ xs.drop (u * 6)) (.returned (.slice (some ⟨g, 0, none⟩) M cap))) := by
        have hMn := HMN.out
        refine ⟨M, hMn, rfl, ?_, ?_, ?_⟩
        · refine owns_of_row R4 hB (by omega) hm ?_ ?_
          · simp only [List.length_append, List.length_take, List.length_drop]
            simp only [List.length_cons, List.length_nil]
            omega
          · rw [List.append_assoc, List.take_append_of_le_length (by simp; omega), List.take_take, Nat.min_self]
            exact hx3
        · refine ⟨hG4.os.trans hG3.os, hG4.tape.trans hG3.tape, hG4.output.trans hG3.output, Nat.le_trans hG3.size hG4.size, fun k hk hne' => ?_⟩
          rw [hG4.block k (Nat.lt_of_lt_of_le hk hG3.size) hne', hG3.block k hk hne']
          rfl
        · intro h0
          rw [R4.cell 0, h0]
          rfl
      clear R3 R4 hG3 hG4 ho3 eg hx3 hc3
      go_wp2
      go_ret
      exact HE.out
end Go.Proofs.Ytlnkfgdepddmlac
