/- The machine's small questions: reg, filled, areSet, hasRoom. -/
import Derived.Test.YtmceifkjmknjcaaVDef
import Derived.Test.YtmceifkjmknjcaaGFits
namespace Go.Proofs.Ytmceifkjmknjcaa
open Go.RowKit

@[reducible] def mptr (b : Nat) : Value := .pointer (some ⟨b, 0, none⟩)

set_option maxHeartbeats 1000000 in
set_option maxRecDepth 20000 in
theorem vreg {W : World} {b : Nat} {k : MK} {m : MD} {w : World} (h : MAt W b k m w) {r : Nat} (hr : r < 10) : Calls Try.prog 26 #[mptr b, .int .i64 (r : Int)] w fun e w' => e = .returned (.int .u64 (m.rn r : Int)) ∧ w' = w := by
  have c := h.rn r hr
  have hl := h.lt
  have hri : (r : Int) < 10 := by omega
  clear h
  go_enter Try.func26, Try.ntmps26
  go_wp2
  go_ret
  exact ⟨rfl, rfl⟩

set_option maxHeartbeats 1000000 in
set_option maxRecDepth 20000 in
theorem vfilled (n : Int) (w : World) : Calls Try.prog 21 #[.int .u64 n] w fun e w' => e = .returned (.agg #[.int .u64 n, .bool true]) ∧ w' = w.alloc (.cells #[.int .u64 n, .bool true] 44) := by
  go_enter Try.func21, Try.ntmps21
  go_wp2
  exact bodyPost_ret (v := .agg #[.int .u64 n, .bool true]) (by simp [results, Try.results21, go_sem, *]) rfl ⟨rfl, rfl⟩

/-- cells as they lie: whether each has something -/
def HasC (w : World) (a : Option Addr) (bs : List Bool) : Prop := ∀ i x, bs[i]? = some x → ∃ g off n, a = some ⟨g, off, none⟩ ∧ w.cell? ⟨g, off + i * 2, none⟩ = some (.int .u64 n) ∧ w.cell? ⟨g, off + i * 2 + 1, none⟩ = some (.bool x)

theorem HasC.step {w w' : World} {a : Option Addr} {bs : List Bool} (h : HasC w a bs) (hb : Below w.heap.size w w') : HasC w' a bs := fun i x hx => by
  obtain ⟨g, off, n, e, h1, h2⟩ := h i x hx
  exact ⟨g, off, n, e, cell_keep h1 hb, cell_keep h2 hb⟩

set_option maxHeartbeats 2000000 in
set_option maxRecDepth 20000 in
theorem vareSet {w : World} {a : Option Addr} {bs : List Bool} (c : Nat) (h : HasC w a bs) (hn : bs.length ≤ 100) : Calls Try.prog 34 #[.slice a bs.length c] w (TellB (bs.all id) w) := by
  obtain ⟨n, hnn⟩ : ∃ n, n = bs.length := ⟨_, rfl⟩
  rw [← hnn] at hn ⊢
  have HN := hid hnn
  have HH := hid h
  have HT : Hid (∀ w', bs.all id = true → Below w.heap.size w w' → TellB (bs.all id) w (.returned (.bool true)) w') := fun w' e h => ⟨by rw [e], h⟩
  have HF : Hid (∀ w', bs.all id = false → Below w.heap.size w w' → TellB (bs.all id) w (.returned (.bool false)) w') := fun w' e h => ⟨by rw [e], h⟩
  clear h hnn
  go_enter Try.func34, Try.ntmps34
  go_wp2
  go_loopw [7, 4] (fun q _ wr => ∃ i : Nat, i ≤ n ∧ q = .int .i64 i ∧ Hid (Below w.heap.size w wr) ∧ Hid (∀ j x, j < i → bs[j]? = some x → x = true)) (fun q _ _ => n - (intOf q).toNat)
  case atStart => exact ⟨0, Nat.zero_le _, rfl, Below.refl _ _, fun j t hj => absurd hj (Nat.not_lt_zero _)⟩
  case round =>
    obtain ⟨i, hi, rfl, hb, HA⟩ := hrel
    by_cases hlt : i < n
    · have hki : (i : Int) < (n : Int) := by omega
      have hbi : bs[i]? = some bs[i] := List.getElem?_eq_getElem _
      obtain ⟨g, off, v, rfl, c0, c1⟩ := HH.out.step hb.out i _ hbi
      have HBI := hid hbi
      generalize bs[i]'(by have := HN.out; omega) = x at *
      clear hbi
      have HB2 : Hid (∀ o, Below w.heap.size w (wr.alloc o)) := fun o => bl_alloc hb.out
      cases x with
      | true =>
        have HA2 : Hid (∀ j x, j < i + 1 → bs[j]? = some x → x = true) := fun j u hj hu => by
          rcases Nat.lt_or_ge j i with h | h
          · exact HA.out j u h hu
          · obtain rfl : j = i := by omega
            rw [HBI.out] at hu
            exact (Option.some.inj hu).symm
        go_wp2
        go_roundw
        case rel => exact ⟨i + 1, by omega, by go_num, HB2.out _, HA2⟩
        case measure => simp [intOf]; omega
      | false =>
        have HX : Hid (bs.all id = false) := by
          show _ = _
          rw [List.all_eq_false]
          exact ⟨false, List.mem_of_getElem? HBI.out, by simp⟩
        go_wp2
        go_ret
        exact HF.out _ HX.out (HB2.out _)
    · have hki : ¬ (i : Int) < (n : Int) := by omega
      have HX : Hid (bs.all id = true) := by
        show _ = _
        rw [List.all_eq_true]
        intro x hx
        obtain ⟨j, hj, rfl⟩ := List.getElem_of_mem hx
        exact HA.out j _ (by have := HN.out; omega) (List.getElem?_eq_getElem hj)
      go_wp2
      go_ret
      exact HT.out _ HX.out hb.out

/-- so many bytes from a place on, of n -/
def roomB (n f l : Nat) : Bool := decide (f ≤ n) && decide (l ≤ n - f)

set_option maxHeartbeats 1000000 in
set_option maxRecDepth 20000 in
theorem vroom {W : World} {b : Nat} {k : MK} {m : MD} {w : World} (h : MAt W b k m w) (hp : k.pk.n ≤ 600) (f l : Nat) (hf : f < 18446744073709551616) : Calls Try.prog 28 #[mptr b, .int .u64 (f : Int), .int .u64 (l : Int)] w fun e w' => e = .returned (.bool (roomB k.pk.n f l)) ∧ w' = w := by
  have c := h.c2
  have hb := h.lt
  have hu := gwrap_u (k.pk.n : Int) (by omega) (by omega)
  generalize k.pk = q at *
  obtain ⟨a, n, cc⟩ := q
  dsimp only at *
  clear h
  unfold roomB
  by_cases h1 : f ≤ n
  · have h1i : (f : Int) ≤ (n : Int) := by omega
    have hs : IntKind.u64.wrap ((n : Int) - (f : Int)) = ((n - f : Nat) : Int) := by rw [gwrap_u _ (by omega) (by omega)]; omega
    obtain ⟨d, hd⟩ : ∃ d, d = n - f := ⟨_, rfl⟩
    rw [← hd] at hs ⊢
    rw [decide_eq_true h1, Bool.true_and]
    clear hd h1
    go_enter Try.func28, Try.ntmps28
    go_wp2
    go_ret
    exact ⟨rfl, rfl⟩
  · have h1i : ¬ (f : Int) ≤ (n : Int) := by omega
    rw [decide_eq_false h1, Bool.false_and]
    go_enter Try.func28, Try.ntmps28
    go_wp2
    go_ret
    exact ⟨rfl, rfl⟩
end Go.Proofs.Ytmceifkjmknjcaa
