/- What all texts stand on: a slice of integers as it lies, what stays as it was, what is copied. -/
import Derived.Test.YtkipfppblhkodaaRows
import Derived.WalkKit
import Derived.WalkSpells
import Derived.WalkLawsBesides
import Derived.Lib.SliceRun
import Derived.OpenShut
import Derived.Deep.QuietTactic
import Derived.BigQuiet
import Derived.Laws.ShiftsVarLaws
import Derived.Deep.RegionWith
import Derived.Laws.AppendOwnNone
namespace Go.Proofs.Ytkipfppblhkodaa.Mth
/-- each is a byte -/
def Bytes (zs : List Int) : Prop := ∀ i, 0 ≤ zs.getD i 0 ∧ zs.getD i 0 < 256
end Go.Proofs.Ytkipfppblhkodaa.Mth
namespace Go.Proofs.Ytkipfppblhkodaa
open Go.RowKit

theorem ret_int {k : IntKind} {a b : Int} (h : a = b) : Ending.returned (.int k a) = .returned (.int k b) := by rw [h]

theorem vint {k : IntKind} {a b : Int} (h : a = b) : Value.int k a = .int k b := by rw [h]

theorem wrap_small (n : Int) (h0 : 0 ≤ n) (h : n < 9223372036854775808) : IntKind.i64.wrap n = n := by
  simp [IntKind.wrap, IntKind.bits, IntKind.signed]; omega

def BB (zs : List Int) : List Value := zs.map (Value.int .u8)

/-- a slice of integers, as it lies: its first 'len' cells are the numbers zs -/
def Has (k : IntKind) (w : World) (a : Option Addr) (len : Nat) (zs : List Int) : Prop :=
  zs.length = len ∧ (∀ n ∈ zs, (Lit.int k n).wf = true) ∧ (zs = [] ∨ ∃ b off, a = some ⟨b, off, none⟩ ∧ b < w.heap.size ∧ ∀ i, i < len → w.cell? ⟨b, off + i, none⟩ = some (.int k (zs.getD i 0)))

theorem Has.below {k : IntKind} {w w' : World} {a : Option Addr} {len B : Nat} {zs : List Int} (h : Has k w a len zs) (hb : Below B w w') (hB : w.heap.size ≤ B) : Has k w' a len zs := by
  refine ⟨h.1, h.2.1, ?_⟩
  rcases h.2.2 with h | ⟨b, off, rfl, hlt, hc⟩
  · exact .inl h
  · refine .inr ⟨b, off, rfl, Nat.lt_of_lt_of_le hlt hb.size, fun i hi => ?_⟩
    rw [hb.cell (p := ⟨b, off + i, none⟩) (Nat.lt_of_lt_of_le hlt hB)]
    exact hc i hi

theorem Has.bytes {w : World} {a : Option Addr} {len : Nat} {zs : List Int} (h : Has .u8 w a len zs) : Mth.Bytes zs := by
  intro i
  by_cases hi : i < zs.length
  · have hw := h.2.1 zs[i] (List.getElem_mem hi)
    have := bounds_u8 hw
    simp only [List.getD_eq_getElem?_getD, List.getElem?_eq_getElem hi, Option.getD_some]
    omega
  · simp [List.getD_eq_getElem?_getD, List.getElem?_eq_none (Nat.le_of_not_lt hi)]

theorem wf_u8 (n : Int) (h : 0 ≤ n ∧ n < 256) : (Lit.int .u8 n).wf = true := by
  simp [Lit.wf, IntKind.min, IntKind.max, IntKind.bits, IntKind.signed]
  omega

theorem Try.info5 : (Try.prog.info? 5).map (fun i => (i.zero, i.size, i.bytes)) = some (some (.int .u8 0), 1, 1) := by kernel_rfl

theorem bb_at {b off len : Nat} {zs : List Int} {w : World} {o : Obj} (hz : zs.length = len) (hc : ∀ i, i < len → w.cell? ⟨b, off + i, none⟩ = some (.int .u8 (zs.getD i 0))) :
    ∀ (j : Nat) (u : Value), (BB zs)[j]? = some u → (w.alloc o).cell? ((⟨b, off, none⟩ : Addr).add j) = some u := by
  intro j u hj
  have hj' : j < zs.length := by
    have := (List.getElem?_eq_some_iff.1 hj).1
    simpa [BB] using this
  have h1 := hc j (by omega)
  have h2 : ((w.alloc o).cell? ⟨b, off + j, none⟩) = w.cell? ⟨b, off + j, none⟩ :=
    ((Below.refl w.heap.size w).alloc (Nat.le_refl _) o).cell (p := ⟨b, off + j, none⟩) (World.block_lt_of_cell? w _ h1)
  rw [Addr.add_lit, h2, h1]
  simp only [BB, List.getElem?_map, List.getElem?_eq_getElem hj', Option.map_some, Option.some.injEq] at hj
  simp only [List.getD_eq_getElem?_getD, List.getElem?_eq_getElem hj', Option.getD_some, hj]

theorem bb_one (zs : List Int) : ∀ u ∈ BB zs, u.oneCell' = true := by
  intro u hu
  simp only [BB, List.mem_map] at hu
  obtain ⟨x, _, rfl⟩ := hu
  rfl

theorem Has.some {k : IntKind} {w : World} {a : Option Addr} {len : Nat} {zs : List Int} (h : Has k w a len zs) (h0 : 0 < len) :
    ∃ b off, a = some ⟨b, off, none⟩ ∧ b < w.heap.size ∧ ∀ i, i < len → w.cell? ⟨b, off + i, none⟩ = some (.int k (zs.getD i 0)) := by
  rcases h.2.2 with h1 | h1
  · have := h.1; rw [h1] at this; simp at this; omega
  · exact h1

theorem has_of_owns {w : World} {base g len cap : Nat} {zs : List Int} (h : w.ownsRow base 5 1 (.slice (some ⟨g, 0, none⟩) len cap) len (BB zs)) (hb : Mth.Bytes zs) : Has .u8 w (some ⟨g, 0, none⟩) len zs := by
  have hl : zs.length = len := by simpa [BB] using h.1
  refine ⟨hl, ?_, .inr ⟨g, 0, rfl, (h.lt g rfl).2, fun i hi => ?_⟩⟩
  · intro n hn
    obtain ⟨i, hi, rfl⟩ := List.getElem_of_mem hn
    have := hb i
    simp only [List.getD_eq_getElem?_getD, List.getElem?_eq_getElem hi, Option.getD_some] at this
    exact wf_u8 _ this
  · rw [Nat.zero_add, h.cellAt i (by omega)]
    simp only [BB, List.getElem?_map, List.getD_eq_getElem?_getD]
    rw [List.getElem?_eq_getElem (by omega)]; rfl

theorem bl_alloc {W w : World} (h : Below W.heap.size W w) {o : Obj} : Below W.heap.size W (w.alloc o) := h.alloc h.size o

theorem bl_step {W w w' : World} (h : Below W.heap.size W w) (k : Below w.heap.size w w') : Below W.heap.size W w' := h.trans (k.mono h.size)

theorem Has.alloc {k : IntKind} {w : World} {a : Option Addr} {len : Nat} {zs : List Int} (h : Has k w a len zs) {o : Obj} : Has k (w.alloc o) a len zs := h.below (bl_alloc (Below.refl _ _)) (Nat.le_refl _)

theorem Has.step {k : IntKind} {w w' : World} {a : Option Addr} {len : Nat} {zs : List Int} (h : Has k w a len zs) (b : Below w.heap.size w w') : Has k w' a len zs := h.below b (Nat.le_refl _)

/-- a row that is owned and not empty has a head -/
theorem owns_head {w : World} {base n : Nat} {v : Value} {xs : List Value} (h : w.ownsRow base 5 1 v n xs) (h0 : 0 < n) : ∃ g cap, v = .slice (some ⟨g, 0, none⟩) n cap ∧ n ≤ cap ∧ cap ≤ maxLen := by
  rcases h.2 with ⟨_, e⟩ | ⟨g, cap, cur, e, _, _, h1, h2, _⟩
  · omega
  · exact ⟨g, cap, e, h1, h2⟩

/-- what is owned lies as Has says -/
theorem has_of_owns8 {w : World} {base len : Nat} {v : Value} {zs : List Int} (h : w.ownsRow base 5 1 v len (BB zs)) (hb : Mth.Bytes zs) : ∃ a cap, v = .slice a len cap ∧ Has .u8 w a len zs := by
  rcases h.2 with ⟨rfl, rfl⟩ | ⟨g, cap, cur, rfl, _⟩
  · have hl : zs.length = 0 := by simpa [BB] using h.1
    exact ⟨none, 0, rfl, hl, by rw [List.eq_nil_of_length_eq_zero hl]; simp, .inl (List.eq_nil_of_length_eq_zero hl)⟩
  · exact ⟨_, cap, rfl, has_of_owns h hb⟩

theorem has_cells {w : World} {ad : Addr} {m : Nat} {zs : List Int} (h : Has .u8 w (some ad) m zs) : ∀ (j : Nat) (u : Value), (BB zs)[j]? = some u → w.cell? (ad.add j) = some u := by
  intro j u hj
  have hj' : j < zs.length := by
    have := (List.getElem?_eq_some_iff.1 hj).1
    simpa [BB] using this
  have hl := h.1
  obtain ⟨b, off, e, _, hc⟩ := h.some (by omega)
  simp only [Option.some.injEq] at e
  subst e
  rw [Addr.add_lit, hc j (by omega)]
  simp only [BB, List.getElem?_map, List.getElem?_eq_getElem hj', Option.map_some, Option.some.injEq] at hj
  simp only [List.getD_eq_getElem?_getD, List.getElem?_eq_getElem hj', Option.getD_some, hj]

theorem first_of (P : Nat → Prop) (m : Nat) : (∀ j, j < m → P j) ∨ ∃ i, i < m ∧ ¬ P i ∧ ∀ j, j < i → P j := by
  induction m with
  | zero => exact .inl (fun j hj => absurd hj (Nat.not_lt_zero _))
  | succ m ih =>
    rcases ih with h | ⟨i, hi, h1, h2⟩
    · by_cases hp : P m
      · refine .inl (fun j hj => ?_)
        by_cases e : j = m
        · subst e; exact hp
        · exact h j (by omega)
      · exact .inr ⟨m, Nat.lt_succ_self _, hp, h⟩
    · exact .inr ⟨i, by omega, h1, h2⟩

theorem has_nil (k : IntKind) (w : World) : Has k w none 0 [] := ⟨rfl, by simp, .inl rfl⟩

theorem owns_below {w w' : World} {base : Nat} {e : TypeId} {size : Nat} {v : Value} {n : Nat} {xs : List Value} (h : w.ownsRow base e size v n xs) (hb : Below w.heap.size w w') : w'.ownsRow base e size v n xs := by
  refine ⟨h.1, ?_⟩
  rcases h.2 with h2 | ⟨g, cap, cur, hv, hg, hh, r⟩
  · exact .inl h2
  · exact .inr ⟨g, cap, cur, hv, hg, by rw [hb.block g (Array.getElem?_eq_some_iff.1 hh).1]; exact hh, r⟩

theorem hid {p : Prop} (h : p) : Hid p := h

end Go.Proofs.Ytkipfppblhkodaa
