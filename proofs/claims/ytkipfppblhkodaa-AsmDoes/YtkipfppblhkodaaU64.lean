/- Rows of uint64 as they lie. -/
import Derived.Test.YtkipfppblhkodaaBase
namespace Go.Proofs.Ytkipfppblhkodaa
open Go.RowKit

def UU (zs : List Int) : List Value := zs.map (Value.int .u64)

theorem Try.info32 : (Try.prog.info? 32).map (fun i => (i.zero, i.size, i.bytes)) = some (some (.int .u64 0), 1, 8) := by kernel_rfl

theorem wf_u64 (n : Int) (h : 0 ≤ n ∧ n < 18446744073709551616) : (Lit.int .u64 n).wf = true := by
  simp [Lit.wf, IntKind.min, IntKind.max, IntKind.bits, IntKind.signed]
  omega

/-- what is owned lies as Has says -/
theorem has_of_owns64 {w : World} {base len : Nat} {v : Value} {zs : List Int} (h : w.ownsRow base 32 1 v len (UU zs)) (hb : ∀ n ∈ zs, 0 ≤ n ∧ n < 18446744073709551616) : ∃ a cap, v = .slice a len cap ∧ Has .u64 w a len zs := by
  have hl : zs.length = len := by simpa [UU] using h.1
  rcases h.2 with ⟨rfl, rfl⟩ | ⟨g, cap, cur, rfl, _⟩
  · exact ⟨none, 0, rfl, hl, fun n hn => wf_u64 n (hb n hn), .inl (List.eq_nil_of_length_eq_zero hl)⟩
  · refine ⟨some ⟨g, 0, none⟩, cap, rfl, hl, fun n hn => wf_u64 n (hb n hn), .inr ⟨g, 0, rfl, (h.lt g rfl).2, fun i hi => ?_⟩⟩
    rw [Nat.zero_add, h.cellAt i (by omega)]
    simp only [UU, List.getElem?_map, List.getD_eq_getElem?_getD]
    rw [List.getElem?_eq_getElem (by omega)]; rfl

theorem uu_one (zs : List Int) : ∀ u ∈ UU zs, u.oneCell' = true := by
  intro u hu
  simp only [UU, List.mem_map] at hu
  obtain ⟨x, _, rfl⟩ := hu
  rfl

theorem has_cells64 {w : World} {ad : Addr} {m : Nat} {zs : List Int} (h : Has .u64 w (some ad) m zs) : ∀ (j : Nat) (u : Value), (UU zs)[j]? = some u → w.cell? (ad.add j) = some u := by
  intro j u hj
  have hj' : j < zs.length := by
    have := (List.getElem?_eq_some_iff.1 hj).1
    simpa [UU] using this
  have hl := h.1
  obtain ⟨b, off, e, _, hc⟩ := h.some (by omega)
  simp only [Option.some.injEq] at e
  subst e
  rw [Addr.add_lit, hc j (by omega)]
  simp only [UU, List.getElem?_map, List.getElem?_eq_getElem hj', Option.map_some, Option.some.injEq] at hj
  simp only [List.getD_eq_getElem?_getD, List.getElem?_eq_getElem hj', Option.getD_some, hj]

theorem Has.nums {w : World} {a : Option Addr} {len : Nat} {zs : List Int} (h : Has .u64 w a len zs) : ∀ n ∈ zs, 0 ≤ n ∧ n < 18446744073709551616 := fun n hn => by
  have := bounds_u64 (h.2.1 n hn)
  omega

theorem own_at64 {w : World} {base g len cap : Nat} {zs : List Int} (h : w.ownsRow base 32 1 (.slice (some ⟨g, 0, none⟩) len cap) len (UU zs)) (i : Nat) (hi : i < len) : w.cell? ⟨g, i, none⟩ = some (.int .u64 (zs.getD i 0)) := by
  have hl : zs.length = len := by simpa [UU] using h.1
  rw [h.cellAt i (by omega)]
  simp only [UU, List.getElem?_map, List.getD_eq_getElem?_getD]
  rw [List.getElem?_eq_getElem (by omega)]; rfl

theorem push64 {w : World} {base n : Nat} {v : Value} {ys : List Int} {x y : Int} (h : w.ownsRow base 32 1 v (n + 1) (UU ys ++ [.int .u64 x])) (e : x = y) : w.ownsRow base 32 1 v (n + 1) (UU (ys ++ [y])) := by
  subst e
  simpa [UU] using h

/-- a row of one's own: what it is -/
theorem own_is {w : World} {base e len : Nat} {v : Value} {xs : List Value} (h : w.ownsRow base e 1 v len xs) : ∃ a cap, v = .slice a len cap ∧ len ≤ cap ∧ (a = none → len = 0 ∧ cap = 0) := by
  rcases h.2 with ⟨rfl, rfl⟩ | ⟨g, cap, cur, rfl, _, _, h1, _⟩
  · exact ⟨none, 0, rfl, Nat.le_refl _, fun _ => ⟨rfl, rfl⟩⟩
  · exact ⟨_, cap, rfl, h1, fun h => by cases h⟩

theorem has_own64 {w : World} {base len : Nat} {a : Option Addr} {cap : Nat} {zs : List Int} (h : w.ownsRow base 32 1 (.slice a len cap) len (UU zs)) (hb : ∀ n ∈ zs, 0 ≤ n ∧ n < 18446744073709551616) : Has .u64 w a len zs := by
  obtain ⟨a', c', e, h'⟩ := has_of_owns64 h hb
  simp only [Value.slice.injEq] at e
  rw [e.1]; exact h'

/-- it lies from the block B on -/
def From (B : Nat) (a : Option Addr) (n : Nat) : Prop := 0 < n → ∃ b off, a = some ⟨b, off, none⟩ ∧ B ≤ b ∧ off = 0

theorem own_from {w : World} {base e n c : Nat} {a : Option Addr} {xs : List Value} (h : w.ownsRow base e 1 (.slice a n c) n xs) : From base a n := by
  intro h0
  rcases h.2 with ⟨_, e⟩ | ⟨g, cap, cur, e, hb, _⟩
  · omega
  · simp only [Value.slice.injEq] at e
    exact ⟨g, 0, e.1, hb, rfl⟩

theorem From.mono {B B' : Nat} {a : Option Addr} {n : Nat} (h : From B a n) (hB : B' ≤ B) : From B' a n := by
  intro h0
  obtain ⟨b, off, e, hb, h1⟩ := h h0
  exact ⟨b, off, e, Nat.le_trans hB hb, h1⟩

/-- numbers stay while another block is turned -/
theorem Has.off {k : IntKind} {w w' : World} {a : Option Addr} {len g B : Nat} {zs : List Int} (h : Has k w a len zs) (f : From B a len) (hg : g < B) (hr : w.grownBy w' (Option.some g)) : Has k w' a len zs := by
  refine ⟨h.1, h.2.1, ?_⟩
  by_cases h0 : 0 < len
  · obtain ⟨b, off, rfl, hlt, hc⟩ := h.some h0
    obtain ⟨b', off', e, hb, _⟩ := f h0
    simp only [Option.some.injEq, Addr.mk.injEq] at e
    obtain ⟨rfl, rfl, _⟩ := e
    exact .inr ⟨b, off, rfl, Nat.lt_of_lt_of_le hlt hr.size, fun i hi => hr.cell (hc i hi) (by simp; omega)⟩
  · left
    exact List.eq_nil_of_length_eq_zero (by have := h.1; omega)
end Go.Proofs.Ytkipfppblhkodaa
