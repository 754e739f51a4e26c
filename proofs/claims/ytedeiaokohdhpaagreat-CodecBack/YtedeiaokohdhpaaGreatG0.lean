/- Texts of one chain, joined: Base, U64, Math, JMath, Join, RMath, PMath, SInts. -/
import Derived.Test.YtedeiaokohdhpaaGreatRows
import Derived.WalkKit
import Derived.WalkSpells
import Derived.WalkLawsBesides
import Derived.Lib.SliceRun
import Derived.OpenShut
import Derived.Deep.QuietTactic
import Derived.BigQuiet
import Derived.Laws.ShiftsVarLaws
import Derived.Deep.RegionWith
import Derived.Laws.AppendOwnNone
namespace Go.Proofs.YtedeiaokohdhpaaGreat.Mth
def Bytes (zs : List Int) : Prop := ∀ i, 0 ≤ zs.getD i 0 ∧ zs.getD i 0 < 256
end Go.Proofs.YtedeiaokohdhpaaGreat.Mth
namespace Go.Proofs.YtedeiaokohdhpaaGreat
open Go.RowKit
theorem ret_int {k : IntKind} {a b : Int} (h : a = b) : Ending.returned (.int k a) = .returned (.int k b) := by rw [h]
theorem vint {k : IntKind} {a b : Int} (h : a = b) : Value.int k a = .int k b := by rw [h]
theorem wrap_small (n : Int) (h0 : 0 ≤ n) (h : n < 9223372036854775808) : IntKind.i64.wrap n = n := by
  simp [IntKind.wrap, IntKind.bits, IntKind.signed]; omega
def BB (zs : List Int) : List Value := zs.map (Value.int .u8)
def Has (k : IntKind) (w : World) (a : Option Addr) (len : Nat) (zs : List Int) : Prop :=
  zs.length = len ∧ (∀ n ∈ zs, (Lit.int k n).wf = true) ∧ (zs = [] ∨ ∃ b off, a = some ⟨b, off, none⟩ ∧ b < w.heap.size ∧ ∀ i, i < len → w.cell? ⟨b, off + i, none⟩ = some (.int k (zs.getD i 0)))
theorem Has.below {k : IntKind} {w w' : World} {a : Option Addr} {len B : Nat} {zs : List Int} (h : Has k w a len zs) (hb : Below B w w') (hB : w.heap.size ≤ B) : Has k w' a len zs := by
  refine ⟨h.1, h.2.1, ?_⟩
  rcases h.2.2 with h | ⟨b, off, rfl, hlt, hc⟩
  · exact .inl h
  · refine .inr ⟨b, off, rfl, Nat.lt_of_lt_of_le hlt hb.size, fun i hi => ?_⟩
    rw [hb.cell (p := ⟨b, off + i, none⟩) (Nat.lt_of_lt_of_le hlt hB)]
    exact hc i hi
theorem Has.bytes {w : World} {a : Option Addr} {len : Nat} {zs : List Int} (h : Has .u8 w a len zs) : Mth.Bytes zs := by
  intro i
  by_cases hi : i < zs.length
  · have hw := h.2.1 zs[i] (List.getElem_mem hi)
    have := bounds_u8 hw
    simp only [List.getD_eq_getElem?_getD, List.getElem?_eq_getElem hi, Option.getD_some]
    omega
  · simp [List.getD_eq_getElem?_getD, List.getElem?_eq_none (Nat.le_of_not_lt hi)]
theorem wf_u8 (n : Int) (h : 0 ≤ n ∧ n < 256) : (Lit.int .u8 n).wf = true := by
  simp [Lit.wf, IntKind.min, IntKind.max, IntKind.bits, IntKind.signed]
  omega
theorem Tryz.info5 : (Tryz.prog.info? 5).map (fun i => (i.zero, i.size, i.bytes)) = some (some (.int .u8 0), 1, 1) := by kernel_rfl
theorem bb_one (zs : List Int) : ∀ u ∈ BB zs, u.oneCell' = true := by
  intro u hu
  simp only [BB, List.mem_map] at hu
  obtain ⟨x, _, rfl⟩ := hu
  rfl
theorem Has.some {k : IntKind} {w : World} {a : Option Addr} {len : Nat} {zs : List Int} (h : Has k w a len zs) (h0 : 0 < len) :
    ∃ b off, a = some ⟨b, off, none⟩ ∧ b < w.heap.size ∧ ∀ i, i < len → w.cell? ⟨b, off + i, none⟩ = some (.int k (zs.getD i 0)) := by
  rcases h.2.2 with h1 | h1
  · have := h.1; rw [h1] at this; simp at this; omega
  · exact h1
theorem has_of_owns {w : World} {base g len cap : Nat} {zs : List Int} (h : w.ownsRow base 5 1 (.slice (some ⟨g, 0, none⟩) len cap) len (BB zs)) (hb : Mth.Bytes zs) : Has .u8 w (some ⟨g, 0, none⟩) len zs := by
  have hl : zs.length = len := by simpa [BB] using h.1
  refine ⟨hl, ?_, .inr ⟨g, 0, rfl, (h.lt g rfl).2, fun i hi => ?_⟩⟩
  · intro n hn
    obtain ⟨i, hi, rfl⟩ := List.getElem_of_mem hn
    have := hb i
    simp only [List.getD_eq_getElem?_getD, List.getElem?_eq_getElem hi, Option.getD_some] at this
    exact wf_u8 _ this
  · rw [Nat.zero_add, h.cellAt i (by omega)]
    simp only [BB, List.getElem?_map, List.getD_eq_getElem?_getD]
    rw [List.getElem?_eq_getElem (by omega)]; rfl
theorem bl_alloc {W w : World} (h : Below W.heap.size W w) {o : Obj} : Below W.heap.size W (w.alloc o) := h.alloc h.size o
theorem bl_step {W w w' : World} (h : Below W.heap.size W w) (k : Below w.heap.size w w') : Below W.heap.size W w' := h.trans (k.mono h.size)
theorem Has.alloc {k : IntKind} {w : World} {a : Option Addr} {len : Nat} {zs : List Int} (h : Has k w a len zs) {o : Obj} : Has k (w.alloc o) a len zs := h.below (bl_alloc (Below.refl _ _)) (Nat.le_refl _)
theorem Has.step {k : IntKind} {w w' : World} {a : Option Addr} {len : Nat} {zs : List Int} (h : Has k w a len zs) (b : Below w.heap.size w w') : Has k w' a len zs := h.below b (Nat.le_refl _)
theorem has_of_owns8 {w : World} {base len : Nat} {v : Value} {zs : List Int} (h : w.ownsRow base 5 1 v len (BB zs)) (hb : Mth.Bytes zs) : ∃ a cap, v = .slice a len cap ∧ Has .u8 w a len zs := by
  rcases h.2 with ⟨rfl, rfl⟩ | ⟨g, cap, cur, rfl, _⟩
  · have hl : zs.length = 0 := by simpa [BB] using h.1
    exact ⟨none, 0, rfl, hl, by rw [List.eq_nil_of_length_eq_zero hl]; simp, .inl (List.eq_nil_of_length_eq_zero hl)⟩
  · exact ⟨_, cap, rfl, has_of_owns h hb⟩
theorem has_cells {w : World} {ad : Addr} {m : Nat} {zs : List Int} (h : Has .u8 w (some ad) m zs) : ∀ (j : Nat) (u : Value), (BB zs)[j]? = some u → w.cell? (ad.add j) = some u := by
  intro j u hj
  have hj' : j < zs.length := by
    have := (List.getElem?_eq_some_iff.1 hj).1
    simpa [BB] using this
  have hl := h.1
  obtain ⟨b, off, e, _, hc⟩ := h.some (by omega)
  simp only [Option.some.injEq] at e
  subst e
  rw [Addr.add_lit, hc j (by omega)]
  simp only [BB, List.getElem?_map, List.getElem?_eq_getElem hj', Option.map_some, Option.some.injEq] at hj
  simp only [List.getD_eq_getElem?_getD, List.getElem?_eq_getElem hj', Option.getD_some, hj]
theorem first_of (P : Nat → Prop) (m : Nat) : (∀ j, j < m → P j) ∨ ∃ i, i < m ∧ ¬ P i ∧ ∀ j, j < i → P j := by
  induction m with
  | zero => exact .inl (fun j hj => absurd hj (Nat.not_lt_zero _))
  | succ m ih =>
    rcases ih with h | ⟨i, hi, h1, h2⟩
    · by_cases hp : P m
      · refine .inl (fun j hj => ?_)
        by_cases e : j = m
        · subst e; exact hp
        · exact h j (by omega)
      · exact .inr ⟨m, Nat.lt_succ_self _, hp, h⟩
    · exact .inr ⟨i, by omega, h1, h2⟩
theorem has_nil (k : IntKind) (w : World) : Has k w none 0 [] := ⟨rfl, by simp, .inl rfl⟩
theorem owns_below {w w' : World} {base : Nat} {e : TypeId} {size : Nat} {v : Value} {n : Nat} {xs : List Value} (h : w.ownsRow base e size v n xs) (hb : Below w.heap.size w w') : w'.ownsRow base e size v n xs := by
  refine ⟨h.1, ?_⟩
  rcases h.2 with h2 | ⟨g, cap, cur, hv, hg, hh, r⟩
  · exact .inl h2
  · exact .inr ⟨g, cap, cur, hv, hg, by rw [hb.block g (Array.getElem?_eq_some_iff.1 hh).1]; exact hh, r⟩
theorem hid {p : Prop} (h : p) : Hid p := h
end Go.Proofs.YtedeiaokohdhpaaGreat

namespace Go.Proofs.YtedeiaokohdhpaaGreat
open Go.RowKit
theorem Tryz.info96 : (Tryz.prog.info? 96).map (fun i => (i.zero, i.size, i.bytes)) = some (some (.int .u64 0), 1, 8) := by kernel_rfl
theorem Has.nums {w : World} {a : Option Addr} {len : Nat} {zs : List Int} (h : Has .u64 w a len zs) : ∀ n ∈ zs, 0 ≤ n ∧ n < 18446744073709551616 := fun n hn => by
  have := bounds_u64 (h.2.1 n hn)
  omega
theorem own_is {w : World} {base e len : Nat} {v : Value} {xs : List Value} (h : w.ownsRow base e 1 v len xs) : ∃ a cap, v = .slice a len cap ∧ len ≤ cap ∧ (a = none → len = 0 ∧ cap = 0) := by
  rcases h.2 with ⟨rfl, rfl⟩ | ⟨g, cap, cur, rfl, _, _, h1, _⟩
  · exact ⟨none, 0, rfl, Nat.le_refl _, fun _ => ⟨rfl, rfl⟩⟩
  · exact ⟨_, cap, rfl, h1, fun h => by cases h⟩
set_option maxHeartbeats 1000000 in
set_option maxRecDepth 20000 in
theorem same_nums {w : World} {a b : Option Addr} {m : Nat} {ps : List Int} (c d : Nat) (hm : m ≤ 1000) (ha : Has .u64 w a m ps) (hb : Has .u64 w b m ps) :
    Calls Tryz.prog 83 #[.slice a m c, .slice b m d] w fun e w' => e = .returned (.bool true) ∧ ∃ s, w' = w.drewN s := by
  have hne : ((m : Int) != (m : Int)) = false := by simp
  go_enter Tryz.func83, Tryz.ntmps83
  go_wp2
  go_loopw [5] (fun q wr => ∃ k : Nat, k ≤ m ∧ q = .int .i64 k ∧ Hid (∃ s, wr = w.drewN s)) (fun q _ => m - (intOf q).toNat)
  case atStart => exact ⟨0, Nat.zero_le _, rfl, 0, rfl⟩
  case round =>
    obtain ⟨k, hk, rfl, hq⟩ := hrel
    by_cases hlt : k < m
    · obtain ⟨p1, o1, rfl, hp1, hc1⟩ := ha.some (by omega)
      obtain ⟨p2, o2, rfl, hp2, hc2⟩ := hb.some (by omega)
      have q1 : wr.cell? ⟨p1, o1 + k, none⟩ = some (.int .u64 (ps.getD k 0)) := by obtain ⟨s, e⟩ := hq; rw [e]; exact hc1 k hlt
      have q2 : wr.cell? ⟨p2, o2 + k, none⟩ = some (.int .u64 (ps.getD k 0)) := by obtain ⟨s, e⟩ := hq; rw [e]; exact hc2 k hlt
      clear hc1 hc2 hp1 hp2 ha hb
      have hki : (k : Int) < (m : Int) := by omega
      simp only [List.getD_eq_getElem?_getD] at q1 q2
      generalize ps[k]?.getD 0 = x at *
      have hx : (x != x) = false := by simp
      go_wp2
      go_big_quiet (fail)
      go_wp2
      go_roundw
      case rel => exact ⟨k + 1, by omega, by go_num, by obtain ⟨s, e⟩ := hq; rw [e]; exact ⟨_, World.drewN_drewN _ _ _⟩⟩
      case measure => simp [intOf]; omega
    · go_wp2
      go_ret
      exact ⟨rfl, hq⟩
def From (B : Nat) (a : Option Addr) (n : Nat) : Prop := 0 < n → ∃ b off, a = some ⟨b, off, none⟩ ∧ B ≤ b ∧ off = 0
theorem From.mono {B B' : Nat} {a : Option Addr} {n : Nat} (h : From B a n) (hB : B' ≤ B) : From B' a n := by
  intro h0
  obtain ⟨b, off, e, hb, h1⟩ := h h0
  exact ⟨b, off, e, Nat.le_trans hB hb, h1⟩
theorem Has.off {k : IntKind} {w w' : World} {a : Option Addr} {len g B : Nat} {zs : List Int} (h : Has k w a len zs) (f : From B a len) (hg : g < B) (hr : w.grownBy w' (Option.some g)) : Has k w' a len zs := by
  refine ⟨h.1, h.2.1, ?_⟩
  by_cases h0 : 0 < len
  · obtain ⟨b, off, rfl, hlt, hc⟩ := h.some h0
    obtain ⟨b', off', e, hb, _⟩ := f h0
    simp only [Option.some.injEq, Addr.mk.injEq] at e
    obtain ⟨rfl, rfl, _⟩ := e
    exact .inr ⟨b, off, rfl, Nat.lt_of_lt_of_le hlt hr.size, fun i hi => hr.cell (hc i hi) (by simp; omega)⟩
  · left
    exact List.eq_nil_of_length_eq_zero (by have := h.1; omega)
end Go.Proofs.YtedeiaokohdhpaaGreat

namespace Go.Proofs.YtedeiaokohdhpaaGreat.Mth
def bit (zs : List Int) (i : Nat) : Bool := (zs.getD (i / 8) 0).toNat.testBit (7 - i % 8)
def rd (zs : List Int) (t : Nat) : Nat → Nat
  | 0 => 0
  | k + 1 => 2 * rd zs t k + (bit zs (t + k)).toNat
def one (x : Nat) (p : Nat) (c : Bool) : Nat := if c then x ||| 2 ^ p else x &&& (255 - 2 ^ p)
def put1 (zs : List Int) (i : Nat) (c : Bool) : List Int := zs.set (i / 8) ((one (zs.getD (i / 8) 0).toNat (7 - i % 8) c : Nat) : Int)
def wr (zs : List Int) (t n v : Nat) : Nat → List Int
  | 0 => zs
  | k + 1 => put1 (wr zs t n v k) (t + k) (v.testBit (n - 1 - k))
theorem one_lt (x p : Nat) (c : Bool) (hx : x < 256) (hp : p < 8) : one x p c < 256 := by
  unfold one
  split
  · exact Nat.or_lt_two_pow (n := 8) hx (Nat.pow_lt_pow_right (by decide) hp)
  · exact Nat.lt_of_le_of_lt Nat.and_le_left hx
theorem one_bit (x p q : Nat) (c : Bool) (hx : x < 256) (hp : p < 8) : (one x p c).testBit q = if q = p then c else x.testBit q := by
  have hq : (255 - 2 ^ p).testBit q = (decide (q < 8) && !(2 ^ p).testBit q) := by
    have h := Nat.testBit_two_pow_sub_succ (x := 2 ^ p) (n := 8) (Nat.pow_lt_pow_right (by decide) hp) q
    rw [show 2 ^ 8 - (2 ^ p + 1) = 255 - 2 ^ p from by omega] at h
    exact h
  unfold one
  by_cases e : q = p
  · subst e
    cases c
    · simp [Nat.testBit_and, hq, Nat.testBit_two_pow_self]
    · simp [Nat.testBit_or, Nat.testBit_two_pow_self]
  · have h2 : (2 ^ p).testBit q = false := Nat.testBit_two_pow_of_ne (fun h => e h.symm)
    cases c
    · rw [if_neg (by decide), Nat.testBit_and, hq, h2, if_neg e]
      by_cases h8 : q < 8
      · simp [h8]
      · have : x.testBit q = false := Nat.testBit_lt_two_pow (Nat.lt_of_lt_of_le hx (by
          have := Nat.pow_le_pow_right (n := 2) (by decide) (show 8 ≤ q by omega); simpa using this))
        simp [this]
    · simp [Nat.testBit_or, h2, e]
theorem getD_set (zs : List Int) (j i : Nat) (x : Int) : (zs.set j x).getD i 0 = if i = j ∧ j < zs.length then x else zs.getD i 0 := by
  simp only [List.getD_eq_getElem?_getD, List.getElem?_set]
  by_cases h : j = i
  · subst h
    by_cases h2 : j < zs.length
    · simp [h2]
    · simp [h2]
  · have h' : ¬ i = j := fun e => h e.symm
    simp [h, h']
theorem put1_length (zs : List Int) (i : Nat) (c : Bool) : (put1 zs i c).length = zs.length := by simp [put1]
theorem put1_bytes (zs : List Int) (i : Nat) (c : Bool) (h : Bytes zs) : Bytes (put1 zs i c) := by
  intro j
  unfold put1
  rw [getD_set]
  have hb := h (i / 8)
  split
  · have := one_lt (zs.getD (i / 8) 0).toNat (7 - i % 8) c (by omega) (by omega)
    omega
  · exact h j
theorem put1_bit (zs : List Int) (i j : Nat) (c : Bool) (h : Bytes zs) (hi : i < 8 * zs.length) : bit (put1 zs i c) j = if j = i then c else bit zs j := by
  unfold bit put1
  rw [getD_set]
  have hb := h (i / 8)
  by_cases e : j / 8 = i / 8
  · rw [if_pos ⟨e, by omega⟩, Int.toNat_natCast, one_bit _ _ _ _ (by omega) (by omega), e]
    by_cases e2 : j = i
    · subst e2; simp
    · rw [if_neg (by omega), if_neg e2]
  · rw [if_neg (by omega), if_neg (by omega)]
theorem wr_length (zs : List Int) (t n v k : Nat) : (wr zs t n v k).length = zs.length := by
  induction k with
  | zero => rfl
  | succ k ih => rw [wr, put1_length, ih]
theorem wr_bytes (zs : List Int) (t n v k : Nat) (h : Bytes zs) : Bytes (wr zs t n v k) := by
  induction k with
  | zero => exact h
  | succ k ih => exact put1_bytes _ _ _ ih
theorem wr_bit (zs : List Int) (t n v k j : Nat) (h : Bytes zs) (hk : t + k ≤ 8 * zs.length) :
    bit (wr zs t n v k) j = if t ≤ j ∧ j < t + k then v.testBit (n - 1 - (j - t)) else bit zs j := by
  induction k with
  | zero => rw [if_neg (by omega)]; rfl
  | succ k ih =>
    rw [wr, put1_bit _ _ _ _ (wr_bytes _ _ _ _ _ h) (by rw [wr_length]; omega), ih (by omega)]
    by_cases e : j = t + k
    · subst e; rw [if_pos rfl, if_pos (by omega), show t + k - t = k from by omega]
    · rw [if_neg e]
      by_cases e2 : t ≤ j ∧ j < t + k
      · rw [if_pos e2, if_pos (by omega)]
      · rw [if_neg e2, if_neg (by omega)]
theorem ext (xs ys : List Int) (hx : Bytes xs) (hy : Bytes ys) (hl : xs.length = ys.length) (h : ∀ j, j < 8 * xs.length → bit xs j = bit ys j) : xs = ys := by
  apply List.ext_getElem hl
  intro i h1 h2
  have a := hx i
  have b := hy i
  have e1 : xs.getD i 0 = xs[i] := by simp [List.getD_eq_getElem?_getD, h1]
  have e2 : ys.getD i 0 = ys[i] := by simp [List.getD_eq_getElem?_getD, h2]
  have key : (xs.getD i 0).toNat = (ys.getD i 0).toNat := by
    apply Nat.eq_of_testBit_eq
    intro q
    by_cases hq : q < 8
    · have := h (8 * i + (7 - q)) (by omega)
      unfold bit at this
      rw [show (8 * i + (7 - q)) / 8 = i from by omega, show 7 - (8 * i + (7 - q)) % 8 = q from by omega] at this
      exact this
    · have big : 256 ≤ 2 ^ q := by have := Nat.pow_le_pow_right (n := 2) (by decide) (show 8 ≤ q by omega); simpa using this
      rw [Nat.testBit_lt_two_pow (by omega), Nat.testBit_lt_two_pow (by omega)]
  rw [← e1, ← e2]
  omega
end Go.Proofs.YtedeiaokohdhpaaGreat.Mth

namespace Go.Proofs.YtedeiaokohdhpaaGreat.Mth
def off (ws : List Int) : Nat → Nat
  | 0 => 0
  | i + 1 => off ws i + (ws.getD i 0).toNat
def jn (ls ws : List Int) (len : Nat) : Nat → List Int
  | 0 => List.replicate len 0
  | i + 1 => wr (jn ls ws len i) (off ws i) (ws.getD i 0).toNat (ls.getD i 0).toNat (ws.getD i 0).toNat
end Go.Proofs.YtedeiaokohdhpaaGreat.Mth

namespace Go.Proofs.YtedeiaokohdhpaaGreat
open Go.RowKit
abbrev F0 : Obj := .cells #[.int .i64 0, .int .i64 0] 35
theorem Has.num {w : World} {a : Option Addr} {len : Nat} {zs : List Int} (h : Has .u64 w a len zs) (i : Nat) : 0 ≤ zs.getD i 0 ∧ zs.getD i 0 < 18446744073709551616 := by
  by_cases hi : i < zs.length
  · have := bounds_u64 (h.2.1 zs[i] (List.getElem_mem hi))
    simp only [List.getD_eq_getElem?_getD, List.getElem?_eq_getElem hi, Option.getD_some]
    omega
  · simp [List.getD_eq_getElem?_getD, List.getElem?_eq_none (Nat.le_of_not_lt hi)]
end Go.Proofs.YtedeiaokohdhpaaGreat

namespace Go.Proofs.YtedeiaokohdhpaaGreat.Mth
def bo (zs : List Int) (k : Nat) : List Int := (List.range k).map fun i => ((bit zs i).toNat : Int)
def nb (v n k : Nat) : List Int := (List.range k).map fun j => ((v.testBit (n - 1 - j)).toNat : Int)
def num (l : List Int) : Nat → Nat
  | 0 => 0
  | k + 1 => 2 * num l k + (l.getD k 0).toNat
def px (l : List Int) (i : Nat) : Nat → Nat
  | 0 => 0
  | k + 1 => 2 * px l i k + (l.getD (i + k) 0).toNat
def by8 (l : List Int) (q : Nat) : List Int := (List.range q).map fun i => (px l (8 * i) 8 : Int)
def IsBits (l : List Int) : Prop := ∀ i, l.getD i 0 = 0 ∨ l.getD i 0 = 1
theorem bo_length (zs : List Int) (k : Nat) : (bo zs k).length = k := by simp [bo]
theorem bo_at (zs : List Int) (k i : Nat) (h : i < k) : (bo zs k).getD i 0 = ((bit zs i).toNat : Int) := by
  simp [bo, List.getD_eq_getElem?_getD, List.getElem?_range h]
theorem nb_length (v n k : Nat) : (nb v n k).length = k := by simp [nb]
theorem nb_at (v n k i : Nat) (h : i < k) : (nb v n k).getD i 0 = ((v.testBit (n - 1 - i)).toNat : Int) := by
  simp [nb, List.getD_eq_getElem?_getD, List.getElem?_range h]
theorem by8_length (l : List Int) (q : Nat) : (by8 l q).length = q := by simp [by8]
theorem by8_at (l : List Int) (q i : Nat) (h : i < q) : (by8 l q).getD i 0 = (px l (8 * i) 8 : Int) := by
  simp [by8, List.getD_eq_getElem?_getD, List.getElem?_range h]
theorem getD_ge (l : List Int) (i : Nat) (h : l.length ≤ i) : l.getD i 0 = 0 := by
  simp [List.getD_eq_getElem?_getD, List.getElem?_eq_none h]
theorem px_lt (l : List Int) (i k : Nat) (h : IsBits l) : px l i k < 2 ^ k := by
  induction k with
  | zero => simp [px]
  | succ k ih =>
    have := h (i + k)
    simp only [px, Nat.pow_succ]
    rcases this with e | e <;> rw [e] <;> simp <;> omega
theorem px_bit (l : List Int) (i k r : Nat) (h : IsBits l) (hr : r < k) : (px l i k).testBit (k - 1 - r) = decide (l.getD (i + r) 0 = 1) := by
  induction k with
  | zero => omega
  | succ k ih =>
    have hb := h (i + k)
    have hp := px_lt l i k h
    rw [px]
    by_cases e : r = k
    · subst e
      rw [show r + 1 - 1 - r = 0 from by omega, Nat.testBit_zero]
      rcases hb with e | e <;> rw [e] <;> simp
    · rw [show k + 1 - 1 - r = (k - 1 - r) + 1 from by omega, Nat.testBit_succ, ← ih (by omega)]
      congr 1
      rcases hb with e | e <;> rw [e] <;> simp <;> omega
theorem by8_bytes (l : List Int) (q : Nat) (h : IsBits l) : Bytes (by8 l q) := by
  intro i
  by_cases hi : i < q
  · rw [by8_at _ _ _ hi]
    have := px_lt l (8 * i) 8 h
    omega
  · rw [getD_ge _ _ (by rw [by8_length]; omega)]; omega
theorem by8_bit (l : List Int) (q j : Nat) (h : IsBits l) (hj : j < 8 * q) : bit (by8 l q) j = decide (l.getD j 0 = 1) := by
  unfold bit
  rw [by8_at _ _ _ (by omega), Int.toNat_natCast]
  have := px_bit l (8 * (j / 8)) 8 (j % 8) h (by omega)
  rw [show 8 - 1 - j % 8 = 7 - j % 8 from by omega, show 8 * (j / 8) + j % 8 = j from by omega] at this
  exact this
def pl (zs : List Int) (t n v : Nat) : List Int := (bo zs (8 * zs.length)).take t ++ nb v n n ++ (bo zs (8 * zs.length)).drop (t + n)
theorem pl_length (zs : List Int) (t n v : Nat) (h : t + n ≤ 8 * zs.length) : (pl zs t n v).length = 8 * zs.length := by
  simp only [pl, List.length_append, List.length_take, List.length_drop, bo_length, nb_length]
  omega
theorem pl_at (zs : List Int) (t n v i : Nat) (h : t + n ≤ 8 * zs.length) (hi : i < 8 * zs.length) :
    (pl zs t n v).getD i 0 = ((if t ≤ i ∧ i < t + n then v.testBit (n - 1 - (i - t)) else bit zs i).toNat : Int) := by
  have hl : ((bo zs (8 * zs.length)).take t).length = t := by rw [List.length_take, bo_length]; omega
  have hb := bo_at zs (8 * zs.length)
  simp only [List.getD_eq_getElem?_getD] at hb ⊢
  unfold pl
  by_cases h1 : i < t
  · rw [if_neg (by omega), List.append_assoc, List.getElem?_append_left (by omega), List.getElem?_take, if_pos h1]
    exact hb i hi
  · by_cases h2 : i < t + n
    · rw [if_pos (by omega), List.append_assoc, List.getElem?_append_right (by omega), hl, List.getElem?_append_left (by rw [nb_length]; omega)]
      have := nb_at v n n (i - t) (by omega)
      simpa [List.getD_eq_getElem?_getD] using this
    · rw [if_neg (by omega), List.getElem?_append_right (by rw [List.length_append, hl, nb_length]; omega), List.length_append, hl, nb_length, List.getElem?_drop, show t + n + (i - (t + n)) = i from by omega]
      exact hb i hi
theorem pl_bits (zs : List Int) (t n v : Nat) (h : t + n ≤ 8 * zs.length) : IsBits (pl zs t n v) := by
  intro i
  by_cases hi : i < 8 * zs.length
  · rw [pl_at _ _ _ _ _ h hi]
    generalize (if t ≤ i ∧ i < t + n then v.testBit (n - 1 - (i - t)) else bit zs i) = c
    cases c <;> simp
  · left; exact getD_ge _ _ (by rw [pl_length _ _ _ _ h]; omega)
theorem put_same (zs : List Int) (t n v : Nat) (hb : Bytes zs) (h : t + n ≤ 8 * zs.length) : by8 (pl zs t n v) zs.length = wr zs t n v n := by
  apply ext _ _ (by8_bytes _ _ (pl_bits _ _ _ _ h)) (wr_bytes _ _ _ _ _ hb) (by rw [by8_length, wr_length])
  intro j hj
  rw [by8_length] at hj
  rw [by8_bit _ _ _ (pl_bits _ _ _ _ h) hj, pl_at _ _ _ _ _ h hj, wr_bit _ _ _ _ _ _ hb h]
  generalize (if t ≤ j ∧ j < t + n then v.testBit (n - 1 - (j - t)) else bit zs j) = c
  cases c <;> simp
end Go.Proofs.YtedeiaokohdhpaaGreat.Mth

namespace Go.Proofs.YtedeiaokohdhpaaGreat.Mth
abbrev Fit (ws : List Int) (i : Nat) : Prop := 1 ≤ ws.getD i 0 ∧ ws.getD i 0 ≤ 48
theorem fit_off (ws : List Int) (k : Nat) (h : ∀ j, j < k → Fit ws j) : off ws k ≤ 48 * k := by
  induction k with
  | zero => simp [off]
  | succ k ih =>
    have := ih (fun j hj => h j (by omega))
    have h2 := h k (by omega)
    unfold Fit at h2
    simp only [off]
    omega
end Go.Proofs.YtedeiaokohdhpaaGreat.Mth

namespace Go.Proofs.YtedeiaokohdhpaaGreat
open Go.RowKit Mth
def II (zs : List Int) : List Value := zs.map (Value.int .i64)
theorem Tryz.infoInt : (Tryz.prog.info? 3).map (fun i => (i.zero, i.size, i.bytes)) = some (some (.int .i64 0), 1, 8) := by kernel_rfl
theorem ii_one (zs : List Int) : ∀ u ∈ II zs, u.oneCell' = true := by
  intro u hu
  simp only [II, List.mem_map] at hu
  obtain ⟨x, _, rfl⟩ := hu
  rfl
theorem has_cellsI {w : World} {ad : Addr} {m : Nat} {zs : List Int} (h : Has .i64 w (some ad) m zs) : ∀ (j : Nat) (u : Value), (II zs)[j]? = some u → w.cell? (ad.add j) = some u := by
  intro j u hj
  have hj' : j < zs.length := by
    have := (List.getElem?_eq_some_iff.1 hj).1
    simpa [II] using this
  have hl := h.1
  obtain ⟨b, off, e, _, hc⟩ := h.some (by omega)
  simp only [Option.some.injEq] at e
  subst e
  rw [Addr.add_lit, hc j (by omega)]
  simp only [II, List.getElem?_map, List.getElem?_eq_getElem hj', Option.map_some, Option.some.injEq] at hj
  simp only [List.getD_eq_getElem?_getD, List.getElem?_eq_getElem hj', Option.getD_some, hj]
theorem has_ownI {w : World} {base len : Nat} {a : Option Addr} {cap : Nat} {zs : List Int} (h : w.ownsRow base 3 1 (.slice a len cap) len (II zs)) (hb : ∀ n ∈ zs, (Lit.int .i64 n).wf = true) : Has .i64 w a len zs := by
  have hl : zs.length = len := by simpa [II] using h.1
  rcases h.2 with ⟨e, rfl⟩ | ⟨g, cap, cur, e, _⟩
  · exact ⟨hl, hb, .inl (List.eq_nil_of_length_eq_zero hl)⟩
  · simp only [Value.slice.injEq] at e
    obtain ⟨rfl, _, rfl⟩ := e
    refine ⟨hl, hb, .inr ⟨g, 0, rfl, (h.lt g rfl).2, fun i hi => ?_⟩⟩
    rw [Nat.zero_add, h.cellAt i (by omega)]
    simp only [II, List.getElem?_map, List.getD_eq_getElem?_getD]
    rw [List.getElem?_eq_getElem (by omega)]; rfl
theorem stepI {ops : Array Oper} {o : Oper} {a : Act} {w : World} {K : Act → World → Prop} {Q : Exit → Act → World → Prop} {E : Prop} (hgd : o.guard = none) (s x : Operand)
    (ho : o.op = .call { callee := .builtin .append, args := #[s, x], argTypes := #[23, 23] }) (m c : Nat) (zs : List Int) (ad : Option Addr)
    (hs : a.eval s = .slice none 0 0) (hx : a.eval x = .slice ad m c) (hn : ad = none → m = 0 ∧ c = 0) (hz : Has .i64 w ad m zs) (hsmall : m ≤ 10000000)
    (h : ∀ v' w', w'.ownsRow w.heap.size 3 1 v' m (II zs) → Below w.heap.size w w' → K (a.put o.dst v') w') :
    if Region.wanted o (yielded ops a.tmps) = true then Oper.wp Tryz.prog o a w K Q else E := by
  have hw : Region.wanted o (yielded ops a.tmps) = true := by simp [Region.wanted, hgd]
  rw [if_pos hw]
  obtain ⟨i0, hi, hz0, hz1, hz2⟩ := info_parts Tryz.infoInt
  cases ad with
  | none =>
    obtain ⟨rfl, rfl⟩ := hn rfl
    have e : zs = [] := List.eq_nil_of_length_eq_zero hz.1
    subst e
    have hrun := run_append_owned_none (P := Tryz.prog) (w := w) w.heap.size 23 o.type 3 i0 1 Tryz.underlying23 hi (.slice none 0 0) 0 [] (World.ownsRow_nil _ _ _ _)
    unfold Oper.wp execOp
    simp only [ho, resolve, invoke, builtin, Sem.run_bind, Sem.run_pure, Result.andThen_ok, List.map_toArray, List.map_cons, List.map_nil, hs, hx, hrun]
    exact h _ _ (World.ownsRow_nil _ _ _ _) (Below.refl _ _)
  | some ad =>
    refine wp_append_own w s x 23 ho w.heap.size 3 i0 (.int .i64 0) 1 8 Tryz.underlying23 hi hz0 hz1 hz2 rfl (by decide) (.slice none 0 0) 0 [] hs (World.ownsRow_nil _ _ _ _) ad m c (II zs) hx (by have := hz.1; simp [II]; omega) (has_cellsI hz) (ii_one zs) (by unfold maxLen; omega) (by omega) (Nat.le_refl _) ?_
    intro v' w' h1 h2 _
    rw [Nat.zero_add, List.nil_append] at h1
    exact h v' w' h1 ((Below.refl _ _).grown h2 (Nat.le_refl _) (by intro k hk; simp [Value.ownBlock] at hk))
theorem has_oneI (w : World) (x : Int) (hx : (Lit.int .i64 x).wf = true) : Has .i64 (w.alloc (.cells #[.int .i64 x] 3)) (some ⟨w.heap.size, 0, none⟩) 1 [x] := by
  refine ⟨rfl, ?_, .inr ⟨w.heap.size, 0, rfl, by simp, fun i hi => ?_⟩⟩
  · intro n hn
    simp only [List.mem_cons, List.not_mem_nil, or_false] at hn
    subst hn
    exact hx
  · have : i = 0 := by omega
    subst this
    simp
end Go.Proofs.YtedeiaokohdhpaaGreat
