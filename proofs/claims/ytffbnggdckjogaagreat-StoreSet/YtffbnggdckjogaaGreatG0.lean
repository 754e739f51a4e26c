/- Texts of one chain, joined: Base, U64, SSmall, YCut. -/
import Derived.Test.YtffbnggdckjogaaGreatRows
import Derived.WalkKit
import Derived.WalkSpells
import Derived.WalkLawsBesides
import Derived.Lib.SliceRun
import Derived.OpenShut
import Derived.Deep.QuietTactic
import Derived.BigQuiet
import Derived.Laws.ShiftsVarLaws
import Derived.Deep.RegionWith
import Derived.Laws.AppendOwnNone
import Derived.Lib.BitFns
import Derived.OrdersHeld
import Derived.StillTail
import Derived.Deep.RegionHeld3
namespace Go.Proofs.YtffbnggdckjogaaGreat.Mth
def Bytes (zs : List Int) : Prop := ∀ i, 0 ≤ zs.getD i 0 ∧ zs.getD i 0 < 256
end Go.Proofs.YtffbnggdckjogaaGreat.Mth
namespace Go.Proofs.YtffbnggdckjogaaGreat
open Go.RowKit
theorem ret_int {k : IntKind} {a b : Int} (h : a = b) : Ending.returned (.int k a) = .returned (.int k b) := by rw [h]
theorem wrap_small (n : Int) (h0 : 0 ≤ n) (h : n < 9223372036854775808) : IntKind.i64.wrap n = n := by
  simp [IntKind.wrap, IntKind.bits, IntKind.signed]; omega
def BB (zs : List Int) : List Value := zs.map (Value.int .u8)
def Has (k : IntKind) (w : World) (a : Option Addr) (len : Nat) (zs : List Int) : Prop :=
  zs.length = len ∧ (∀ n ∈ zs, (Lit.int k n).wf = true) ∧ (zs = [] ∨ ∃ b off, a = some ⟨b, off, none⟩ ∧ b < w.heap.size ∧ ∀ i, i < len → w.cell? ⟨b, off + i, none⟩ = some (.int k (zs.getD i 0)))
theorem Has.below {k : IntKind} {w w' : World} {a : Option Addr} {len B : Nat} {zs : List Int} (h : Has k w a len zs) (hb : Below B w w') (hB : w.heap.size ≤ B) : Has k w' a len zs := by
  refine ⟨h.1, h.2.1, ?_⟩
  rcases h.2.2 with h | ⟨b, off, rfl, hlt, hc⟩
  · exact .inl h
  · refine .inr ⟨b, off, rfl, Nat.lt_of_lt_of_le hlt hb.size, fun i hi => ?_⟩
    rw [hb.cell (p := ⟨b, off + i, none⟩) (Nat.lt_of_lt_of_le hlt hB)]
    exact hc i hi
theorem Has.bytes {w : World} {a : Option Addr} {len : Nat} {zs : List Int} (h : Has .u8 w a len zs) : Mth.Bytes zs := by
  intro i
  by_cases hi : i < zs.length
  · have hw := h.2.1 zs[i] (List.getElem_mem hi)
    have := bounds_u8 hw
    simp only [List.getD_eq_getElem?_getD, List.getElem?_eq_getElem hi, Option.getD_some]
    omega
  · simp [List.getD_eq_getElem?_getD, List.getElem?_eq_none (Nat.le_of_not_lt hi)]
theorem wf_u8 (n : Int) (h : 0 ≤ n ∧ n < 256) : (Lit.int .u8 n).wf = true := by
  simp [Lit.wf, IntKind.min, IntKind.max, IntKind.bits, IntKind.signed]
  omega
theorem Tryz.info5 : (Tryz.prog.info? 5).map (fun i => (i.zero, i.size, i.bytes)) = some (some (.int .u8 0), 1, 1) := by kernel_rfl
theorem Has.some {k : IntKind} {w : World} {a : Option Addr} {len : Nat} {zs : List Int} (h : Has k w a len zs) (h0 : 0 < len) :
    ∃ b off, a = some ⟨b, off, none⟩ ∧ b < w.heap.size ∧ ∀ i, i < len → w.cell? ⟨b, off + i, none⟩ = some (.int k (zs.getD i 0)) := by
  rcases h.2.2 with h1 | h1
  · have := h.1; rw [h1] at this; simp at this; omega
  · exact h1
theorem has_of_owns {w : World} {base g len cap : Nat} {zs : List Int} (h : w.ownsRow base 5 1 (.slice (some ⟨g, 0, none⟩) len cap) len (BB zs)) (hb : Mth.Bytes zs) : Has .u8 w (some ⟨g, 0, none⟩) len zs := by
  have hl : zs.length = len := by simpa [BB] using h.1
  refine ⟨hl, ?_, .inr ⟨g, 0, rfl, (h.lt g rfl).2, fun i hi => ?_⟩⟩
  · intro n hn
    obtain ⟨i, hi, rfl⟩ := List.getElem_of_mem hn
    have := hb i
    simp only [List.getD_eq_getElem?_getD, List.getElem?_eq_getElem hi, Option.getD_some] at this
    exact wf_u8 _ this
  · rw [Nat.zero_add, h.cellAt i (by omega)]
    simp only [BB, List.getElem?_map, List.getD_eq_getElem?_getD]
    rw [List.getElem?_eq_getElem (by omega)]; rfl
theorem bl_alloc {W w : World} (h : Below W.heap.size W w) {o : Obj} : Below W.heap.size W (w.alloc o) := h.alloc h.size o
theorem bl_step {W w w' : World} (h : Below W.heap.size W w) (k : Below w.heap.size w w') : Below W.heap.size W w' := h.trans (k.mono h.size)
theorem Has.alloc {k : IntKind} {w : World} {a : Option Addr} {len : Nat} {zs : List Int} (h : Has k w a len zs) {o : Obj} : Has k (w.alloc o) a len zs := h.below (bl_alloc (Below.refl _ _)) (Nat.le_refl _)
theorem Has.step {k : IntKind} {w w' : World} {a : Option Addr} {len : Nat} {zs : List Int} (h : Has k w a len zs) (b : Below w.heap.size w w') : Has k w' a len zs := h.below b (Nat.le_refl _)
theorem has_of_owns8 {w : World} {base len : Nat} {v : Value} {zs : List Int} (h : w.ownsRow base 5 1 v len (BB zs)) (hb : Mth.Bytes zs) : ∃ a cap, v = .slice a len cap ∧ Has .u8 w a len zs := by
  rcases h.2 with ⟨rfl, rfl⟩ | ⟨g, cap, cur, rfl, _⟩
  · have hl : zs.length = 0 := by simpa [BB] using h.1
    exact ⟨none, 0, rfl, hl, by rw [List.eq_nil_of_length_eq_zero hl]; simp, .inl (List.eq_nil_of_length_eq_zero hl)⟩
  · exact ⟨_, cap, rfl, has_of_owns h hb⟩
theorem has_nil (k : IntKind) (w : World) : Has k w none 0 [] := ⟨rfl, by simp, .inl rfl⟩
theorem owns_below {w w' : World} {base : Nat} {e : TypeId} {size : Nat} {v : Value} {n : Nat} {xs : List Value} (h : w.ownsRow base e size v n xs) (hb : Below w.heap.size w w') : w'.ownsRow base e size v n xs := by
  refine ⟨h.1, ?_⟩
  rcases h.2 with h2 | ⟨g, cap, cur, hv, hg, hh, r⟩
  · exact .inl h2
  · exact .inr ⟨g, cap, cur, hv, hg, by rw [hb.block g (Array.getElem?_eq_some_iff.1 hh).1]; exact hh, r⟩
theorem hid {p : Prop} (h : p) : Hid p := h
end Go.Proofs.YtffbnggdckjogaaGreat

namespace Go.Proofs.YtffbnggdckjogaaGreat
open Go.RowKit
def UU (zs : List Int) : List Value := zs.map (Value.int .u64)
theorem Tryz.info63 : (Tryz.prog.info? 63).map (fun i => (i.zero, i.size, i.bytes)) = some (some (.int .u64 0), 1, 8) := by kernel_rfl
theorem wf_u64 (n : Int) (h : 0 ≤ n ∧ n < 18446744073709551616) : (Lit.int .u64 n).wf = true := by
  simp [Lit.wf, IntKind.min, IntKind.max, IntKind.bits, IntKind.signed]
  omega
theorem has_of_owns64 {w : World} {base len : Nat} {v : Value} {zs : List Int} (h : w.ownsRow base 63 1 v len (UU zs)) (hb : ∀ n ∈ zs, 0 ≤ n ∧ n < 18446744073709551616) : ∃ a cap, v = .slice a len cap ∧ Has .u64 w a len zs := by
  have hl : zs.length = len := by simpa [UU] using h.1
  rcases h.2 with ⟨rfl, rfl⟩ | ⟨g, cap, cur, rfl, _⟩
  · exact ⟨none, 0, rfl, hl, fun n hn => wf_u64 n (hb n hn), .inl (List.eq_nil_of_length_eq_zero hl)⟩
  · refine ⟨some ⟨g, 0, none⟩, cap, rfl, hl, fun n hn => wf_u64 n (hb n hn), .inr ⟨g, 0, rfl, (h.lt g rfl).2, fun i hi => ?_⟩⟩
    rw [Nat.zero_add, h.cellAt i (by omega)]
    simp only [UU, List.getElem?_map, List.getD_eq_getElem?_getD]
    rw [List.getElem?_eq_getElem (by omega)]; rfl
theorem uu_one (zs : List Int) : ∀ u ∈ UU zs, u.oneCell' = true := by
  intro u hu
  simp only [UU, List.mem_map] at hu
  obtain ⟨x, _, rfl⟩ := hu
  rfl
theorem has_cells64 {w : World} {ad : Addr} {m : Nat} {zs : List Int} (h : Has .u64 w (some ad) m zs) : ∀ (j : Nat) (u : Value), (UU zs)[j]? = some u → w.cell? (ad.add j) = some u := by
  intro j u hj
  have hj' : j < zs.length := by
    have := (List.getElem?_eq_some_iff.1 hj).1
    simpa [UU] using this
  have hl := h.1
  obtain ⟨b, off, e, _, hc⟩ := h.some (by omega)
  simp only [Option.some.injEq] at e
  subst e
  rw [Addr.add_lit, hc j (by omega)]
  simp only [UU, List.getElem?_map, List.getElem?_eq_getElem hj', Option.map_some, Option.some.injEq] at hj
  simp only [List.getD_eq_getElem?_getD, List.getElem?_eq_getElem hj', Option.getD_some, hj]
theorem Has.nums {w : World} {a : Option Addr} {len : Nat} {zs : List Int} (h : Has .u64 w a len zs) : ∀ n ∈ zs, 0 ≤ n ∧ n < 18446744073709551616 := fun n hn => by
  have := bounds_u64 (h.2.1 n hn)
  omega
theorem own_at64 {w : World} {base g len cap : Nat} {zs : List Int} (h : w.ownsRow base 63 1 (.slice (some ⟨g, 0, none⟩) len cap) len (UU zs)) (i : Nat) (hi : i < len) : w.cell? ⟨g, i, none⟩ = some (.int .u64 (zs.getD i 0)) := by
  have hl : zs.length = len := by simpa [UU] using h.1
  rw [h.cellAt i (by omega)]
  simp only [UU, List.getElem?_map, List.getD_eq_getElem?_getD]
  rw [List.getElem?_eq_getElem (by omega)]; rfl
theorem copy64_law {w : World} {ops : Array Oper} {rest : List Oper} {o : Oper} {a : Act} {Q : Exit → Act → World → Prop} (hgd : o.guard = none) (s x : Operand)
    (ho : o.op = .call { callee := .builtin .append, args := #[s, x], argTypes := #[24, 24] }) (hs : a.eval s = .slice none 0 0) (ad : Option Addr) (m c : Nat) (zs : List Int) (hx : a.eval x = .slice ad m c)
    (hn : ad = none → m = 0 ∧ c = 0) (hz : Has .u64 w ad m zs) (hsmall : m ≤ 10000000)
    (h : ∀ v' w', w'.ownsRow w.heap.size 63 1 v' m (UU zs) → Below w.heap.size w w' → wpList Tryz.prog ops Q rest (a.put o.dst v') w') : wpList Tryz.prog ops Q (o :: rest) a w := by
  obtain ⟨i0, hi, hz0, hz1, hz2⟩ := info_parts Tryz.info63
  cases ad with
  | none =>
    obtain ⟨rfl, rfl⟩ := hn rfl
    have e : zs = [] := List.eq_nil_of_length_eq_zero hz.1
    subst e
    exact wpList_append_own_none hgd s x 24 ho w.heap.size 63 i0 1 Tryz.underlying24 hi (.slice none 0 0) 0 [] hs (World.ownsRow_nil _ _ _ _) hx (h _ _ (World.ownsRow_nil _ _ _ _) (Below.refl _ _))
  | some ad =>
    refine wpList_append_own w hgd s x 24 ho w.heap.size 63 i0 (.int .u64 0) 1 8 Tryz.underlying24 hi hz0 hz1 hz2 rfl (by decide) (.slice none 0 0) 0 [] hs (World.ownsRow_nil _ _ _ _) ad m c (UU zs) hx (by have := hz.1; simp [UU]; omega) (has_cells64 hz) (uu_one zs) (by unfold maxLen; omega) (by omega) (Nat.le_refl _) ?_
    intro v' w' h1 h2 _
    rw [Nat.zero_add, List.nil_append] at h1
    exact h v' w' h1 ((Below.refl _ _).grown h2 (Nat.le_refl _) (by intro k hk; simp [Value.ownBlock] at hk))
theorem own_is {w : World} {base e len : Nat} {v : Value} {xs : List Value} (h : w.ownsRow base e 1 v len xs) : ∃ a cap, v = .slice a len cap ∧ len ≤ cap ∧ (a = none → len = 0 ∧ cap = 0) := by
  rcases h.2 with ⟨rfl, rfl⟩ | ⟨g, cap, cur, rfl, _, _, h1, _⟩
  · exact ⟨none, 0, rfl, Nat.le_refl _, fun _ => ⟨rfl, rfl⟩⟩
  · exact ⟨_, cap, rfl, h1, fun h => by cases h⟩
theorem has_own64 {w : World} {base len : Nat} {a : Option Addr} {cap : Nat} {zs : List Int} (h : w.ownsRow base 63 1 (.slice a len cap) len (UU zs)) (hb : ∀ n ∈ zs, 0 ≤ n ∧ n < 18446744073709551616) : Has .u64 w a len zs := by
  obtain ⟨a', c', e, h'⟩ := has_of_owns64 h hb
  simp only [Value.slice.injEq] at e
  rw [e.1]; exact h'
set_option maxHeartbeats 1000000 in
set_option maxRecDepth 20000 in
theorem same_nums {w : World} {a b : Option Addr} {m : Nat} {ps : List Int} (c d : Nat) (hm : m ≤ 1000) (ha : Has .u64 w a m ps) (hb : Has .u64 w b m ps) :
    Calls Tryz.prog 22 #[.slice a m c, .slice b m d] w fun e w' => e = .returned (.bool true) ∧ ∃ s, w' = w.drewN s := by
  have hne : ((m : Int) != (m : Int)) = false := by simp
  go_enter Tryz.func22, Tryz.ntmps22
  go_wp2
  go_loopw [5] (fun q wr => ∃ k : Nat, k ≤ m ∧ q = .int .i64 k ∧ Hid (∃ s, wr = w.drewN s)) (fun q _ => m - (intOf q).toNat)
  case atStart => exact ⟨0, Nat.zero_le _, rfl, 0, rfl⟩
  case round =>
    obtain ⟨k, hk, rfl, hq⟩ := hrel
    by_cases hlt : k < m
    · obtain ⟨p1, o1, rfl, hp1, hc1⟩ := ha.some (by omega)
      obtain ⟨p2, o2, rfl, hp2, hc2⟩ := hb.some (by omega)
      have q1 : wr.cell? ⟨p1, o1 + k, none⟩ = some (.int .u64 (ps.getD k 0)) := by obtain ⟨s, e⟩ := hq; rw [e]; exact hc1 k hlt
      have q2 : wr.cell? ⟨p2, o2 + k, none⟩ = some (.int .u64 (ps.getD k 0)) := by obtain ⟨s, e⟩ := hq; rw [e]; exact hc2 k hlt
      clear hc1 hc2 hp1 hp2 ha hb
      have hki : (k : Int) < (m : Int) := by omega
      simp only [List.getD_eq_getElem?_getD] at q1 q2
      generalize ps[k]?.getD 0 = x at *
      have hx : (x != x) = false := by simp
      go_wp2
      go_big_quiet (fail)
      go_wp2
      go_roundw
      case rel => exact ⟨k + 1, by omega, by go_num, by obtain ⟨s, e⟩ := hq; rw [e]; exact ⟨_, World.drewN_drewN _ _ _⟩⟩
      case measure => simp [intOf]; omega
    · go_wp2
      go_ret
      exact ⟨rfl, hq⟩
def From (B : Nat) (a : Option Addr) (n : Nat) : Prop := 0 < n → ∃ b off, a = some ⟨b, off, none⟩ ∧ B ≤ b ∧ off = 0
theorem own_from {w : World} {base e n c : Nat} {a : Option Addr} {xs : List Value} (h : w.ownsRow base e 1 (.slice a n c) n xs) : From base a n := by
  intro h0
  rcases h.2 with ⟨_, e⟩ | ⟨g, cap, cur, e, hb, _⟩
  · omega
  · simp only [Value.slice.injEq] at e
    exact ⟨g, 0, e.1, hb, rfl⟩
theorem From.mono {B B' : Nat} {a : Option Addr} {n : Nat} (h : From B a n) (hB : B' ≤ B) : From B' a n := by
  intro h0
  obtain ⟨b, off, e, hb, h1⟩ := h h0
  exact ⟨b, off, e, Nat.le_trans hB hb, h1⟩
theorem Has.off {k : IntKind} {w w' : World} {a : Option Addr} {len g B : Nat} {zs : List Int} (h : Has k w a len zs) (f : From B a len) (hg : g < B) (hr : w.grownBy w' (Option.some g)) : Has k w' a len zs := by
  refine ⟨h.1, h.2.1, ?_⟩
  by_cases h0 : 0 < len
  · obtain ⟨b, off, rfl, hlt, hc⟩ := h.some h0
    obtain ⟨b', off', e, hb, _⟩ := f h0
    simp only [Option.some.injEq, Addr.mk.injEq] at e
    obtain ⟨rfl, rfl, _⟩ := e
    exact .inr ⟨b, off, rfl, Nat.lt_of_lt_of_le hlt hr.size, fun i hi => hr.cell (hc i hi) (by simp; omega)⟩
  · left
    exact List.eq_nil_of_length_eq_zero (by have := h.1; omega)
end Go.Proofs.YtffbnggdckjogaaGreat

namespace Go.Proofs.YtffbnggdckjogaaGreat
open Go.RowKit Mth
def blen (x : Int) : Int := (Lib.bitLen x.toNat : Int)
theorem blen8 {x : Int} (h : 256 ≤ x) (h1 : x < 18446744073709551616) : blen x = 8 + blen (x / 256) := by
  unfold blen
  rw [Lib.bitLen_shift8 x.toNat (by omega) (by omega), show (x / 256).toNat = x.toNat / 256 by omega]
  omega
theorem blen16 {x : Int} (h : 65536 ≤ x) (h1 : x < 18446744073709551616) : blen x = 16 + blen (x / 65536) := by
  unfold blen
  rw [Lib.bitLen_shift16 x.toNat (by omega) (by omega), show (x / 65536).toNat = x.toNat / 65536 by omega]
  omega
theorem blen32 {x : Int} (h : 4294967296 ≤ x) (h1 : x < 18446744073709551616) : blen x = 32 + blen (x / 4294967296) := by
  unfold blen
  rw [Lib.bitLen_shift32 x.toNat (by omega) (by omega), show (x / 4294967296).toNat = x.toNat / 4294967296 by omega]
  omega
theorem blen_byte {y : Int} (h0 : 0 ≤ y) (h1 : y ≤ 255) : Lib.len8 y = blen y ∧ 0 ≤ blen y ∧ blen y ≤ 8 :=
  ⟨Lib.len8_of y h0 h1, by unfold blen; omega, by have := Lib.bitLen_le8' y h0 h1; unfold blen; omega⟩
set_option maxHeartbeats 2000000 in
set_option maxRecDepth 20000 in
theorem len64_any (x : Int) (w : World) (h0 : 0 ≤ x) (h1 : x < 18446744073709551616) : Calls Tryz.prog 36 #[.int .u64 x] w fun e w' => e = .returned (.int .i64 (blen x)) ∧ w' = w := by
  generalize hz : blen x = z
  have HZ := hid hz
  clear hz
  by_cases a : 4294967296 ≤ x
  · by_cases b : 65536 ≤ x / 4294967296
    · by_cases c : 256 ≤ x / 4294967296 / 65536
      · have y0 : 0 ≤ x / 4294967296 / 65536 / 256 := by omega
        have y1 : x / 4294967296 / 65536 / 256 ≤ 255 := by omega
        have HY := hid (blen_byte y0 y1)
        go_enter Tryz.func36, Tryz.ntmps36
        go_wp2
        go_ret
        refine ⟨congrArg Ending.returned (congrArg (Value.int IntKind.i64) ?_), rfl⟩
        have hz := HZ.out
        have hy := HY.out
        rw [blen32 a (by omega), blen16 b (by omega), blen8 c (by omega)] at hz
        rw [hy.1]
        unfold wrap64
        omega
      · have y0 : 0 ≤ x / 4294967296 / 65536 := by omega
        have y1 : x / 4294967296 / 65536 ≤ 255 := by omega
        have HY := hid (blen_byte y0 y1)
        go_enter Tryz.func36, Tryz.ntmps36
        go_wp2
        go_ret
        refine ⟨congrArg Ending.returned (congrArg (Value.int IntKind.i64) ?_), rfl⟩
        have hz := HZ.out
        have hy := HY.out
        rw [blen32 a (by omega), blen16 b (by omega)] at hz
        rw [hy.1]
        unfold wrap64
        omega
    · by_cases c : 256 ≤ x / 4294967296
      · have y0 : 0 ≤ x / 4294967296 / 256 := by omega
        have y1 : x / 4294967296 / 256 ≤ 255 := by omega
        have HY := hid (blen_byte y0 y1)
        go_enter Tryz.func36, Tryz.ntmps36
        go_wp2
        go_ret
        refine ⟨congrArg Ending.returned (congrArg (Value.int IntKind.i64) ?_), rfl⟩
        have hz := HZ.out
        have hy := HY.out
        rw [blen32 a (by omega), blen8 c (by omega)] at hz
        rw [hy.1]
        unfold wrap64
        omega
      · have y0 : 0 ≤ x / 4294967296 := by omega
        have y1 : x / 4294967296 ≤ 255 := by omega
        have HY := hid (blen_byte y0 y1)
        go_enter Tryz.func36, Tryz.ntmps36
        go_wp2
        go_ret
        refine ⟨congrArg Ending.returned (congrArg (Value.int IntKind.i64) ?_), rfl⟩
        have hz := HZ.out
        have hy := HY.out
        rw [blen32 a (by omega)] at hz
        rw [hy.1]
        unfold wrap64
        omega
  · by_cases b : 65536 ≤ x
    · by_cases c : 256 ≤ x / 65536
      · have y0 : 0 ≤ x / 65536 / 256 := by omega
        have y1 : x / 65536 / 256 ≤ 255 := by omega
        have HY := hid (blen_byte y0 y1)
        go_enter Tryz.func36, Tryz.ntmps36
        go_wp2
        go_ret
        refine ⟨congrArg Ending.returned (congrArg (Value.int IntKind.i64) ?_), rfl⟩
        have hz := HZ.out
        have hy := HY.out
        rw [blen16 b (by omega), blen8 c (by omega)] at hz
        rw [hy.1]
        unfold wrap64
        omega
      · have y0 : 0 ≤ x / 65536 := by omega
        have y1 : x / 65536 ≤ 255 := by omega
        have HY := hid (blen_byte y0 y1)
        go_enter Tryz.func36, Tryz.ntmps36
        go_wp2
        go_ret
        refine ⟨congrArg Ending.returned (congrArg (Value.int IntKind.i64) ?_), rfl⟩
        have hz := HZ.out
        have hy := HY.out
        rw [blen16 b (by omega)] at hz
        rw [hy.1]
        unfold wrap64
        omega
    · by_cases c : 256 ≤ x
      · have y0 : 0 ≤ x / 256 := by omega
        have y1 : x / 256 ≤ 255 := by omega
        have HY := hid (blen_byte y0 y1)
        go_enter Tryz.func36, Tryz.ntmps36
        go_wp2
        go_ret
        refine ⟨congrArg Ending.returned (congrArg (Value.int IntKind.i64) ?_), rfl⟩
        have hz := HZ.out
        have hy := HY.out
        rw [blen8 c (by omega)] at hz
        rw [hy.1]
        unfold wrap64
        omega
      · have y0 : 0 ≤ x := by omega
        have y1 : x ≤ 255 := by omega
        have HY := hid (blen_byte y0 y1)
        go_enter Tryz.func36, Tryz.ntmps36
        go_wp2
        go_ret
        refine ⟨congrArg Ending.returned (congrArg (Value.int IntKind.i64) ?_), rfl⟩
        have hz := HZ.out
        have hy := HY.out
        rw [hy.1]
        unfold wrap64
        omega
end Go.Proofs.YtffbnggdckjogaaGreat

namespace Go.Proofs.YtffbnggdckjogaaGreat
open Go
def cutPost (K : Act → World → Prop) (Q : Exit → Act → World → Prop) : Exit → Act → World → Prop
  | .normal, a, w => K a w
  | .exit i, a, w => Q (.exit i) a w
  | .goto l, a, w => Q (.goto l) a w
  | .ret, a, w => Q .ret a w
  | .panic c, a, w => Q (.panic c) a w
  | .outgrown, a, w => Q .outgrown a w
theorem upon_cut {P : Program} {o : Oper} {a : Act} {K K1 K2 : Act → World → Prop} {Q : Exit → Act → World → Prop} {r : Result Next} (hk : ∀ a w, K1 a w → K2 a w) (h : o.upon P a K1 (cutPost K Q) r) : o.upon P a K2 Q r := by
  cases r with
  | ok n w' =>
    cases n <;> simp only [Oper.upon] at h ⊢ <;>
      first
        | exact hk _ _ h
        | exact Calls.mono h (fun e w'' he => by cases e <;> first | exact hk _ _ he | exact he)
        | exact Rows.mono h (fun _ _ he => hk _ _ he)
  | halt x w' => cases x <;> simp only [Oper.upon] at h ⊢ <;> exact h
theorem wpOp_cut {P : Program} {ops : Array Oper} {i : Nat} {a : Act} {w : World} {K K1 K2 : Act → World → Prop} {Q : Exit → Act → World → Prop} (hk : ∀ a w, K1 a w → K2 a w) (h : wpOp P ops (cutPost K Q) i K1 a w) : wpOp P ops Q i K2 a w := by
  unfold wpOp at *
  split
  · exact hk _ _ (by simpa [*] using h)
  · rename_i o ho
    simp only [ho] at h
    split
    · rename_i hw
      simp only [hw, if_true] at h
      exact h.imp (fun h => upon_cut hk h) id
    · rename_i hw
      simp only [hw] at h
      exact hk _ _ h
structure CutRel (n m : Nat) (hl listed : Array Bool) : Prop where
  s1 : hl.size = m
  s2 : listed.size = m
  head : ∀ i, i < n → hl[i]? = listed[i]?
  tl : ∀ t, n ≤ t → t < m → hl[t]? = some true ∧ listed[t]? = some false
theorem CutRel.set {n m : Nat} {hl listed : Array Bool} (h : CutRel n m hl listed) {i : Nat} (hi : i < n) : CutRel n m (hl.setIfInBounds i true) (listed.setIfInBounds i true) := by
  refine ⟨by simp [h.s1], by simp [h.s2], fun j hj => ?_, fun t ht hm => ?_⟩
  · by_cases e : i = j
    · subst e
      have := h.head i hi
      rw [Array.getElem?_setIfInBounds_self, Array.getElem?_setIfInBounds_self, h.s1, h.s2]
    · rw [Array.getElem?_setIfInBounds_ne e, Array.getElem?_setIfInBounds_ne e]
      exact h.head j hj
  · rw [Array.getElem?_setIfInBounds_ne (by omega), Array.getElem?_setIfInBounds_ne (by omega)]
    exact h.tl t ht hm
def Region.backB (md : Region.Mode) (ops : Array Oper) (n : Nat) : Bool :=
  (List.range n).all fun i => match ops[i]? with
    | some o => o.after.all fun e => !Region.binds md e || decide (e.on < i)
    | none => false
theorem first_not (p : Nat → Bool) : ∀ n, (∃ j, j < n ∧ p j = false) → ∃ j, j < n ∧ p j = false ∧ ∀ i, i < j → p i = true
  | 0, ⟨j, hj, _⟩ => by omega
  | n + 1, ⟨j, hj, hp⟩ => by
    by_cases h : ∃ i, i < n ∧ p i = false
    · obtain ⟨i, h1, h2, h3⟩ := first_not p n h
      exact ⟨i, by omega, h2, h3⟩
    · have hjn : j = n := by
        by_cases e : j < n
        · exact absurd ⟨j, e, hp⟩ h
        · omega
      subst hjn
      refine ⟨j, hj, hp, fun i hi => ?_⟩
      cases hpi : p i with
      | true => rfl
      | false => exact absurd ⟨i, hi, hpi⟩ h
theorem rep_left {x y : Bool} {n m i : Nat} (h : i < n) : (List.replicate n x ++ List.replicate m y).toArray[i]? = some x := by
  rw [List.getElem?_toArray, List.getElem?_append_left (by simpa using h), List.getElem?_replicate, if_pos h]
theorem rep_right {x y : Bool} {n m t : Nat} (h : n ≤ t) (h2 : t < n + m) : (List.replicate n x ++ List.replicate m y).toArray[t]? = some y := by
  rw [List.getElem?_toArray, List.getElem?_append_right (by simpa using h), List.length_replicate, List.getElem?_replicate, if_pos (by omega)]
theorem rep_all {m i : Nat} (h : i < m) : (Array.replicate m false)[i]? = some false := by
  rw [Array.getElem?_replicate, if_pos h]
end Go.Proofs.YtffbnggdckjogaaGreat
