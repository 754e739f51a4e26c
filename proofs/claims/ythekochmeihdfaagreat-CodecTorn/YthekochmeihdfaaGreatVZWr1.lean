/- The writer of plans: numbers. -/
import Derived.Test.YthekochmeihdfaaGreatVZSumB
namespace Go.Proofs.YthekochmeihdfaaGreat
open Go.RowKit

def plainGo : Nat → Nat → List Int
  | 0, n => [(n : Int)]
  | k + 1, n => if n < 128 then [(n : Int)] else ((n % 128 + 128 : Nat) : Int) :: plainGo k (n / 128)

theorem plainGo_more : ∀ (k n : Nat), n ≤ k → plainGo (k + 1) n = plainGo k n
  | 0, n, h => by
    have e : n = 0 := by omega
    subst e
    rfl
  | k + 1, n, h => by
    show (if n < 128 then [(n : Int)] else ((n % 128 + 128 : Nat) : Int) :: plainGo (k + 1) (n / 128)) = (if n < 128 then [(n : Int)] else ((n % 128 + 128 : Nat) : Int) :: plainGo k (n / 128))
    by_cases hn : n < 128
    · rw [if_pos hn, if_pos hn]
    · rw [if_neg hn, if_neg hn, plainGo_more k (n / 128) (by omega)]

theorem plainGo_same : ∀ (j k n : Nat), n ≤ k → plainGo (k + j) n = plainGo k n
  | 0, _, _, _ => rfl
  | j + 1, k, n, h => by rw [← Nat.add_assoc, plainGo_more (k + j) n (by omega), plainGo_same j k n h]

/-- a plain number -/
def plainL (n : Nat) : List Int := plainGo n n

theorem plain_small {n : Nat} (h : n < 128) : plainL n = [(n : Int)] := by
  unfold plainL
  cases n with
  | zero => rfl
  | succ n => rw [plainGo, if_pos h]

theorem plain_great {n : Nat} (h : ¬ n < 128) : plainL n = ((n % 128 + 128 : Nat) : Int) :: plainL (n / 128) := by
  unfold plainL
  obtain ⟨m, rfl⟩ : ∃ m, n = m + 1 := ⟨n - 1, by omega⟩
  rw [plainGo, if_neg h]
  have := plainGo_same (m - (m + 1) / 128) ((m + 1) / 128) ((m + 1) / 128) (Nat.le_refl _)
  rw [show (m + 1) / 128 + (m - (m + 1) / 128) = m by omega] at this
  rw [this]

theorem plain_byt (n : Nat) : Mth.Byt (plainL n) := by
  induction n using Nat.strongRecOn with
  | ind n ih =>
    by_cases h : n < 128
    · rw [plain_small h]
      intro x hx
      simp only [List.mem_cons, List.not_mem_nil, or_false] at hx
      omega
    · rw [plain_great h]
      intro x hx
      rcases List.mem_cons.1 hx with rfl | hx
      · omega
      · exact ih (n / 128) (by omega) x hx

/-- bytes as a writer has them: a row of its own, or the full one of a string's bytes -/
def RowB (B : Nat) (v : Value) (bs : List Int) (w : World) : Prop := w.ownsRow B 5 1 v bs.length (BB bs) ∨ ∃ g cur f, v = .slice (some ⟨g, 0, none⟩) bs.length bs.length ∧ B ≤ g ∧ w.heap[g]? = some (.cells cur 5 f) ∧ cur.toList = BB bs ∧ 0 < bs.length

theorem RowB.blk {B : Nat} {v : Value} {bs : List Int} {w : World} (h : RowB B v bs w) {k : Nat} (hk : v.ownBlock = some k) : B ≤ k ∧ ∃ cur f, w.heap[k]? = some (.cells cur 5 f) := by
  rcases h with h | ⟨g, cur, f, rfl, hB, hg, _⟩
  · rcases h.2 with ⟨e2, _⟩ | ⟨g2, c2, cur, e2, hb, hh, _⟩
    · rw [e2] at hk; simp [Value.ownBlock] at hk
    · rw [e2] at hk
      simp only [Value.ownBlock, Option.some.injEq] at hk
      subst hk
      exact ⟨hb, cur, _, hh⟩
  · simp only [Value.ownBlock, Option.some.injEq] at hk
    subst hk
    exact ⟨hB, cur, f, hg⟩

theorem RowB.step {B : Nat} {v : Value} {bs : List Int} {w w' : World} (h : RowB B v bs w) (hb : Below w.heap.size w w') : RowB B v bs w' := by
  rcases h with h | ⟨g, cur, f, e, hB, hg, r⟩
  · exact .inl (owns_belowK h hb)
  · exact .inr ⟨g, cur, f, e, hB, (hb.block g (Array.getElem?_eq_some_iff.1 hg).1).trans hg, r⟩

theorem RowB.has {B : Nat} {a : Option Addr} {c : Nat} {bs : List Int} {w : World} (h : RowB B (.slice a bs.length c) bs w) (hb : Mth.Byt bs) : Has .u8 w a bs.length bs := by
  rcases h with h | ⟨g, cur, f, e, _, hg, hc, _⟩
  · obtain ⟨a', c', e, hh⟩ := has_of_owns8 h (bytes_byt hb)
    simp only [Value.slice.injEq, true_and] at e
    obtain ⟨rfl, rfl⟩ := e
    exact hh
  · simp only [Value.slice.injEq, true_and] at e
    obtain ⟨rfl, rfl⟩ := e
    refine ⟨rfl, fun n hn => wf_u8 n (hb n hn), .inr ⟨g, 0, rfl, (Array.getElem?_eq_some_iff.1 hg).1, fun i hi => ?_⟩⟩
    have : cur[i]? = some (.int .u8 (bs.getD i 0)) := by
      rw [← Array.getElem?_toList, hc]
      simp only [BB, List.getElem?_map, List.getD_eq_getElem?_getD, List.getElem?_eq_getElem hi, Option.map_some, Option.getD_some]
    simp [World.cell?, hg, this]

/-- the run of an append to it -/
theorem RowB.app {B : Nat} {a : Option Addr} {c : Nat} {bs : List Int} {w : World} (h : RowB B (.slice a bs.length c) bs w) {ad : Addr} {m c2 : Nat} {zs : List Int} (hl : zs.length = m) (hn : ∀ j u, (BB zs)[j]? = some u → w.cell? (ad.add j) = some u) (hm : 0 < m) (hs : bs.length + m ≤ 10000000) (hB : B ≤ w.heap.size) :
    ∃ g cap w6, (Builtin.append_ #[30, 30] 30 #[.slice a bs.length c, .slice (some ad) m c2]).run Tryz.prog w = .ok (.slice (some ⟨g, 0, none⟩) (bs.length + m) cap) w6 ∧ w6.ownsRow B 5 1 (.slice (some ⟨g, 0, none⟩) (bs.length + m) cap) (bs.length + m) (BB (bs ++ zs)) ∧ w.grownBy w6 (Value.slice a bs.length c).ownBlock := by
  have eB : BB (bs ++ zs) = BB bs ++ BB zs := by simp [BB]
  rw [eB]
  rcases h with h | ⟨g, cur, f, e, hg, hh, hc, h0⟩
  · obtain ⟨g, cap, w6, hrun, ho, hg, _⟩ := run_appK (w := w) (ad := ad) (m := m) (c := c2) (news := BB zs) 30 Tryz.underlying30 Tryz.info5 rfl (by decide) h (by simp [BB]; omega) hn (bb_one zs) hm (by unfold maxLen; omega) (by omega) hB
    exact ⟨g, cap, w6, hrun, ho, hg⟩
  · simp only [Value.slice.injEq, true_and] at e
    obtain ⟨rfl, rfl⟩ := e
    obtain ⟨i0, hi, hz0, hz1, hz2⟩ := info_parts Tryz.info5
    have hgrow := run_append_grow (P := Tryz.prog) w 30 30 5 i0 (.int .u8 0) Tryz.underlying30 hi hz0 ⟨g, 0, none⟩ bs.length bs.length (BB bs) (by rw [hz1]; simp [BB]) (fun j v hj => by
      rw [← hc, Array.getElem?_toList] at hj
      rw [Addr.add_lit, Nat.zero_add]
      simp [World.cell?, hh, hj]) ad m c2 (BB zs) (by rw [hz1]; simp [BB]; omega) hn (by omega) (by omega) (by rw [hz2]; exact growslice_fits (by omega) (by omega))
    have hge := grownCap_ge w (bs.length + m) bs.length 5
    have hcm := grownCap_le_maxLen w (bs.length + m) bs.length 5 (by unfold maxLen; omega)
    refine ⟨_, _, _, hgrow, ⟨by simp [BB]; omega, .inr ⟨w.heap.size, _, _, rfl, hB, heap_alloc_new w.drew _, hge, hcm, ?_, ?_⟩⟩, ⟨rfl, rfl, rfl, by simp, fun k hk _ => (bl_alloc (Below.refl w.drew.heap.size w.drew)).block k hk⟩⟩
    · have hzc : (Value.int IntKind.u8 0).cells.size = 1 := rfl
      simp only [Array.size_append, List.size_toArray, size_zeroCells, hzc, BB, List.length_map]
      omega
    · have : (bs.length + m) * 1 = (BB bs ++ BB zs).length := by simp [BB]; omega
      rw [this, Array.toList_append, Array.toList_append, List.take_append_of_le_length (by simp)]
      simp only [List.length_append]
      rw [← List.length_append, List.take_length]

/-- the writer at p, which has written bs; all of its own lies from B on -/
structure Wr (B p : Nat) (bs : List Int) (w : World) : Prop where
  ex : ∃ a c, w.heap[p]? = some (.cells #[.slice a bs.length c] 72 (0, 0)) ∧ RowB B (.slice a bs.length c) bs w
  low : B ≤ p
  byt : Mth.Byt bs

/-- blocks that are neither p nor bytes are as they were -/
def Fram (p : Nat) (w w' : World) : Prop := w.heap.size ≤ w'.heap.size ∧ ∀ k cs T f, k ≠ p → T ≠ 5 → w.heap[k]? = some (.cells cs T f) → w'.heap[k]? = some (.cells cs T f)

theorem Fram.trans {p : Nat} {a b c : World} (h : Fram p a b) (k : Fram p b c) : Fram p a c := ⟨Nat.le_trans h.1 k.1, fun j cs T f h1 h2 h3 => k.2 j cs T f h1 h2 (h.2 j cs T f h1 h2 h3)⟩
theorem Fram.refl (p : Nat) (w : World) : Fram p w w := ⟨Nat.le_refl _, fun _ _ _ _ _ _ h => h⟩
theorem Fram.below {p : Nat} {w w' : World} (b : Below w.heap.size w w') : Fram p w w' := ⟨b.size, fun k _ _ _ _ _ h => (b.block k (Array.getElem?_eq_some_iff.1 h).1).trans h⟩

/-- what a writer's method does: it writes out -/
def WDone (B p : Nat) (bs : List Int) (w : World) (e : Ending) (w' : World) : Prop := e = .returned (.tuple #[]) ∧ Wr B p bs w' ∧ Below B w w' ∧ Fram p w w'

theorem Wr.at {B p : Nat} {bs : List Int} {w : World} (h : Wr B p bs w) : ∃ a c, w.cell? ⟨p, 0, none⟩ = some (.slice a bs.length c) ∧ w.frozen? ⟨p, 0, none⟩ = false ∧ p < w.heap.size ∧ RowB B (.slice a bs.length c) bs w := by
  obtain ⟨a, c, h1, h2⟩ := h.ex
  exact ⟨a, c, by simp [World.cell?, h1], by simp [World.frozen?, h1], (Array.getElem?_eq_some_iff.1 h1).1, h2⟩

theorem Wr.step {B p : Nat} {bs : List Int} {w w' : World} (h : Wr B p bs w) (hb : Below w.heap.size w w') : Wr B p bs w' := by
  obtain ⟨a, c, h1, h2⟩ := h.ex
  exact ⟨⟨a, c, (hb.block p (Array.getElem?_eq_some_iff.1 h1).1).trans h1, h2.step hb⟩, h.low, h.byt⟩

/-- one byte more: the append's run, and the writer behind it -/
theorem Wr.push {B p : Nat} {bs : List Int} {w : World} (h : Wr B p bs w) {a : Option Addr} {c : Nat} (hc : w.cell? ⟨p, 0, none⟩ = some (.slice a bs.length c)) (x : Int) (hx : 0 ≤ x ∧ x < 256) (hn : bs.length ≤ 9000000) : ∃ g cap w6, (Builtin.append_ #[30, 30] 30 #[.slice a bs.length c, .slice (some ⟨w.heap.size, 0, none⟩) 1 1]).run Tryz.prog (w.alloc (.cells #[.int .u8 x] 5)) = .ok (.slice (some ⟨g, 0, none⟩) (bs.length + 1) cap) w6 ∧ w6.cell? ⟨p, 0, none⟩ = some (.slice a bs.length c) ∧ w6.frozen? ⟨p, 0, none⟩ = false ∧ p < w6.heap.size ∧ Wr B p (bs ++ [x]) (w6.setCell ⟨p, 0, none⟩ (.slice (some ⟨g, 0, none⟩) (bs.length + 1) cap)) ∧ Below B w (w6.setCell ⟨p, 0, none⟩ (.slice (some ⟨g, 0, none⟩) (bs.length + 1) cap)) ∧ Fram p w (w6.setCell ⟨p, 0, none⟩ (.slice (some ⟨g, 0, none⟩) (bs.length + 1) cap)) := by
  obtain ⟨a', c', h1, h2⟩ := h.ex
  have e : (.slice a bs.length c : Value) = .slice a' bs.length c' := by
    have : w.cell? ⟨p, 0, none⟩ = some (.slice a' bs.length c') := by simp [World.cell?, h1]
    rw [hc] at this
    exact Option.some.inj this
  simp only [Value.slice.injEq, true_and] at e
  obtain ⟨rfl, rfl⟩ := e
  have hp := (Array.getElem?_eq_some_iff.1 h1).1
  have hB := h.low
  have hb1 : Below w.heap.size w (w.alloc (.cells #[.int .u8 x] 5)) := bl_alloc (Below.refl _ _)
  have hs1 := hb1.size
  obtain ⟨g, cap, w6, hrun, ho, hg⟩ := (h2.step hb1).app (ad := ⟨w.heap.size, 0, none⟩) (m := 1) (c2 := 1) (zs := [x]) rfl src_of (by decide) (by omega) (by omega)
  have hne : some p ≠ (Value.slice a bs.length c).ownBlock := fun e => by
    obtain ⟨_, cur, f, hh⟩ := h2.blk e.symm
    rw [h1] at hh
    simp only [Option.some.injEq, Obj.cells.injEq] at hh
    exact absurd hh.2.1 (by decide)
  have h6 : w6.heap[p]? = some (.cells #[.slice a bs.length c] 72 (0, 0)) := (hg.block p (by omega) hne).trans ((hb1.block p hp).trans h1)
  have hgp : g ≠ p := fun e => by
    subst e
    rcases ho.2 with ⟨e2, _⟩ | ⟨g2, c2, cur, e2, _, hh, _⟩
    · cases e2
    · simp only [Value.slice.injEq, Option.some.injEq, Addr.mk.injEq, and_true] at e2
      rw [← e2.1, h6] at hh
      simp only [Option.some.injEq, Obj.cells.injEq] at hh
      exact absurd hh.2.1 (by decide)
  have h7 : (w6.setCell ⟨p, 0, none⟩ (.slice (some ⟨g, 0, none⟩) (bs.length + 1) cap)).heap[p]? = some (.cells #[.slice (some ⟨g, 0, none⟩) (bs.length + 1) cap] 72 (0, 0)) := by
    simp [World.setCell, Array.getElem?_modify, h6]
  refine ⟨g, cap, w6, hrun, by simp [World.cell?, h6], by simp [World.frozen?, h6], (Array.getElem?_eq_some_iff.1 h6).1, ⟨⟨some ⟨g, 0, none⟩, cap, ?_, ?_⟩, h.low, ?_⟩, ?_, ?_⟩
  · rw [show (bs ++ [x]).length = bs.length + 1 by simp]
    exact h7
  · unfold RowB
    rw [show (bs ++ [x]).length = bs.length + 1 by simp]
    exact .inl (ownsRow_setCell_other ho (by simp [Value.ownBlock]; exact hgp) _)
  · intro y hy
    rcases List.mem_append.1 hy with hy | hy
    · exact h.byt y hy
    · simp only [List.mem_cons, List.not_mem_nil, or_false] at hy
      rw [hy]; exact hx
  · exact (((hb1.mono (by omega)).grown hg (by omega) fun k hk => (h2.blk hk).1).setCell h.low _)
  · refine ⟨by rw [World.size_setCell]; have := hg.size; omega, fun k cs T f hkp hT hk => ?_⟩
    have hkl := (Array.getElem?_eq_some_iff.1 hk).1
    have hkn : some k ≠ (Value.slice a bs.length c).ownBlock := fun e => by
      obtain ⟨_, cur, f', hh⟩ := h2.blk e.symm
      rw [hk] at hh
      simp only [Option.some.injEq, Obj.cells.injEq] at hh
      exact hT hh.2.1
    rw [Below.heap_setCell _ _ _ _ hkp, hg.block k (by omega) hkn, hb1.block k hkl]
    exact hk

theorem low7 (m : Nat) (hm : m < 18446744073709551616) : bits .and .u64 (m : Int) 127 = ((m % 128 : Nat) : Int) := by
  have := u64_and (m : Int) 127 (by omega) (by omega) (by decide) (by decide)
  rw [this, Int.toNat_natCast]
  show ((m &&& 127 : Nat) : Int) = _
  rw [show (127 : Nat) = 2 ^ 7 - 1 from rfl, Nat.and_two_pow_sub_one_eq_mod]

theorem or128 (m : Nat) (hm : m < 128) : bits .or .u8 (m : Int) 128 = ((m + 128 : Nat) : Int) := by
  have := u8_or (m : Int) 128 (by omega) (by omega) (by decide) (by decide)
  rw [this, Int.toNat_natCast]
  show ((m ||| 128 : Nat) : Int) = _
  rw [Nat.or_comm, show (128 : Nat) = 2 ^ 7 * 1 from rfl, ← Nat.two_pow_add_eq_or_of_lt (by omega)]
  omega

set_option maxHeartbeats 4000000 in
set_option maxRecDepth 20000 in
theorem plain_any (B p : Nat) (bs : List Int) (n : Nat) (w : World) (hn : n < 18446744073709551616) (h : Wr B p bs w) (hl : (bs ++ plainL n).length ≤ 9000000) :
    Calls Tryz.prog 103 #[.pointer (some ⟨p, 0, none⟩), .int .u64 n] w (WDone B p (bs ++ plainL n) w) := by
  have HW := hid h
  have HL := hid hl
  clear h hl
  go_enter Tryz.func103, Tryz.ntmps103
  go_wp2
  go_loopw [1] (fun q wr => ∃ (m : Nat) (cs : List Int), q = .int .u64 m ∧ Hid (m < 18446744073709551616) ∧ Hid (cs ++ plainL m = bs ++ plainL n) ∧ Hid (Wr B p cs wr) ∧ Hid (Below B w wr) ∧ Hid (Fram p w wr)) (fun q _ => (intOf q).toNat)
  case atStart => exact ⟨n, bs, rfl, hn, rfl, HW, Below.refl _ _, Fram.refl _ _⟩
  case round =>
    obtain ⟨m, cs, rfl, hm, he, WR, HB, HF⟩ := hrel
    have hm := hm.out
    have hcl : cs.length ≤ 9000000 := by have h1 := congrArg List.length he.out; have h2 := HL.out; rw [List.length_append] at h1; omega
    obtain ⟨a, c, k1, k2, k3, _⟩ := WR.out.at
    by_cases hlt : m < 128
    · have hd : ¬ (127 : Int) < (m : Int) := by omega
      obtain ⟨g, cap, w6, hrun, q1, q2, q3, WN, BN, FN⟩ := WR.out.push k1 (m : Int) (by omega) hcl
      have hw8 : IntKind.u8.wrap (m : Int) = (m : Int) := by rw [wrap8, Nat.mod_eq_of_lt (by omega)]
      have HE : Hid (WDone B p (bs ++ plainL n) w (.returned (.tuple #[])) (w6.setCell ⟨p, 0, none⟩ (.slice (some ⟨g, 0, none⟩) (cs.length + 1) cap))) := ⟨rfl, by rw [← he.out, plain_small hlt]; exact WN, HB.out.trans BN, HF.out.trans FN⟩
      clear WN BN FN he WR HB HF
      go_wp2_with (at_builtin; refine append_run rfl _ _ rfl rfl rfl hrun ?_)
      go_end0
      exact HE.out
    · have hd : (127 : Int) < (m : Int) := by omega
      obtain ⟨g, cap, w6, hrun, q1, q2, q3, WN, BN, FN⟩ := WR.out.push k1 ((m % 128 + 128 : Nat) : Int) (by omega) hcl
      have h7 := low7 m hm
      have hw8 : IntKind.u8.wrap ((m % 128 : Nat) : Int) = ((m % 128 : Nat) : Int) := by rw [wrap8, Nat.mod_eq_of_lt (by omega)]
      have ho := or128 (m % 128) (by omega)
      have RN : Hid ((cs ++ [((m % 128 + 128 : Nat) : Int)]) ++ plainL (m / 128) = bs ++ plainL n) := by
        show _ = _
        rw [← he.out, plain_great hlt]; simp
      have RW := hid WN
      have RB := hid (HB.out.trans BN)
      have RF := hid (HF.out.trans FN)
      have hm2 : m / 128 < 18446744073709551616 := by omega
      generalize hr : m % 128 = r at *
      clear hr WN BN FN he WR HB HF
      go_wp2_with (at_builtin; refine append_run rfl _ _ rfl rfl rfl hrun ?_)
      go_roundw
      case rel => exact ⟨m / 128, _, vint (by omega), hm2, RN, RW, RB, RF⟩
      case measure => simp [intOf]; omega

/-- a number's place among those without a sign -/
def foldN (n : Int) : Nat := if n < 0 then (-2 * n - 1).toNat else (2 * n).toNat
def numL (n : Int) : List Int := plainL (foldN n)

theorem fold_lt {n : Int} (h : wfI n) : foldN n < 18446744073709551616 := by
  have := bounds_i64 h
  unfold foldN
  split <;> omega

theorem ones_xor64 (s : Nat) (hs : s < 18446744073709551616) : 18446744073709551615 ^^^ s = 18446744073709551615 - s := by
  have e : 18446744073709551615 - s = 2 ^ 64 - (s + 1) := by omega
  rw [e, show (18446744073709551615 : Nat) = 2 ^ 64 - 1 from rfl]
  apply Nat.eq_of_testBit_eq
  intro i
  rw [Nat.testBit_xor, Nat.testBit_two_pow_sub_one, Nat.testBit_two_pow_sub_succ (by omega)]
  by_cases h : i < 64
  · simp [h]
  · have : s.testBit i = false := Nat.testBit_lt_two_pow (Nat.lt_of_lt_of_le hs (show 2 ^ 64 ≤ 2 ^ i from Nat.pow_le_pow_right (by decide) (by omega)))
    simp [h, this]

theorem neg_fold {n : Int} (h1 : -9223372036854775808 ≤ n) (h2 : n < 0) : bits .xor .u64 IntKind.u64.max (IntKind.u64.wrap (IntKind.u64.wrap n * 2)) = ((foldN n : Nat) : Int) := by
  have e1 : IntKind.u64.wrap (IntKind.u64.wrap n * 2) = (((2 * n + 18446744073709551616).toNat : Nat) : Int) := by
    simp [IntKind.wrap, IntKind.bits, IntKind.signed]
    omega
  have hs : (2 * n + 18446744073709551616).toNat < 18446744073709551616 := by omega
  rw [e1]
  have := u64_xor IntKind.u64.max (((2 * n + 18446744073709551616).toNat : Nat) : Int) (by decide) (by decide) (by omega) (by omega)
  rw [this, show IntKind.u64.max.toNat = 18446744073709551615 from rfl, Int.toNat_natCast, ones_xor64 _ hs]
  unfold foldN
  rw [if_pos h2]
  omega

set_option maxHeartbeats 2000000 in
set_option maxRecDepth 20000 in
theorem number_any (B p : Nat) (bs : List Int) (n : Int) (w : World) (hn : wfI n) (h : Wr B p bs w) (hl : (bs ++ numL n).length ≤ 9000000) :
    Calls Tryz.prog 58 #[.pointer (some ⟨p, 0, none⟩), .int .i64 n] w (WDone B p (bs ++ numL n) w) := by
  have HP := hid (plain_any B p bs (foldN n) w (fold_lt hn) h hl)
  have hb := bounds_i64 hn
  have HD : Hid (∀ w', Wr B p (bs ++ plainL (foldN n)) w' → Below B w w' → Fram p w w' → WDone B p (bs ++ numL n) w (.returned (.tuple #[])) w') := fun _ h1 h2 h3 => ⟨rfl, h1, h2, h3⟩
  clear h hl
  by_cases hs : n < 0
  · have e := neg_fold (by omega) hs
    rw [← e] at HP
    clear e
    go_enter Tryz.func58, Tryz.ntmps58
    go_wp2_with fail
    refine HP.out.mono ?_
    rintro e w1 ⟨rfl, h1, h2, h3⟩
    have HE := hid (HD.out w1 h1 h2 h3)
    clear h1 h2 h3 HP HD
    go_wp2
    go_end0
    exact HE.out
  · have e : ((foldN n : Nat) : Int) = n * 2 := by unfold foldN; rw [if_neg hs]; omega
    rw [e] at HP
    clear e
    go_enter Tryz.func58, Tryz.ntmps58
    go_wp2_with fail
    refine HP.out.mono ?_
    rintro e w1 ⟨rfl, h1, h2, h3⟩
    have HE := hid (HD.out w1 h1 h2 h3)
    clear h1 h2 h3 HP HD
    go_wp2
    go_end0
    exact HE.out
end Go.Proofs.YthekochmeihdfaaGreat
