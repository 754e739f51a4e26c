/- Both ways as one, for the law; rows that are copied; what packBegun does. -/
import Derived.Test.YtehejhpgehlifabPSum3
import Derived.Test.YtehejhpgehlifabSame
namespace Go.Proofs.Ytehejhpgehlifab
open Go.RowKit

def II (zs : List Int) : List Value := zs.map (Value.int .i64)

theorem Try.infoInt : (Try.prog.info? 3).map (fun i => (i.zero, i.size, i.bytes)) = some (some (.int .i64 0), 1, 8) := by kernel_rfl

theorem ii_one (zs : List Int) : ∀ u ∈ II zs, u.oneCell' = true := by
  intro u hu
  simp only [II, List.mem_map] at hu
  obtain ⟨x, _, rfl⟩ := hu
  rfl

theorem has_cellsI {w : World} {ad : Addr} {m : Nat} {zs : List Int} (h : Has .i64 w (some ad) m zs) : ∀ (j : Nat) (u : Value), (II zs)[j]? = some u → w.cell? (ad.add j) = some u := by
  intro j u hj
  have hj' : j < zs.length := by
    have := (List.getElem?_eq_some_iff.1 hj).1
    simpa [II] using this
  have hl := h.1
  obtain ⟨b, off, e, _, hc⟩ := h.some (by omega)
  simp only [Option.some.injEq] at e
  subst e
  rw [Addr.add_lit, hc j (by omega)]
  simp only [II, List.getElem?_map, List.getElem?_eq_getElem hj', Option.map_some, Option.some.injEq] at hj
  simp only [List.getD_eq_getElem?_getD, List.getElem?_eq_getElem hj', Option.getD_some, hj]

/-- numbers put behind nothing: a row of the call's own -/
theorem copy64_law {w : World} {ops : Array Oper} {rest : List Oper} {o : Oper} {a : Act} {Q : Exit → Act → World → Prop} (hgd : o.guard = none) (s x : Operand)
    (ho : o.op = .call { callee := .builtin .append, args := #[s, x], argTypes := #[32, 32] }) (hs : a.eval s = .slice none 0 0) (ad : Option Addr) (m c : Nat) (zs : List Int) (hx : a.eval x = .slice ad m c)
    (hn : ad = none → m = 0 ∧ c = 0) (hz : Has .u64 w ad m zs) (hsmall : m ≤ 10000000)
    (h : ∀ v' w', w'.ownsRow w.heap.size 50 1 v' m (UU zs) → Below w.heap.size w w' → wpList Try.prog ops Q rest (a.put o.dst v') w') : wpList Try.prog ops Q (o :: rest) a w := by
  obtain ⟨i0, hi, hz0, hz1, hz2⟩ := info_parts Try.info50
  cases ad with
  | none =>
    obtain ⟨rfl, rfl⟩ := hn rfl
    have e : zs = [] := List.eq_nil_of_length_eq_zero hz.1
    subst e
    exact wpList_append_own_none hgd s x 32 ho w.heap.size 50 i0 1 Try.underlying32 hi (.slice none 0 0) 0 [] hs (World.ownsRow_nil _ _ _ _) hx (h _ _ (World.ownsRow_nil _ _ _ _) (Below.refl _ _))
  | some ad =>
    refine wpList_append_own w hgd s x 32 ho w.heap.size 50 i0 (.int .u64 0) 1 8 Try.underlying32 hi hz0 hz1 hz2 rfl (by decide) (.slice none 0 0) 0 [] hs (World.ownsRow_nil _ _ _ _) ad m c (UU zs) hx (by have := hz.1; simp [UU]; omega) (has_cells64 hz) (uu_one zs) (by unfold maxLen; omega) (by omega) (Nat.le_refl _) ?_
    intro v' w' h1 h2 _
    rw [Nat.zero_add, List.nil_append] at h1
    exact h v' w' h1 ((Below.refl _ _).grown h2 (Nat.le_refl _) (by intro k hk; simp [Value.ownBlock] at hk))

/-- numbers put behind nothing: a row of the call's own -/
theorem copyI_law {w : World} {ops : Array Oper} {rest : List Oper} {o : Oper} {a : Act} {Q : Exit → Act → World → Prop} (hgd : o.guard = none) (s x : Operand)
    (ho : o.op = .call { callee := .builtin .append, args := #[s, x], argTypes := #[31, 31] }) (hs : a.eval s = .slice none 0 0) (ad : Option Addr) (m c : Nat) (zs : List Int) (hx : a.eval x = .slice ad m c)
    (hn : ad = none → m = 0 ∧ c = 0) (hz : Has .i64 w ad m zs) (hsmall : m ≤ 10000000)
    (h : ∀ v' w', w'.ownsRow w.heap.size 3 1 v' m (II zs) → Below w.heap.size w w' → wpList Try.prog ops Q rest (a.put o.dst v') w') : wpList Try.prog ops Q (o :: rest) a w := by
  obtain ⟨i0, hi, hz0, hz1, hz2⟩ := info_parts Try.infoInt
  cases ad with
  | none =>
    obtain ⟨rfl, rfl⟩ := hn rfl
    have e : zs = [] := List.eq_nil_of_length_eq_zero hz.1
    subst e
    exact wpList_append_own_none hgd s x 31 ho w.heap.size 3 i0 1 Try.underlying31 hi (.slice none 0 0) 0 [] hs (World.ownsRow_nil _ _ _ _) hx (h _ _ (World.ownsRow_nil _ _ _ _) (Below.refl _ _))
  | some ad =>
    refine wpList_append_own w hgd s x 31 ho w.heap.size 3 i0 (.int .i64 0) 1 8 Try.underlying31 hi hz0 hz1 hz2 rfl (by decide) (.slice none 0 0) 0 [] hs (World.ownsRow_nil _ _ _ _) ad m c (II zs) hx (by have := hz.1; simp [II]; omega) (has_cellsI hz) (ii_one zs) (by unfold maxLen; omega) (by omega) (Nat.le_refl _) ?_
    intro v' w' h1 h2 _
    rw [Nat.zero_add, List.nil_append] at h1
    exact h v' w' h1 ((Below.refl _ _).grown h2 (Nat.le_refl _) (by intro k hk; simp [Value.ownBlock] at hk))


/-- a row of one's own: what it is -/
theorem own_is {w : World} {base e len : Nat} {v : Value} {xs : List Value} (h : w.ownsRow base e 1 v len xs) : ∃ a cap, v = .slice a len cap ∧ len ≤ cap ∧ (a = none → len = 0 ∧ cap = 0) := by
  rcases h.2 with ⟨rfl, rfl⟩ | ⟨g, cap, cur, rfl, _, _, h1, _⟩
  · exact ⟨none, 0, rfl, Nat.le_refl _, fun _ => ⟨rfl, rfl⟩⟩
  · exact ⟨_, cap, rfl, h1, fun h => by cases h⟩

theorem has_own64 {w : World} {base len : Nat} {a : Option Addr} {cap : Nat} {zs : List Int} (h : w.ownsRow base 50 1 (.slice a len cap) len (UU zs)) (hb : ∀ n ∈ zs, 0 ≤ n ∧ n < 18446744073709551616) : Has .u64 w a len zs := by
  obtain ⟨a', c', e, h'⟩ := has_of_owns64 h hb
  simp only [Value.slice.injEq] at e
  rw [e.1]; exact h'

theorem has_own8 {w : World} {base len : Nat} {a : Option Addr} {cap : Nat} {zs : List Int} (h : w.ownsRow base 5 1 (.slice a len cap) len (BB zs)) (hb : Mth.Bytes zs) : Has .u8 w a len zs := by
  obtain ⟨a', c', e, h'⟩ := has_of_owns8 h hb
  simp only [Value.slice.injEq] at e
  rw [e.1]; exact h'

theorem has_ownI {w : World} {base len : Nat} {a : Option Addr} {cap : Nat} {zs : List Int} (h : w.ownsRow base 3 1 (.slice a len cap) len (II zs)) (hb : ∀ n ∈ zs, (Lit.int .i64 n).wf = true) : Has .i64 w a len zs := by
  have hl : zs.length = len := by simpa [II] using h.1
  rcases h.2 with ⟨e, rfl⟩ | ⟨g, cap, cur, e, _⟩
  · exact ⟨hl, hb, .inl (List.eq_nil_of_length_eq_zero hl)⟩
  · simp only [Value.slice.injEq] at e
    obtain ⟨rfl, _, rfl⟩ := e
    refine ⟨hl, hb, .inr ⟨g, 0, rfl, (h.lt g rfl).2, fun i hi => ?_⟩⟩
    rw [Nat.zero_add, h.cellAt i (by omega)]
    simp only [II, List.getElem?_map, List.getD_eq_getElem?_getD]
    rw [List.getElem?_eq_getElem (by omega)]; rfl

/-- Size -/
theorem size_one (m : Nat) (ws : List Int) : ∃ N C A : Int,
    (∀ a c w, Has .i64 w a m ws → Calls Try.prog 14 #[HD a m c] w fun e w' => e = .returned (.tuple #[.int .i64 N, .agg #[.int .i64 C, .int .i64 A]]) ∧ Below w.heap.size w w') ∧
    (∀ a c w, Has .i64 w a m ws → Calls Try.prog 15 #[HD a m c] w fun e w' => e = .returned (.tuple #[.int .i64 N, .agg #[.int .i64 C, .int .i64 A]]) ∧ Below w.heap.size w w') := by
  rcases size_both m ws with ⟨_, h1, h2⟩ | ⟨_, C, A, _, h1, h2⟩
  · exact ⟨_, _, _, h1, h2⟩
  · exact ⟨_, _, _, h1, h2⟩

/-- Read -/
theorem read_one (len m : Nat) (t : Int) (zs ws : List Int) (hl : len ≤ 100000) : ∃ (L : Nat) (ys : List Int) (C A : Int), L ≤ 1000 ∧
    (∀ a c b d w, len ≤ d → Has .i64 w a m ws → Has .u8 w b len zs → Calls Try.prog 16 #[HD a m c, .slice b len d, .int .i64 t] w fun e w' => ∃ g cap', e = .returned (.tuple #[.slice g L cap', .agg #[.int .i64 C, .int .i64 A]]) ∧ Has .u64 w' g L ys ∧ Below w.heap.size w w') ∧
    (∀ a c b d w, len ≤ d → Has .i64 w a m ws → Has .u8 w b len zs → Calls Try.prog 17 #[HD a m c, .slice b len d, .int .i64 t] w fun e w' => ∃ g cap', e = .returned (.tuple #[.slice g L cap', .agg #[.int .i64 C, .int .i64 A]]) ∧ Has .u64 w' g L ys ∧ Below w.heap.size w w') := by
  rcases read_both len m t zs ws hl with ⟨hh, _, h1, h2⟩ | ⟨C, A, _, h1, h2⟩
  · exact ⟨m, _, 0, 0, by have := hh.2.1; omega, h1, h2⟩
  · exact ⟨0, [], C, A, by omega, fun a c b d w _ hw _ => (h1 a c b d w hw).mono fun e w' ⟨he, hb⟩ => ⟨none, 0, he, has_nil _ _, hb⟩, fun a c b d w _ hw _ => (h2 a c b d w hw).mono fun e w' ⟨he, hb⟩ => ⟨none, 0, he, has_nil _ _, hb⟩⟩

/-- Write -/
theorem write_one (n m : Nat) (ls ws : List Int) : ∃ (L : Nat) (ys : List Int) (C A : Int), L ≤ 100000 ∧
    (∀ a c b d w, Has .i64 w a m ws → Has .u64 w b n ls → Calls Try.prog 19 #[HD a m c, .slice b n d] w fun e w' => ∃ g cap', e = .returned (.tuple #[.slice g L cap', .agg #[.int .i64 C, .int .i64 A]]) ∧ Has .u8 w' g L ys ∧ Below w.heap.size w w') ∧
    (∀ a c b d w, Has .i64 w a m ws → Has .u64 w b n ls → Calls Try.prog 20 #[HD a m c, .slice b n d] w fun e w' => ∃ g cap', e = .returned (.tuple #[.slice g L cap', .agg #[.int .i64 C, .int .i64 A]]) ∧ Has .u8 w' g L ys ∧ Below w.heap.size w w') := by
  rcases write_both n m ls ws with ⟨hh, _, _, h1, h2⟩ | ⟨C, A, _, h1, h2⟩
  · exact ⟨_, _, 0, 0, by have := hh.2.2.2.2; omega, h1, h2⟩
  · exact ⟨0, [], C, A, by omega, fun a c b d w hw hv => (h1 a c b d w hw hv).mono fun e w' ⟨he, hb⟩ => ⟨none, 0, he, has_nil _ _, hb⟩, fun a c b d w hw hv => (h2 a c b d w hw hv).mono fun e w' ⟨he, hb⟩ => ⟨none, 0, he, has_nil _ _, hb⟩⟩

/-- what is told of a sum -/
def sumTold (C A : Int) (ys : List Int) : Value := if C = 0 then .tuple #[.int .i64 (Mth.less (Mth.whole ys)), .agg #[.int .i64 0, .int .i64 0]] else .tuple #[.int .i64 0, .agg #[.int .i64 C, .int .i64 A]]

theorem sumTold_is (C A : Int) (ys : List Int) : ∃ x C' A' : Int, sumTold C A ys = .tuple #[.int .i64 x, .agg #[.int .i64 C', .int .i64 A']] := by
  unfold sumTold
  split
  · exact ⟨_, _, _, rfl⟩
  · exact ⟨_, _, _, rfl⟩

/-- Sum -/
theorem sum_one (n m : Nat) (s : Int) (ls ws : List Int) (hl : n ≤ 100000) : ∃ x C A : Int,
    (∀ a c b d w, (b = none → n = 0 ∧ d = 0) → Has .i64 w a m ws → Has .u64 w b n ls → Calls Try.prog 22 #[HD a m c, .slice b n d, .int .i64 s] w fun e w' => e = .returned (.tuple #[.int .i64 x, .agg #[.int .i64 C, .int .i64 A]]) ∧ Below w.heap.size w w') ∧
    (∀ a c b d w, (b = none → n = 0 ∧ d = 0) → Has .i64 w a m ws → Has .u64 w b n ls → Calls Try.prog 23 #[HD a m c, .slice b n d, .int .i64 s] w fun e w' => e = .returned (.tuple #[.int .i64 x, .agg #[.int .i64 C, .int .i64 A]]) ∧ Below w.heap.size w w') := by
  by_cases hr : s < -1 ∨ (m : Int) ≤ s
  · exact ⟨0, 1, -1, fun a c b d w _ _ _ => psum_range a b m c n d s w hr, fun a c b d w _ _ _ => rsum_range a b m c n d s w hr⟩
  · obtain ⟨L, ys, C, A, hL, h1, h2⟩ := write_one n m (Mth.zap ls s n) ws
    obtain ⟨x, C', A', e⟩ := sumTold_is C A ys
    refine ⟨x, C', A', fun a c b d w hn hw hv => ?_, fun a c b d w _ hw hv => ?_⟩
    · rw [← e]; exact psum_write a b m c n d L s C A ls ws ys w (by omega) (by omega) hn hl hL hv hw h1
    · rw [← e]; exact rsum_write a b m c n d L s C A ls ws ys w (by omega) (by omega) hl hL hv hw h2

set_option maxHeartbeats 1000000 in
theorem same_ints {w : World} {a b : Option Addr} {m : Nat} {ps : List Int} (c d : Nat) (hm : m ≤ 1000) (ha : Has .i64 w a m ps) (hb : Has .i64 w b m ps) :
    Calls Try.prog 24 #[.slice a m c, .slice b m d] w fun e w' => e = .returned (.bool true) ∧ ∃ s, w' = w.drewN s := by
  have hne : ((m : Int) != (m : Int)) = false := by simp
  go_enter Try.func24, Try.ntmps24
  go_wp2
  go_loopw [5] (fun q wr => ∃ k : Nat, k ≤ m ∧ q = .int .i64 k ∧ Hid (∃ s, wr = w.drewN s)) (fun q _ => m - (intOf q).toNat)
  case atStart => exact ⟨0, Nat.zero_le _, rfl, 0, rfl⟩
  case round =>
    obtain ⟨k, hk, rfl, hq⟩ := hrel
    by_cases hlt : k < m
    · obtain ⟨p1, o1, rfl, hp1, hc1⟩ := ha.some (by omega)
      obtain ⟨p2, o2, rfl, hp2, hc2⟩ := hb.some (by omega)
      have q1 : wr.cell? ⟨p1, o1 + k, none⟩ = some (.int .i64 (ps.getD k 0)) := by obtain ⟨s, e⟩ := hq; rw [e]; exact hc1 k hlt
      have q2 : wr.cell? ⟨p2, o2 + k, none⟩ = some (.int .i64 (ps.getD k 0)) := by obtain ⟨s, e⟩ := hq; rw [e]; exact hc2 k hlt
      clear hc1 hc2 hp1 hp2 ha hb
      have hki : (k : Int) < (m : Int) := by omega
      simp only [List.getD_eq_getElem?_getD] at q1 q2
      generalize ps[k]?.getD 0 = x at *
      have hx : (x != x) = false := by simp
      go_wp2
      go_big_quiet (fail)
      go_wp2
      go_roundw
      case rel => exact ⟨k + 1, by omega, by go_num, by obtain ⟨s, e⟩ := hq; rw [e]; exact ⟨_, World.drewN_drewN _ _ _⟩⟩
      case measure => simp [intOf]; omega
    · go_wp2
      go_ret
      exact ⟨rfl, hq⟩
end Go.Proofs.Ytehejhpgehlifab
