/- What package bits and the document's own answer tell is the same. -/
import Derived.Test.YtllnedikfikgiaaPart3
import Derived.Test.YtllnedikfikgiaaSame
import Derived.Laws.AppendOwnNone
namespace Go.Proofs.Ytllnedikfikgiaa
open Go.RowKit

theorem first_of (P : Nat → Prop) (m : Nat) : (∀ j, j < m → P j) ∨ ∃ i, i < m ∧ ¬ P i ∧ ∀ j, j < i → P j := by
  induction m with
  | zero => exact .inl (fun j hj => absurd hj (Nat.not_lt_zero _))
  | succ m ih =>
    rcases ih with h | ⟨i, hi, h1, h2⟩
    · by_cases hp : P m
      · refine .inl (fun j hj => ?_)
        by_cases e : j = m
        · subst e; exact hp
        · exact h j (by omega)
      · exact .inr ⟨m, Nat.lt_succ_self _, hp, h⟩
    · exact .inr ⟨i, by omega, h1, h2⟩

theorem has_nil (k : IntKind) (w : World) : Has k w none 0 [] := ⟨rfl, by simp, .inl rfl⟩

theorem get_both (len : Nat) (zs : List Int) (t n : Int) (hl : len ≤ 100000) : ∃ x C A : Int,
    (∀ a cap w, Has .u8 w a len zs → Calls Try.prog 8 #[.slice a len cap, .int .i64 t, .int .i64 n] w fun e w' => e = .returned (.tuple #[.int .u64 x, .agg #[.int .i64 C, .int .i64 A]]) ∧ Below w.heap.size w w') ∧
    (∀ a cap w, Has .u8 w a len zs → Calls Try.prog 9 #[.slice a len cap, .int .i64 t, .int .i64 n] w fun e w' => e = .returned (.tuple #[.int .u64 x, .agg #[.int .i64 C, .int .i64 A]]) ∧ Below w.heap.size w w') :=
  ⟨_, _, _, fun a cap w hz => get_two a len cap t n zs w hl hz, fun a cap w hz => rget_any a len cap t n zs w hl hz⟩

theorem rput_int (a : Option Addr) (len cap : Nat) (t n v : Int) (zs : List Int) (w : World) (hl : len ≤ 100000) (hv : 0 ≤ v ∧ v < 18446744073709551616) (hz : Has .u8 w a len zs) (hcode : codeOf len t n = 0) :
    Calls Try.prog 11 #[.slice a len cap, .int .i64 t, .int .i64 n, .int .u64 v] w fun e w' => ∃ g cap', e = .returned (.tuple #[.slice (some ⟨g, 0, none⟩) len cap', .agg #[.int .i64 0, .int .i64 0]]) ∧
      Has .u8 w' (some ⟨g, 0, none⟩) len (Mth.wr zs t.toNat n.toNat v.toNat n.toNat) ∧ Below w.heap.size w w' := by
  have hk := code_ok hcode
  obtain ⟨t', rfl⟩ := Int.eq_ofNat_of_zero_le hk.2.2.1
  obtain ⟨n', rfl⟩ := Int.eq_ofNat_of_zero_le (show 0 ≤ n by omega)
  obtain ⟨v', rfl⟩ := Int.eq_ofNat_of_zero_le hv.1
  exact rput_yes a len cap t' n' v' zs w hl (by omega) hz hcode

theorem put_both (len : Nat) (zs : List Int) (t n v : Int) (hl : len ≤ 100000) (hv : 0 ≤ v ∧ v < 18446744073709551616) : ∃ (L : Nat) (ys : List Int) (C A : Int),
    (∀ a cap w, Has .u8 w a len zs → Calls Try.prog 10 #[.slice a len cap, .int .i64 t, .int .i64 n, .int .u64 v] w fun e w' => ∃ g c', e = .returned (.tuple #[.slice g L c', .agg #[.int .i64 C, .int .i64 A]]) ∧ Has .u8 w' g L ys ∧ Below w.heap.size w w') ∧
    (∀ a cap w, Has .u8 w a len zs → Calls Try.prog 11 #[.slice a len cap, .int .i64 t, .int .i64 n, .int .u64 v] w fun e w' => ∃ g c', e = .returned (.tuple #[.slice g L c', .agg #[.int .i64 C, .int .i64 A]]) ∧ Has .u8 w' g L ys ∧ Below w.heap.size w w') := by
  by_cases h : codeOf len t n = 0
  · refine ⟨len, Mth.wr zs t.toNat n.toNat v.toNat n.toNat, 0, 0, fun a cap w hz => ?_, fun a cap w hz => ?_⟩
    · exact (put_int a len cap t n v zs w hl hv hz h).mono fun e w' ⟨g, c', he, h1, h2⟩ => ⟨_, c', he, h1, h2⟩
    · exact (rput_int a len cap t n v zs w hl hv hz h).mono fun e w' ⟨g, c', he, h1, h2⟩ => ⟨_, c', he, h1, h2⟩
  · refine ⟨0, [], codeOf len t n, -1, fun a cap w hz => ?_, fun a cap w hz => ?_⟩
    · exact (put_no a len cap t n v w hl h).mono fun e w' ⟨he, h2⟩ => ⟨none, 0, he, has_nil _ _, h2⟩
    · exact (rput_no a len cap t n v w hl h).mono fun e w' ⟨he, h2⟩ => ⟨none, 0, he, has_nil _ _, h2⟩

theorem join_both (n m : Nat) (ls ws : List Int) (hm : m ≤ 1000) : ∃ (L : Nat) (ys : List Int) (C A : Int),
    (∀ a c b d w, Has .u64 w a n ls → Has .i64 w b m ws → Calls Try.prog 12 #[.slice a n c, .slice b m d] w fun e w' => ∃ g c', e = .returned (.tuple #[.slice g L c', .agg #[.int .i64 C, .int .i64 A]]) ∧ Has .u8 w' g L ys ∧ Below w.heap.size w w') ∧
    (∀ a c b d w, Has .u64 w a n ls → Has .i64 w b m ws → Calls Try.prog 13 #[.slice a n c, .slice b m d] w fun e w' => ∃ g c', e = .returned (.tuple #[.slice g L c', .agg #[.int .i64 C, .int .i64 A]]) ∧ Has .u8 w' g L ys ∧ Below w.heap.size w w') := by
  by_cases he : n = m
  · subst he
    rcases first_of (Mth.Wide ws) n with hg | ⟨i, hi, hb, hg⟩
    · refine ⟨(Mth.off ws n + 7) / 8, Mth.jn ls ws ((Mth.off ws n + 7) / 8) n, 0, 0, fun a c b d w hv hw => ?_, fun a c b d w hv hw => ?_⟩
      · exact (join_good a b n c d ls ws w hm hv hw hg).mono fun e w' ⟨g, c', he, h1, h2⟩ => ⟨_, c', he, h1, h2⟩
      · exact rjoin_good a b n c d ls ws w hm hv hw hg
    · refine ⟨0, [], 6, i, fun a c b d w hv hw => ?_, fun a c b d w hv hw => ?_⟩
      · exact (join_width a b n c d i ws w hm hw hi hg hb).mono fun e w' ⟨he, h2⟩ => ⟨none, 0, he, has_nil _ _, h2⟩
      · exact (rjoin_width a b n c d i ls ws w hm hv hw hi hg hb).mono fun e w' ⟨he, h2⟩ => ⟨none, 0, he, has_nil _ _, h2⟩
  · refine ⟨0, [], 2, -1, fun a c b d w hv hw => ?_, fun a c b d w hv hw => ?_⟩
    · exact (join_many a b n c m d w he).mono fun e w' ⟨he, h2⟩ => ⟨none, 0, he, has_nil _ _, h2⟩
    · exact (rjoin_many a b n c m d w he).mono fun e w' ⟨he, h2⟩ => ⟨none, 0, he, has_nil _ _, h2⟩

theorem part_both (len m : Nat) (t : Int) (zs ws : List Int) (hl : len ≤ 100000) (hm : m ≤ 1000) : ∃ (L : Nat) (ys : List Int) (C A : Int), L ≤ 1000 ∧
    (∀ a c b d w, Has .u8 w a len zs → Has .i64 w b m ws → Calls Try.prog 14 #[.slice a len c, .int .i64 t, .slice b m d] w fun e w' => ∃ g c', e = .returned (.tuple #[.slice g L c', .agg #[.int .i64 C, .int .i64 A]]) ∧ Has .u64 w' g L ys ∧ Below w.heap.size w w') ∧
    (∀ a c b d w, Has .u8 w a len zs → Has .i64 w b m ws → Calls Try.prog 15 #[.slice a len c, .int .i64 t, .slice b m d] w fun e w' => ∃ g c', e = .returned (.tuple #[.slice g L c', .agg #[.int .i64 C, .int .i64 A]]) ∧ Has .u64 w' g L ys ∧ Below w.heap.size w w') := by
  rcases first_of (fun j => codeOf len (t + (Mth.off ws j : Int)) (ws.getD j 0) = 0) m with hg | ⟨i, hi, hb, hg⟩
  · refine ⟨m, Mth.parts zs t ws m, 0, 0, hm, fun a c b d w hz hw => ?_, fun a c b d w hz hw => ?_⟩
    · exact part_good a b len c m d t zs ws w hl hm hz hw hg
    · exact rpart_good a b len c m d t zs ws w hl hm hz hw hg
  · refine ⟨0, [], codeOf len (t + (Mth.off ws i : Int)) (ws.getD i 0), i, Nat.zero_le _, fun a c b d w hz hw => ?_, fun a c b d w hz hw => ?_⟩
    · exact (part_bad a b len c m d i t zs ws w hl hm hz hw hi hg hb).mono fun e w' ⟨he, h2⟩ => ⟨none, 0, he, has_nil _ _, h2⟩
    · exact (rpart_bad a b len c m d i t zs ws w hl hm hz hw hi hg hb).mono fun e w' ⟨he, h2⟩ => ⟨none, 0, he, has_nil _ _, h2⟩

/-- bytes put behind nothing: a row of the call's own -/
theorem copy_law {w : World} {ops : Array Oper} {rest : List Oper} {o : Oper} {a : Act} {Q : Exit → Act → World → Prop} (hgd : o.guard = none) (s x : Operand)
    (ho : o.op = .call { callee := .builtin .append, args := #[s, x], argTypes := #[22, 22] }) (hs : a.eval s = .slice none 0 0) (ad : Option Addr) (m c : Nat) (zs : List Int) (hx : a.eval x = .slice ad m c)
    (hn : ad = none → m = 0 ∧ c = 0) (hz : Has .u8 w ad m zs) (hsmall : m ≤ 10000000)
    (h : ∀ v' w', w'.ownsRow w.heap.size 5 1 v' m (BB zs) → Below w.heap.size w w' → wpList Try.prog ops Q rest (a.put o.dst v') w') : wpList Try.prog ops Q (o :: rest) a w := by
  obtain ⟨i0, hi, hz0, hz1, hz2⟩ := info_parts Try.info5
  cases ad with
  | none =>
    obtain ⟨rfl, rfl⟩ := hn rfl
    have e : zs = [] := List.eq_nil_of_length_eq_zero hz.1
    subst e
    exact wpList_append_own_none hgd s x 22 ho w.heap.size 5 i0 1 Try.underlying22 hi (.slice none 0 0) 0 [] hs (World.ownsRow_nil _ _ _ _) hx (h _ _ (World.ownsRow_nil _ _ _ _) (Below.refl _ _))
  | some ad =>
    refine wpList_append_own w hgd s x 22 ho w.heap.size 5 i0 (.int .u8 0) 1 1 Try.underlying22 hi hz0 hz1 hz2 rfl (by decide) (.slice none 0 0) 0 [] hs (World.ownsRow_nil _ _ _ _) ad m c (BB zs) hx (by have := hz.1; simp [BB]; omega) (has_cells hz) (bb_one zs) (by unfold maxLen; omega) (by omega) (Nat.le_refl _) ?_
    intro v' w' h1 h2 _
    rw [Nat.zero_add, List.nil_append] at h1
    exact h v' w' h1 ((Below.refl _ _).grown h2 (Nat.le_refl _) (by intro k hk; simp [Value.ownBlock] at hk))

theorem fault2 {w w' : World} {x y : Value} (hb : Below (w.alloc (.cells #[x, y] 28)).heap.size (w.alloc (.cells #[x, y] 28)) w') : w'.cell? ⟨w.heap.size, 0, none⟩ = some x ∧ w'.cell? ⟨w.heap.size, 1, none⟩ = some y ∧ w.heap.size < w'.heap.size := by
  refine ⟨(hb.cell (p := ⟨w.heap.size, 0, none⟩) (by simp)).trans (by simp), (hb.cell (p := ⟨w.heap.size, 1, none⟩) (by simp)).trans (by simp), ?_⟩
  have := hb.size
  simp at this
  omega

/-- two cells that lie in a world lie in a later one -/
theorem later2 {w w' : World} {o : Obj} {B : Nat} {x y : Value} (h : w.cell? ⟨B, 0, none⟩ = some x ∧ w.cell? ⟨B, 1, none⟩ = some y ∧ B < w.heap.size) (hb : Below (w.alloc o).heap.size (w.alloc o) w') :
    w'.cell? ⟨B, 0, none⟩ = some x ∧ w'.cell? ⟨B, 1, none⟩ = some y ∧ B < w'.heap.size := by
  have hs : w.heap.size < w'.heap.size := by have := hb.size; simp at this; omega
  have h0 : w'.cell? ⟨B, 0, none⟩ = w.cell? ⟨B, 0, none⟩ := (hb.cell (p := ⟨B, 0, none⟩) (by simp; omega)).trans ((bl_alloc (Below.refl w.heap.size w)).cell (p := ⟨B, 0, none⟩) h.2.2)
  have h1 : w'.cell? ⟨B, 1, none⟩ = w.cell? ⟨B, 1, none⟩ := (hb.cell (p := ⟨B, 1, none⟩) (by simp; omega)).trans ((bl_alloc (Below.refl w.heap.size w)).cell (p := ⟨B, 1, none⟩) h.2.2)
  exact ⟨h0.trans h.1, h1.trans h.2.1, by omega⟩

end Go.Proofs.Ytllnedikfikgiaa
