/- What package bits and the document's own answer tell is the same. -/
import Derived.Test.YtehejhpgehlifabPart3
import Derived.Test.YtehejhpgehlifabSame
import Derived.Laws.AppendOwnNone
namespace Go.Proofs.Ytehejhpgehlifab
open Go.RowKit

theorem get_both (len : Nat) (zs : List Int) (t n : Int) (hl : len ≤ 100000) : ∃ x C A : Int,
    (∀ a cap w, Has .u8 w a len zs → Calls Try.prog 37 #[.slice a len cap, .int .i64 t, .int .i64 n] w fun e w' => e = .returned (.tuple #[.int .u64 x, .agg #[.int .i64 C, .int .i64 A]]) ∧ Below w.heap.size w w') ∧
    (∀ a cap w, Has .u8 w a len zs → Calls Try.prog 38 #[.slice a len cap, .int .i64 t, .int .i64 n] w fun e w' => e = .returned (.tuple #[.int .u64 x, .agg #[.int .i64 C, .int .i64 A]]) ∧ Below w.heap.size w w') :=
  ⟨_, _, _, fun a cap w hz => get_two a len cap t n zs w hl hz, fun a cap w hz => rget_any a len cap t n zs w hl hz⟩

theorem join_both (n m : Nat) (ls ws : List Int) (hm : m ≤ 1000) : ∃ (L : Nat) (ys : List Int) (C A : Int),
    (∀ a c b d w, Has .u64 w a n ls → Has .i64 w b m ws → Calls Try.prog 32 #[.slice a n c, .slice b m d] w fun e w' => ∃ g c', e = .returned (.tuple #[.slice g L c', .agg #[.int .i64 C, .int .i64 A]]) ∧ Has .u8 w' g L ys ∧ Below w.heap.size w w') ∧
    (∀ a c b d w, Has .u64 w a n ls → Has .i64 w b m ws → Calls Try.prog 34 #[.slice a n c, .slice b m d] w fun e w' => ∃ g c', e = .returned (.tuple #[.slice g L c', .agg #[.int .i64 C, .int .i64 A]]) ∧ Has .u8 w' g L ys ∧ Below w.heap.size w w') := by
  by_cases he : n = m
  · subst he
    rcases first_of (Mth.Wide ws) n with hg | ⟨i, hi, hb, hg⟩
    · refine ⟨(Mth.off ws n + 7) / 8, Mth.jn ls ws ((Mth.off ws n + 7) / 8) n, 0, 0, fun a c b d w hv hw => ?_, fun a c b d w hv hw => ?_⟩
      · exact (join_good a b n c d ls ws w hm hv hw hg).mono fun e w' ⟨g, c', he, h1, h2⟩ => ⟨_, c', he, h1, h2⟩
      · exact rjoin_good a b n c d ls ws w hm hv hw hg
    · refine ⟨0, [], 6, i, fun a c b d w hv hw => ?_, fun a c b d w hv hw => ?_⟩
      · exact (join_width a b n c d i ws w hm hw hi hg hb).mono fun e w' ⟨he, h2⟩ => ⟨none, 0, he, has_nil _ _, h2⟩
      · exact (rjoin_width a b n c d i ls ws w hm hv hw hi hg hb).mono fun e w' ⟨he, h2⟩ => ⟨none, 0, he, has_nil _ _, h2⟩
  · refine ⟨0, [], 2, -1, fun a c b d w hv hw => ?_, fun a c b d w hv hw => ?_⟩
    · exact (join_many a b n c m d w he).mono fun e w' ⟨he, h2⟩ => ⟨none, 0, he, has_nil _ _, h2⟩
    · exact (rjoin_many a b n c m d w he).mono fun e w' ⟨he, h2⟩ => ⟨none, 0, he, has_nil _ _, h2⟩

theorem part_both (len m : Nat) (t : Int) (zs ws : List Int) (hl : len ≤ 100000) (hm : m ≤ 1000) : ∃ (L : Nat) (ys : List Int) (C A : Int), L ≤ 1000 ∧
    (∀ a c b d w, Has .u8 w a len zs → Has .i64 w b m ws → Calls Try.prog 29 #[.slice a len c, .int .i64 t, .slice b m d] w fun e w' => ∃ g c', e = .returned (.tuple #[.slice g L c', .agg #[.int .i64 C, .int .i64 A]]) ∧ Has .u64 w' g L ys ∧ Below w.heap.size w w') ∧
    (∀ a c b d w, Has .u8 w a len zs → Has .i64 w b m ws → Calls Try.prog 30 #[.slice a len c, .int .i64 t, .slice b m d] w fun e w' => ∃ g c', e = .returned (.tuple #[.slice g L c', .agg #[.int .i64 C, .int .i64 A]]) ∧ Has .u64 w' g L ys ∧ Below w.heap.size w w') := by
  rcases first_of (fun j => codeOf len (t + (Mth.off ws j : Int)) (ws.getD j 0) = 0) m with hg | ⟨i, hi, hb, hg⟩
  · refine ⟨m, Mth.parts zs t ws m, 0, 0, hm, fun a c b d w hz hw => ?_, fun a c b d w hz hw => ?_⟩
    · exact part_good a b len c m d t zs ws w hl hm hz hw hg
    · exact rpart_good a b len c m d t zs ws w hl hm hz hw hg
  · refine ⟨0, [], codeOf len (t + (Mth.off ws i : Int)) (ws.getD i 0), i, Nat.zero_le _, fun a c b d w hz hw => ?_, fun a c b d w hz hw => ?_⟩
    · exact (part_bad a b len c m d i t zs ws w hl hm hz hw hi hg hb).mono fun e w' ⟨he, h2⟩ => ⟨none, 0, he, has_nil _ _, h2⟩
    · exact (rpart_bad a b len c m d i t zs ws w hl hm hz hw hi hg hb).mono fun e w' ⟨he, h2⟩ => ⟨none, 0, he, has_nil _ _, h2⟩

theorem fault2 {w w' : World} {x y : Value} (hb : Below (w.alloc (.cells #[x, y] 36)).heap.size (w.alloc (.cells #[x, y] 36)) w') : w'.cell? ⟨w.heap.size, 0, none⟩ = some x ∧ w'.cell? ⟨w.heap.size, 1, none⟩ = some y ∧ w.heap.size < w'.heap.size := by
  refine ⟨(hb.cell (p := ⟨w.heap.size, 0, none⟩) (by simp)).trans (by simp), (hb.cell (p := ⟨w.heap.size, 1, none⟩) (by simp)).trans (by simp), ?_⟩
  have := hb.size
  simp at this
  omega

/-- two cells that lie in a world lie in a later one -/
theorem later2 {w w' : World} {o : Obj} {B : Nat} {x y : Value} (h : w.cell? ⟨B, 0, none⟩ = some x ∧ w.cell? ⟨B, 1, none⟩ = some y ∧ B < w.heap.size) (hb : Below (w.alloc o).heap.size (w.alloc o) w') :
    w'.cell? ⟨B, 0, none⟩ = some x ∧ w'.cell? ⟨B, 1, none⟩ = some y ∧ B < w'.heap.size := by
  have hs : w.heap.size < w'.heap.size := by have := hb.size; simp at this; omega
  have h0 : w'.cell? ⟨B, 0, none⟩ = w.cell? ⟨B, 0, none⟩ := (hb.cell (p := ⟨B, 0, none⟩) (by simp; omega)).trans ((bl_alloc (Below.refl w.heap.size w)).cell (p := ⟨B, 0, none⟩) h.2.2)
  have h1 : w'.cell? ⟨B, 1, none⟩ = w.cell? ⟨B, 1, none⟩ := (hb.cell (p := ⟨B, 1, none⟩) (by simp; omega)).trans ((bl_alloc (Below.refl w.heap.size w)).cell (p := ⟨B, 1, none⟩) h.2.2)
  exact ⟨h0.trans h.1, h1.trans h.2.1, by omega⟩

end Go.Proofs.Ytehejhpgehlifab
