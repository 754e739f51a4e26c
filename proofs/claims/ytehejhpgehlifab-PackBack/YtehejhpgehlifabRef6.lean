/- What the document's Put does. -/
import Derived.Test.YtehejhpgehlifabRef5
import Derived.Deep.RegionLaw
namespace Go.Proofs.Ytehejhpgehlifab
open Go.RowKit

theorem has_piece {w : World} {g n : Nat} {zs : List Int} (h : Has .u8 w (some ⟨g, 0, none⟩) n zs) (ad : Addr) (t k : Nat) (hk : t + k ≤ n) (had : 0 < k → ad = ⟨g, t, none⟩) : Has .u8 w (some ad) k ((zs.drop t).take k) := by
  by_cases h0 : 0 < k
  · rw [had h0]; exact has_cut h t k hk h0
  · have e : k = 0 := by omega
    subst e
    exact ⟨by simp, by simp, .inl (by simp)⟩

/-- one append of a region: bytes behind a row of the call's own -/
theorem step8 {ops : Array Oper} {o : Oper} {a : Act} {w : World} {K : Act → World → Prop} {Q : Exit → Act → World → Prop} {E : Prop} (hgd : o.guard = none) (s x : Operand)
    (ho : o.op = .call { callee := .builtin .append, args := #[s, x], argTypes := #[22, 22] }) (base n m c : Nat) (v : Value) (ys zs : List Int) (ad : Addr)
    (hs : a.eval s = v) (hx : a.eval x = .slice (some ad) m c) (hown : w.ownsRow base 5 1 v n (BB ys)) (hz : Has .u8 w (some ad) m zs) (hsmall : n + m ≤ 10000000) (hbase : base ≤ w.heap.size)
    (h : ∀ v' w', w'.ownsRow base 5 1 v' (n + m) (BB (ys ++ zs)) → Below base w w' → K (a.put o.dst v') w') :
    if Region.wanted o (yielded ops a.tmps) = true then Oper.wp Try.prog o a w K Q else E := by
  have hw : Region.wanted o (yielded ops a.tmps) = true := by simp [Region.wanted, hgd]
  rw [if_pos hw]
  obtain ⟨i0, hi, hz0, hz1, hz2⟩ := info_parts Try.info5
  refine wp_append_own w s x 22 ho base 5 i0 (.int .u8 0) 1 1 Try.underlying22 hi hz0 hz1 hz2 rfl (by decide) v n (BB ys) hs hown ad m c (BB zs) hx (by have := hz.1; simp [BB]; omega) (has_cells hz) (bb_one zs) (by unfold maxLen; omega) (by omega) hbase ?_
  intro v' w' h1 h2 _
  refine h v' w' (by simpa [BB] using h1) ((Below.refl _ _).grown h2 hbase ?_)
  intro k hk
  exact (hown.lt k hk).1

theorem bits_bytes {l : List Int} (h : Mth.IsBits l) : Mth.Bytes l := by
  intro i
  have := h i
  omega

theorem nb_bytes (v n k : Nat) : Mth.Bytes (Mth.nb v n k) := by
  intro i
  have := Mth.nb_bits v n k i
  omega

end Go.Proofs.Ytehejhpgehlifab
