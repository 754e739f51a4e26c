/- What the document's Put does. -/
import Derived.Test.YtllnedikfikgiaaRef5
import Derived.Deep.RegionLaw
namespace Go.Proofs.Ytllnedikfikgiaa
open Go.RowKit

set_option maxHeartbeats 1000000 in
theorem rput_no (a : Option Addr) (len cap : Nat) (t n v : Int) (w : World) (hl : len ≤ 100000) (hcode : codeOf len t n ≠ 0) :
    Calls Try.prog 11 #[.slice a len cap, .int .i64 t, .int .i64 n, .int .u64 v] w fun e w' => e = .returned (.tuple #[.slice none 0 0, .agg #[.int .i64 (codeOf len t n), .int .i64 (-1)]]) ∧ Below w.heap.size w w' := by
  have hc : (codeOf len t n != 0) = true := by simpa using hcode
  have ha : atOf (codeOf len t n) = -1 := by unfold atOf; rw [if_neg hcode]
  clear hcode
  go_enter Try.func11, Try.ntmps11
  go_wp2_with fail
  refine (bitsFault_any _ _ _ _ _ _ hl).mono ?_
  rintro e w1 ⟨rfl, hb1⟩
  have hb1' : Below (w.heap.size + 1) (w.alloc F0) w1 := by simpa using hb1
  obtain ⟨c0, c1, f0, f1, hsz⟩ := fault_cells hb1'
  go_wp2
  go_region
  go_wp2
  exact bodyPost_ret (v := .tuple #[.slice none 0 0, .agg #[.int .i64 (codeOf len t n), .int .i64 (-1)]]) (by simp [results, Try.results11, go_sem, c0, c1, hsz]) rfl ⟨rfl, (bl_alloc (end_fault hb1' _ _)).drew⟩

theorem has_cells {w : World} {ad : Addr} {m : Nat} {zs : List Int} (h : Has .u8 w (some ad) m zs) : ∀ (j : Nat) (u : Value), (BB zs)[j]? = some u → w.cell? (ad.add j) = some u := by
  intro j u hj
  have hj' : j < zs.length := by
    have := (List.getElem?_eq_some_iff.1 hj).1
    simpa [BB] using this
  have hl := h.1
  obtain ⟨b, off, e, _, hc⟩ := h.some (by omega)
  simp only [Option.some.injEq] at e
  subst e
  rw [Addr.add_lit, hc j (by omega)]
  simp only [BB, List.getElem?_map, List.getElem?_eq_getElem hj', Option.map_some, Option.some.injEq] at hj
  simp only [List.getD_eq_getElem?_getD, List.getElem?_eq_getElem hj', Option.getD_some, hj]

theorem has_piece {w : World} {g n : Nat} {zs : List Int} (h : Has .u8 w (some ⟨g, 0, none⟩) n zs) (ad : Addr) (t k : Nat) (hk : t + k ≤ n) (had : 0 < k → ad = ⟨g, t, none⟩) : Has .u8 w (some ad) k ((zs.drop t).take k) := by
  by_cases h0 : 0 < k
  · rw [had h0]; exact has_cut h t k hk h0
  · have e : k = 0 := by omega
    subst e
    exact ⟨by simp, by simp, .inl (by simp)⟩

/-- one append of a region: bytes behind a row of the call's own -/
theorem step8 {ops : Array Oper} {o : Oper} {a : Act} {w : World} {K : Act → World → Prop} {Q : Exit → Act → World → Prop} {E : Prop} (hgd : o.guard = none) (s x : Operand)
    (ho : o.op = .call { callee := .builtin .append, args := #[s, x], argTypes := #[22, 22] }) (base n m c : Nat) (v : Value) (ys zs : List Int) (ad : Addr)
    (hs : a.eval s = v) (hx : a.eval x = .slice (some ad) m c) (hown : w.ownsRow base 5 1 v n (BB ys)) (hz : Has .u8 w (some ad) m zs) (hsmall : n + m ≤ 10000000) (hbase : base ≤ w.heap.size)
    (h : ∀ v' w', w'.ownsRow base 5 1 v' (n + m) (BB (ys ++ zs)) → Below base w w' → K (a.put o.dst v') w') :
    if Region.wanted o (yielded ops a.tmps) = true then Oper.wp Try.prog o a w K Q else E := by
  have hw : Region.wanted o (yielded ops a.tmps) = true := by simp [Region.wanted, hgd]
  rw [if_pos hw]
  obtain ⟨i0, hi, hz0, hz1, hz2⟩ := info_parts Try.info5
  refine wp_append_own w s x 22 ho base 5 i0 (.int .u8 0) 1 1 Try.underlying22 hi hz0 hz1 hz2 rfl (by decide) v n (BB ys) hs hown ad m c (BB zs) hx (by have := hz.1; simp [BB]; omega) (has_cells hz) (bb_one zs) (by unfold maxLen; omega) (by omega) hbase ?_
  intro v' w' h1 h2 _
  refine h v' w' (by simpa [BB] using h1) ((Below.refl _ _).grown h2 hbase ?_)
  intro k hk
  exact (hown.lt k hk).1

theorem bits_bytes {l : List Int} (h : Mth.IsBits l) : Mth.Bytes l := by
  intro i
  have := h i
  omega

theorem nb_bytes (v n k : Nat) : Mth.Bytes (Mth.nb v n k) := by
  intro i
  have := Mth.nb_bits v n k i
  omega

set_option maxHeartbeats 1000000 in
theorem rput_yes (a : Option Addr) (len cap t n v : Nat) (zs : List Int) (w : World) (hl : len ≤ 100000) (hv : v < 18446744073709551616) (hz : Has .u8 w a len zs) (hcode : codeOf len t n = 0) :
    Calls Try.prog 11 #[.slice a len cap, .int .i64 t, .int .i64 n, .int .u64 v] w fun e w' => ∃ g cap', e = .returned (.tuple #[.slice (some ⟨g, 0, none⟩) len cap', .agg #[.int .i64 0, .int .i64 0]]) ∧
      Has .u8 w' (some ⟨g, 0, none⟩) len (Mth.wr zs t n v n) ∧ Below w.heap.size w w' := by
  have hk := code_ok hcode
  have hc : (codeOf len t n != 0) = false := by simpa using hcode
  have ha : atOf (codeOf len t n) = 0 := by unfold atOf; rw [if_pos hcode]
  clear hcode
  have hbw : Hid (Mth.Bytes (Mth.wr zs t n v n)) := Mth.wr_bytes _ _ _ _ _ hz.bytes
  go_enter Try.func11, Try.ntmps11
  go_wp2_with fail
  refine (bitsFault_any _ _ _ _ _ _ hl).mono ?_
  rintro e w1 ⟨rfl, hb1⟩
  have hb1' : Below w.heap.size w (w1.alloc (.cells #[.int .i64 (codeOf len t n), .int .i64 0] 28)) := bl_alloc (bl_step (bl_alloc (Below.refl _ _)) hb1)
  have hb1s : w.heap.size + 1 ≤ w1.heap.size := by have := hb1.size; simpa using this
  go_wp2_with fail
  refine (bitsOf_any _ _ _ zs _ hl (hz.step hb1')).mono ?_
  rintro e w2 ⟨x, rfl, hown2, hb2⟩
  obtain ⟨g, cp, rfl, hcp, hcm⟩ := owns_head hown2 (by omega)
  unfold maxLen at hcm
  have hz2 := has_of_owns hown2 (bo_bytes _ _)
  have e1 : t ≤ 8 * len := by omega
  have e2 : t + n ≤ 8 * len := by omega
  have hw1 : IntKind.i64.wrap ((t : Int) + (n : Int)) = (t : Int) + (n : Int) := wrap_small _ (by omega) (by omega)
  have e3 : t ≤ cp := by omega
  have e4 : t + n ≤ cp := by omega
  have e5 : ((t : Int) + (n : Int)).toNat = t + n := by omega
  have e6 : 0 ≤ (t : Int) + (n : Int) := by omega
  have e7 : (t : Int) + (n : Int) ≤ 8 * (len : Int) := by omega
  go_wp2_with fail
  have hz2d : Has .u8 w2.drew (some ⟨g, 0, none⟩) (8 * len) (Mth.bo zs (8 * len)) := hz2
  have p1 := has_piece hz2d ⟨g, 0, none⟩ 0 t (by omega) (fun _ => rfl)
  obtain ⟨AD, hAD, hAD0⟩ : ∃ AD : Addr, (if cp = t + n then some (⟨g, 0, none⟩ : Addr) else some ⟨g, t + n, none⟩) = some AD ∧ (0 < 8 * len - (t + n) → AD = ⟨g, t + n, none⟩) := by
    by_cases h : cp = t + n
    · exact ⟨⟨g, 0, none⟩, by rw [if_pos h], fun h0 => by omega⟩
    · exact ⟨⟨g, t + n, none⟩, by rw [if_neg h], fun _ => rfl⟩
  go_region_law (first
    | (refine step8 (w := w2.drew) rfl (.tmp 23) (.tmp 26) rfl w2.heap.size 0 t cp (.slice none 0 0) [] _ ⟨g, 0, none⟩ (by simp [Act.eval, Act.put]) (by simp [Act.eval, Act.put]) (World.ownsRow_nil _ _ _ _) p1 (by omega) (Nat.le_refl _) ?_; intro v1 w3 hown3 hb3; simp only [Nat.zero_add, List.nil_append] at hown3)
    | (refine step8 rfl (.tmp 27) (.tmp 30) rfl w2.heap.size t n cp4 v1 _ _ ⟨g4, 0, none⟩ (by simp [Act.eval]) (by simp [Act.eval]) hown3' hz4 (by omega) hb4'.size ?_; intro v5 w5 hown5 hb5; have hb5' := hb4'.trans hb5; have hz5 := has_piece (hz2d.below hb5' (Nat.le_refl _)) AD (t + n) (8 * len - (t + n)) (by omega) hAD0)
    | (refine step8 rfl (.tmp 31) (.tmp 36) rfl w2.heap.size (t + n) (8 * len - (t + n)) (cp - (t + n)) v5 _ _ AD (by simp [Act.eval]) (by simp [Act.eval]) hown5 hz5 (by omega) hb5'.size ?_; intro v6 w6 hown6 hb6; have hb6' := hb5'.trans hb6)
    | (go_simp; go_at_call 27; refine (numBits_any v n _ (by omega) hv).mono ?_; rintro e w4 ⟨x4, rfl, hown4, hb4⟩; obtain ⟨g4, cp4, rfl, _, _⟩ := owns_head hown4 (by omega); have hown3' := owns_below hown3 hb4; have hb4' := hb3.trans (hb4.mono hb3.size); have hz4 := has_of_owns hown4 (nb_bytes v n n)))
  obtain ⟨g6, cp6, rfl, hcp6, _⟩ := owns_head hown6 (by omega)
  have hlen := hz.1
  have epl : List.take t (List.drop 0 (Mth.bo zs (8 * len))) ++ Mth.nb v n n ++ List.take (8 * len - (t + n)) (List.drop (t + n) (Mth.bo zs (8 * len))) = Mth.pl zs t n v := by
    unfold Mth.pl
    rw [hlen, List.drop_zero, List.take_of_length_le (l := List.drop (t + n) (Mth.bo zs (8 * len))) (by rw [List.length_drop, Mth.bo_length]; omega)]
  rw [epl, show t + n + (8 * len - (t + n)) = 8 * len from by omega] at hown6
  have hpb := Mth.pl_bits zs t n v (by omega)
  have hz6 := has_of_owns hown6 (bits_bytes hpb)
  have hput : Hid (Mth.by8 (Mth.pl zs t n v) len = Mth.wr zs t n v n) := by rw [← hlen]; exact Mth.put_same zs t n v hz.bytes (by omega)
  have hs8 : Hid ((8 * len + 7) / 8 = len) := (by omega : (8 * len + 7) / 8 = len)
  rw [show t + n + (8 * len - (t + n)) = 8 * len from by omega]
  have hB : Below (w.heap.size + 1) (w.alloc F0) w6 := by
    have h1 : Below (w.heap.size + 1) (w.alloc F0) w1 := by simpa using hb1
    have h2 := (h1.alloc hb1s (.cells #[.int .i64 (codeOf len t n), .int .i64 0] 28)).trans (hb2.mono (by simp; omega))
    have h3 : w.heap.size + 1 ≤ w2.heap.size := by have := h2.size; simpa using this
    exact h2.drew.trans (hb6'.mono h3)
  clear hown2 hz2 hb2 hb1 hz hown3 hown3' hown4 hown5 hown6 hz4 hz5 hz2d p1 hb3 hb4 hb4' hb5 hb5' hb6 hb6' hAD hAD0 epl hlen
  go_wp2_with fail
  refine (bytesOf_any _ _ _ _ _ (by omega) hz6 hpb).mono ?_
  rintro e w7 ⟨x7, rfl, hown7, hb7⟩
  rw [hs8.out, hput.out] at hown7
  obtain ⟨g7, cp7, rfl, hcp7, _⟩ := owns_head hown7 (by omega)
  have hs6 : w.heap.size + 1 ≤ w6.heap.size := by have := hB.size; simpa using this
  have hB7 := hB.trans (hb7.mono hs6)
  obtain ⟨c0, c1, f0, f1, hsz⟩ := fault_cells hB7
  have HO : Hid (w7.ownsRow w6.heap.size 5 1 (.slice (some ⟨g7, 0, none⟩) len cp7) len (BB (Mth.wr zs t n v n))) := hown7
  clear hown7 hz6
  go_wp2
  have h2 := ownsRow_setCell_below (ownsRow_setCell_below HO.out (a := ⟨w.heap.size, 0, none⟩) (by exact hs6) (.int .i64 0)) (a := ⟨w.heap.size, 1, none⟩) (by exact hs6) (.int .i64 0)
  exact bodyPost_ret (v := .tuple #[.slice (some ⟨g7, 0, none⟩) len cp7, .agg #[.int .i64 0, .int .i64 0]]) (by simp [results, Try.results11, go_sem, c0, c1]) rfl
    ⟨g7, cp7, rfl, has_of_owns h2 (hbw.out), end_fault hB7 _ _⟩
end Go.Proofs.Ytllnedikfikgiaa
