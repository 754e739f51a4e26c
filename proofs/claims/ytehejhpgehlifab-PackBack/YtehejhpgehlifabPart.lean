/- What bits.Part does. -/
import Derived.Test.YtehejhpgehlifabJoin
namespace Go.Proofs.Ytehejhpgehlifab
open Go.RowKit

def UU (zs : List Int) : List Value := zs.map (Value.int .u64)

theorem Try.info50 : (Try.prog.info? 50).map (fun i => (i.zero, i.size, i.bytes)) = some (some (.int .u64 0), 1, 8) := by kernel_rfl

theorem wf_u64 (n : Int) (h : 0 ≤ n ∧ n < 18446744073709551616) : (Lit.int .u64 n).wf = true := by
  simp [Lit.wf, IntKind.min, IntKind.max, IntKind.bits, IntKind.signed]
  omega

/-- what is owned lies as Has says -/
theorem has_of_owns64 {w : World} {base len : Nat} {v : Value} {zs : List Int} (h : w.ownsRow base 50 1 v len (UU zs)) (hb : ∀ n ∈ zs, 0 ≤ n ∧ n < 18446744073709551616) : ∃ a cap, v = .slice a len cap ∧ Has .u64 w a len zs := by
  have hl : zs.length = len := by simpa [UU] using h.1
  rcases h.2 with ⟨rfl, rfl⟩ | ⟨g, cap, cur, rfl, _⟩
  · exact ⟨none, 0, rfl, hl, fun n hn => wf_u64 n (hb n hn), .inl (List.eq_nil_of_length_eq_zero hl)⟩
  · refine ⟨some ⟨g, 0, none⟩, cap, rfl, hl, fun n hn => wf_u64 n (hb n hn), .inr ⟨g, 0, rfl, (h.lt g rfl).2, fun i hi => ?_⟩⟩
    rw [Nat.zero_add, h.cellAt i (by omega)]
    simp only [UU, List.getElem?_map, List.getD_eq_getElem?_getD]
    rw [List.getElem?_eq_getElem (by omega)]; rfl

theorem one_cell64 (w : World) (y : Value) : ∀ (j : Nat) (u : Value), [y][j]? = some u → ((w.alloc F0).alloc (.cells #[y] 50)).cell? ((⟨w.heap.size + 1, 0, none⟩ : Addr).add j) = some u := by
  intro j u hj
  match j, hj with
  | 0, hj => simp at hj; subst hj; simp [Addr.add]

theorem rd_num (zs : List Int) (t n : Nat) (h : n ≤ 64) : 0 ≤ (Mth.rd zs t n : Int) ∧ (Mth.rd zs t n : Int) < 18446744073709551616 := by
  have h1 := Mth.rd_lt zs t n
  have h2 : 2 ^ n ≤ 2 ^ 64 := Nat.pow_le_pow_right (by decide) h
  omega

theorem parts_num {len : Nat} (zs : List Int) (t : Int) (ws : List Int) (k : Nat) (h : ∀ j, j < k → codeOf len (t + (Mth.off ws j : Int)) (ws.getD j 0) = 0) : ∀ n ∈ Mth.parts zs t ws k, 0 ≤ n ∧ n < 18446744073709551616 := by
  intro n hn
  simp only [Mth.parts, List.mem_map, List.mem_range] at hn
  obtain ⟨j, hj, rfl⟩ := hn
  have := code_ok (h j hj)
  exact rd_num _ _ _ (by omega)

theorem get_two (a : Option Addr) (len cap : Nat) (t n : Int) (zs : List Int) (w : World) (hl : len ≤ 100000) (hz : Has .u8 w a len zs) :
    Calls Try.prog 37 #[.slice a len cap, .int .i64 t, .int .i64 n] w fun e w' => e = .returned (.tuple #[.int .u64 (if codeOf len t n = 0 then (Mth.rd zs t.toNat n.toNat : Int) else 0), .agg #[.int .i64 (codeOf len t n), .int .i64 (if codeOf len t n = 0 then 0 else -1)]]) ∧ Below w.heap.size w w' := by
  by_cases h : codeOf len t n = 0
  · rw [if_pos h, if_pos h, h]
    exact get_int a len cap t n zs w hl hz h
  · rw [if_neg h, if_neg h]
    exact get_no a len cap t n w hl h

set_option maxHeartbeats 2000000 in
theorem part_good (a b : Option Addr) (len c m d : Nat) (t : Int) (zs ws : List Int) (w : World) (hl : len ≤ 100000) (hm : m ≤ 1000) (hz : Has .u8 w a len zs) (hw : Has .i64 w b m ws)
    (hgood : ∀ j, j < m → codeOf len (t + (Mth.off ws j : Int)) (ws.getD j 0) = 0) :
    Calls Try.prog 29 #[.slice a len c, .int .i64 t, .slice b m d] w fun e w' => ∃ g cap', e = .returned (.tuple #[.slice g m cap', .agg #[.int .i64 0, .int .i64 0]]) ∧
      Has .u64 w' g m (Mth.parts zs t ws m) ∧ Below w.heap.size w w' := by
  have HG : Hid (∀ j, j < m → codeOf len (t + (Mth.off ws j : Int)) (ws.getD j 0) = 0) := hgood
  obtain ⟨i0, hi, hz0, hz1, hz2⟩ := info_parts Try.info50
  clear hgood
  go_enter Try.func29, Try.ntmps29
  go_wp2
  go_loopw [1, 8, 15] (fun s v q wr => ∃ k : Nat, k ≤ m ∧ q = .int .i64 k ∧ s = .int .i64 (t + (Mth.off ws k : Int)) ∧ wr.ownsRow (w.heap.size + 1) 50 1 v k (UU (Mth.parts zs t ws k)) ∧ Below (w.heap.size + 1) (w.alloc F0) wr) (fun _ _ q _ => m - (intOf q).toNat)
  case atStart => exact ⟨0, Nat.zero_le _, rfl, by simp [Mth.off], World.ownsRow_nil _ _ _ _, Below.refl _ _⟩
  case round =>
    obtain ⟨k, hk, rfl, rfl, hown, hbk⟩ := hrel
    by_cases hlt : k < m
    · obtain ⟨p, o, rfl, hpl, hcell⟩ := hw.some (by omega)
      have hcx : wr.cell? ⟨p, o + k, none⟩ = some (.int .i64 (ws.getD k 0)) := (hbk.cell (p := ⟨p, o + k, none⟩) (Nat.lt_succ_of_lt hpl)).trans (((bl_alloc (Below.refl w.heap.size w)).cell (p := ⟨p, o + k, none⟩) hpl).trans (hcell k hlt))
      clear hcell
      have hz' : Has .u8 wr a len zs := hz.alloc.below hbk (by simp)
      have hg := HG.out k hlt
      have hcd := code_ok hg
      have hoff : Hid (Mth.off ws (k + 1) = Mth.off ws k + (ws.getD k 0).toNat) := rfl
      have hpt : Hid (Mth.parts zs t ws (k + 1) = Mth.parts zs t ws k ++ [(Mth.rd zs (t + (Mth.off ws k : Int)).toNat (ws.getD k 0).toNat : Int)]) := Mth.parts_succ zs t ws k
      simp only [List.getD_eq_getElem?_getD] at hg hcx hoff hcd hpt
      generalize ws[k]?.getD 0 = x at *
      have HC : Hid (codeOf len (t + (Mth.off ws k : Int)) x = 0) := hg
      clear hg
      go_wp2_with fail
      refine (get_int _ _ _ _ _ _ _ hl hz' HC.out).mono ?_
      rintro e w1 ⟨rfl, hb1⟩
      have hown1 := owns_below hown hb1
      have hb1' := hbk.trans (hb1.mono (by have := hbk.size; simpa using this))
      clear hown hbk hcx hz'
      generalize Mth.rd zs (t + (Mth.off ws k : Int)).toNat x.toNat = y at *
      generalize Mth.parts zs t ws k = ps at *
      go_wp2_with (at_builtin; refine wpList_append_own _ rfl _ _ 32 rfl (w.heap.size + 1) 50 i0 (.int .u64 0) 1 8 Try.underlying32 hi hz0 hz1 hz2 rfl (by decide) _ k (UU ps) rfl ?c0 ⟨w1.heap.size + 1, 0, none⟩ 1 1 [.int .u64 y] rfl rfl ?c1 ?c2 ?c3 ?c4 ?c5 ?_)
      case c0 => exact (hown1.alloc _).alloc _
      case c1 => exact one_cell64 _ _
      case c2 => intro u hu; simp at hu; subst hu; rfl
      case c3 => unfold maxLen; omega
      case c4 => omega
      case c5 => have := hb1'.size; simp at this; simp; omega
      intro v' w2 hown2 hgr2 hne2
      have hb2 := ((hb1'.alloc (by have := hb1'.size; simpa using this) F0).alloc (by have := hb1'.size; simp at this; simp; omega) (.cells #[.int .u64 y] 50)).grown hgr2 (by have := hb1'.size; simp at this; simp; omega) (fun q hq => (hown1.lt q hq).1)
      have hown3 : w2.ownsRow (w.heap.size + 1) 50 1 v' (k + 1) (UU (ps ++ [(y : Int)])) := by
        simp only [UU, List.map_append, List.map_cons, List.map_nil]; exact hown2
      clear hown1 hown2 hgr2 hb1' hb1 hne2
      go_wp2
      go_roundw
      case rel => exact ⟨k + 1, by omega, by go_num, vint (by rw [hoff.out]; omega), by rw [hpt.out]; exact hown3, hb2⟩
      case measure => simp [intOf]; omega
    · have ek : k = m := by omega
      subst ek
      obtain ⟨c0, c1, f0, f1, hsz⟩ := fault_cells hbk
      have HO : Hid (wr.ownsRow (w.heap.size + 1) 50 1 u8 k (UU (Mth.parts zs t ws k))) := hown
      clear hown
      go_wp2
      have h2 := ownsRow_setCell_below (ownsRow_setCell_below HO.out (a := ⟨w.heap.size, 0, none⟩) (Nat.lt_succ_self _) (.int .i64 0)) (a := ⟨w.heap.size, 1, none⟩) (Nat.lt_succ_self _) (.int .i64 0)
      obtain ⟨g, cp, eg, hg⟩ := has_of_owns64 h2 (parts_num zs t ws k HG.out)
      rw [eg]
      exact bodyPost_ret (v := .tuple #[.slice g k cp, .agg #[.int .i64 0, .int .i64 0]]) (by simp [results, Try.results29, go_sem, c0, c1]) rfl
        ⟨g, cp, rfl, hg, ((((Below.refl w.heap.size w).alloc (Nat.le_refl _) _).trans (hbk.mono (Nat.le_succ _))).setCell (Nat.le_refl _) _).setCell (Nat.le_refl _) _⟩
end Go.Proofs.Ytehejhpgehlifab
