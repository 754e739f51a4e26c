/- What slices.Clone, bits.wrong, bits.Get and bits.Put do. -/
import Derived.Test.YtllnedikfikgiaaWrite
import Derived.Lib.SliceRun
import Derived.OpenShut
namespace Go.Proofs.Ytllnedikfikgiaa
open Go.RowKit

/-- a slice of integers, as it lies: its first 'len' cells are the numbers zs -/
def Has (k : IntKind) (w : World) (a : Option Addr) (len : Nat) (zs : List Int) : Prop :=
  zs.length = len ∧ (∀ n ∈ zs, (Lit.int k n).wf = true) ∧ (zs = [] ∨ ∃ b off, a = some ⟨b, off, none⟩ ∧ b < w.heap.size ∧ ∀ i, i < len → w.cell? ⟨b, off + i, none⟩ = some (.int k (zs.getD i 0)))

theorem Has.below {k : IntKind} {w w' : World} {a : Option Addr} {len B : Nat} {zs : List Int} (h : Has k w a len zs) (hb : Below B w w') (hB : w.heap.size ≤ B) : Has k w' a len zs := by
  refine ⟨h.1, h.2.1, ?_⟩
  rcases h.2.2 with h | ⟨b, off, rfl, hlt, hc⟩
  · exact .inl h
  · refine .inr ⟨b, off, rfl, Nat.lt_of_lt_of_le hlt hb.size, fun i hi => ?_⟩
    rw [hb.cell (p := ⟨b, off + i, none⟩) (Nat.lt_of_lt_of_le hlt hB)]
    exact hc i hi

theorem Has.bytes {w : World} {a : Option Addr} {len : Nat} {zs : List Int} (h : Has .u8 w a len zs) : Mth.Bytes zs := by
  intro i
  by_cases hi : i < zs.length
  · have hw := h.2.1 zs[i] (List.getElem_mem hi)
    have := bounds_u8 hw
    simp only [List.getD_eq_getElem?_getD, List.getElem?_eq_getElem hi, Option.getD_some]
    omega
  · simp [List.getD_eq_getElem?_getD, List.getElem?_eq_none (Nat.le_of_not_lt hi)]

theorem wf_u8 (n : Int) (h : 0 ≤ n ∧ n < 256) : (Lit.int .u8 n).wf = true := by
  simp [Lit.wf, IntKind.min, IntKind.max, IntKind.bits, IntKind.signed]
  omega

theorem Try.info5 : (Try.prog.info? 5).map (fun i => (i.zero, i.size, i.bytes)) = some (some (.int .u8 0), 1, 1) := by kernel_rfl

theorem bb_at {b off len : Nat} {zs : List Int} {w : World} {o : Obj} (hz : zs.length = len) (hc : ∀ i, i < len → w.cell? ⟨b, off + i, none⟩ = some (.int .u8 (zs.getD i 0))) :
    ∀ (j : Nat) (u : Value), (BB zs)[j]? = some u → (w.alloc o).cell? ((⟨b, off, none⟩ : Addr).add j) = some u := by
  intro j u hj
  have hj' : j < zs.length := by
    have := (List.getElem?_eq_some_iff.1 hj).1
    simpa [BB] using this
  have h1 := hc j (by omega)
  have h2 : ((w.alloc o).cell? ⟨b, off + j, none⟩) = w.cell? ⟨b, off + j, none⟩ :=
    ((Below.refl w.heap.size w).alloc (Nat.le_refl _) o).cell (p := ⟨b, off + j, none⟩) (World.block_lt_of_cell? w _ h1)
  rw [Addr.add_lit, h2, h1]
  simp only [BB, List.getElem?_map, List.getElem?_eq_getElem hj', Option.map_some, Option.some.injEq] at hj
  simp only [List.getD_eq_getElem?_getD, List.getElem?_eq_getElem hj', Option.getD_some, hj]

theorem bb_one (zs : List Int) : ∀ u ∈ BB zs, u.oneCell' = true := by
  intro u hu
  simp only [BB, List.mem_map] at hu
  obtain ⟨x, _, rfl⟩ := hu
  rfl

set_option maxHeartbeats 1000000 in
theorem clone_any (b off len cap : Nat) (zs : List Int) (w : World) (hz : zs.length = len) (h0 : 0 < len) (hl : len ≤ 100000)
    (hc : ∀ i, i < len → w.cell? ⟨b, off + i, none⟩ = some (.int .u8 (zs.getD i 0))) :
    Calls Try.prog 25 #[.slice (some ⟨b, off, none⟩) len cap] w fun e w' => ∃ g cap', e = .returned (.slice (some ⟨g, 0, none⟩) len cap') ∧
      w'.ownsRow w.heap.size 5 1 (.slice (some ⟨g, 0, none⟩) len cap') len (BB zs) ∧ Below w.heap.size w w' := by
  have hnil := fun w => Lib.run_eql_slice_nil (P := Try.prog) w 22 5 (some ⟨b, off, none⟩) len cap 0 0 Try.underlying22
  obtain ⟨i0, hi, hz0, hz1, hz2⟩ := info_parts Try.info5
  go_enter Try.func25, Try.ntmps25
  go_wp2_with (at_builtin; refine wpList_append_own _ rfl _ _ 22 rfl w.heap.size 5 i0 (.int .u8 0) 1 1 Try.underlying22 hi hz0 hz1 hz2 rfl (by decide) _ 0 [] rfl ?c0 ⟨b, off, none⟩ len cap (BB zs) rfl ?c6 ?c1 ?c2 ?c3 ?c4 ?c5 ?_)
  case c0 => exact World.ownsRow_made w #[] 0 (Nat.le_refl _) (Nat.zero_le _) rfl
  case c6 => simp [BB]; omega
  case c1 => exact bb_at hz hc
  case c2 => exact bb_one zs
  case c3 => unfold maxLen; omega
  case c4 => omega
  case c5 => simp
  intro v' w1 hown hgr hne
  rcases hown.2 with ⟨e, _⟩ | ⟨g, cp, cur, e, rest⟩
  · exact absurd e hne
  · clear rest hne
    subst e
    go_wp2
    go_ret
    refine ⟨g, cp, rfl, hown, ((Below.refl _ w).alloc (Nat.le_refl _) _).grown hgr (by simp) ?_⟩
    intro k hk
    simp [Value.ownBlock] at hk
    omega

def codeOf (len : Nat) (t n : Int) : Int := if n < 1 ∨ 64 < n then 6 else if t < 0 ∨ (len : Int) * 8 - n < t then 1 else 0

theorem wrong_any (a : Option Addr) (len cap : Nat) (t n : Int) (w : World) (hl : len ≤ 100000) :
    Calls Try.prog 20 #[.slice a len cap, .int .i64 t, .int .i64 n] w fun e w' => e = .returned (.int .i64 (codeOf len t n)) ∧ w' = w := by
  unfold codeOf
  split
  · exact wrong_width a len cap t n w ‹_›
  · split
    · exact wrong_range a len cap t n w hl (by omega) (by omega) ‹_›
    · exact wrong_none a len cap t n w hl (by omega) (by omega) (by omega) (by omega)

theorem code_ok {len : Nat} {t n : Int} (h : codeOf len t n = 0) : 1 ≤ n ∧ n ≤ 64 ∧ 0 ≤ t ∧ t + n ≤ 8 * (len : Int) := by
  unfold codeOf at h
  split at h
  · simp at h
  · split at h
    · simp at h
    · omega

theorem Has.some {k : IntKind} {w : World} {a : Option Addr} {len : Nat} {zs : List Int} (h : Has k w a len zs) (h0 : 0 < len) :
    ∃ b off, a = some ⟨b, off, none⟩ ∧ b < w.heap.size ∧ ∀ i, i < len → w.cell? ⟨b, off + i, none⟩ = some (.int k (zs.getD i 0)) := by
  rcases h.2.2 with h1 | h1
  · have := h.1; rw [h1] at this; simp at this; omega
  · exact h1

set_option maxHeartbeats 1000000 in
theorem get_no (a : Option Addr) (len cap : Nat) (t n : Int) (w : World) (hl : len ≤ 100000) (hcode : codeOf len t n ≠ 0) :
    Calls Try.prog 8 #[.slice a len cap, .int .i64 t, .int .i64 n] w fun e w' => e = .returned (.tuple #[.int .u64 0, .agg #[.int .i64 (codeOf len t n), .int .i64 (-1)]]) ∧ Below w.heap.size w w' := by
  have hc : (codeOf len t n != 0) = true := by simpa using hcode
  clear hcode
  go_enter Try.func8, Try.ntmps8
  go_wp2_with fail
  refine (wrong_any _ _ _ _ _ _ hl).mono ?_
  rintro e w' ⟨rfl, rfl⟩
  go_wp2
  exact bodyPost_ret (v := .tuple #[.int .u64 0, .agg #[.int .i64 (codeOf len t n), .int .i64 (-1)]]) (by simp [results, Try.results8, go_sem]) rfl ⟨rfl, (Below.refl _ _).alloc (Nat.le_refl _) _⟩

set_option maxHeartbeats 1000000 in
theorem get_yes (a : Option Addr) (len cap t n : Nat) (zs : List Int) (w : World) (hl : len ≤ 100000) (hz : Has .u8 w a len zs) (hcode : codeOf len t n = 0) :
    Calls Try.prog 8 #[.slice a len cap, .int .i64 t, .int .i64 n] w fun e w' => e = .returned (.tuple #[.int .u64 (Mth.rd zs t n), .agg #[.int .i64 0, .int .i64 0]]) ∧ Below w.heap.size w w' := by
  have hk := code_ok hcode
  have hc : (codeOf len t n != 0) = false := by simpa using hcode
  obtain ⟨b, off, rfl, hlt, hcell⟩ := hz.some (by omega)
  have hbytes := hz.bytes
  have hlen := hz.1
  have hcell' : ∀ i, i < len → (w.alloc (.cells #[.int .i64 0, .int .i64 0] 28)).cell? ⟨b, off + i, none⟩ = some (.int .u8 (zs.getD i 0)) := fun i hi =>
    (((Below.refl w.heap.size w).alloc (Nat.le_refl _) _).cell (p := ⟨b, off + i, none⟩) hlt).trans (hcell i hi)
  clear hcode hcell hz
  have hread := read_any b off len cap t n zs _ hlen hbytes hl (by omega) (by omega) hcell'
  have HC : Hid (∀ i, i < len → (w.alloc (.cells #[.int .i64 0, .int .i64 0] 28)).cell? ⟨b, off + i, none⟩ = some (.int .u8 (zs.getD i 0))) := hcell'
  have HL : Hid (zs.length = len) := hlen
  clear hcell' hread hlen
  go_enter Try.func8, Try.ntmps8
  go_wp2_with fail
  refine (wrong_any _ _ _ _ _ _ hl).mono ?_
  rintro e w' ⟨rfl, rfl⟩
  go_wp2_with fail
  refine (read_any b off len cap t n zs _ HL.out hbytes hl (by omega) (by omega) HC.out).mono ?_
  rintro e w' ⟨rfl, q, rfl⟩
  go_wp2
  exact bodyPost_ret (v := .tuple #[.int .u64 (Mth.rd zs t n), .agg #[.int .i64 0, .int .i64 0]]) (by simp [results, Try.results8, go_sem]) rfl ⟨rfl, ((below_drewN ((Below.refl _ _).alloc (Nat.le_refl _) _) q).setCell (Nat.le_refl _) _).setCell (Nat.le_refl _) _⟩

set_option maxHeartbeats 1000000 in
theorem put_no (a : Option Addr) (len cap : Nat) (t n v : Int) (w : World) (hl : len ≤ 100000) (hcode : codeOf len t n ≠ 0) :
    Calls Try.prog 10 #[.slice a len cap, .int .i64 t, .int .i64 n, .int .u64 v] w fun e w' => e = .returned (.tuple #[.slice none 0 0, .agg #[.int .i64 (codeOf len t n), .int .i64 (-1)]]) ∧ Below w.heap.size w w' := by
  have hc : (codeOf len t n != 0) = true := by simpa using hcode
  clear hcode
  go_enter Try.func10, Try.ntmps10
  go_wp2_with fail
  refine (wrong_any _ _ _ _ _ _ hl).mono ?_
  rintro e w' ⟨rfl, rfl⟩
  go_wp2
  exact bodyPost_ret (v := .tuple #[.slice none 0 0, .agg #[.int .i64 (codeOf len t n), .int .i64 (-1)]]) (by simp [results, Try.results10, go_sem]) rfl ⟨rfl, (Below.refl _ _).alloc (Nat.le_refl _) _⟩

theorem has_of_owns {w : World} {base g len cap : Nat} {zs : List Int} (h : w.ownsRow base 5 1 (.slice (some ⟨g, 0, none⟩) len cap) len (BB zs)) (hb : Mth.Bytes zs) : Has .u8 w (some ⟨g, 0, none⟩) len zs := by
  have hl : zs.length = len := by simpa [BB] using h.1
  refine ⟨hl, ?_, .inr ⟨g, 0, rfl, (h.lt g rfl).2, fun i hi => ?_⟩⟩
  · intro n hn
    obtain ⟨i, hi, rfl⟩ := List.getElem_of_mem hn
    have := hb i
    simp only [List.getD_eq_getElem?_getD, List.getElem?_eq_getElem hi, Option.getD_some] at this
    exact wf_u8 _ this
  · rw [Nat.zero_add, h.cellAt i (by omega)]
    simp only [BB, List.getElem?_map, List.getD_eq_getElem?_getD]
    rw [List.getElem?_eq_getElem (by omega)]; rfl

set_option maxHeartbeats 1000000 in
theorem put_yes (a : Option Addr) (len cap t n v : Nat) (zs : List Int) (w : World) (hl : len ≤ 100000) (hv : v < 18446744073709551616) (hz : Has .u8 w a len zs) (hcode : codeOf len t n = 0) :
    Calls Try.prog 10 #[.slice a len cap, .int .i64 t, .int .i64 n, .int .u64 v] w fun e w' => ∃ g cap', e = .returned (.tuple #[.slice (some ⟨g, 0, none⟩) len cap', .agg #[.int .i64 0, .int .i64 0]]) ∧
      Has .u8 w' (some ⟨g, 0, none⟩) len (Mth.wr zs t n v n) ∧ Below w.heap.size w w' := by
  have hk := code_ok hcode
  have hc : (codeOf len t n != 0) = false := by simpa using hcode
  obtain ⟨b, off, rfl, hlt, hcell⟩ := hz.some (by omega)
  have hbytes := hz.bytes
  have HL : Hid (zs.length = len) := hz.1
  have HC : Hid (∀ i, i < len → (w.alloc (.cells #[.int .i64 0, .int .i64 0] 28)).cell? ⟨b, off + i, none⟩ = some (.int .u8 (zs.getD i 0))) := fun i hi =>
    (((Below.refl w.heap.size w).alloc (Nat.le_refl _) _).cell (p := ⟨b, off + i, none⟩) hlt).trans (hcell i hi)
  clear hcode hcell hz
  go_enter Try.func10, Try.ntmps10
  go_wp2_with fail
  refine (wrong_any _ _ _ _ _ _ hl).mono ?_
  rintro e w' ⟨rfl, rfl⟩
  go_wp2_with fail
  refine (clone_any b off len cap zs _ HL.out (by omega) hl HC.out).mono ?_
  rintro e w1 ⟨g, cp, rfl, hown, hb1⟩
  go_wp2_with fail
  refine (write_any _ g len cp t n v zs w1 HL.out hbytes hl (by omega) hv (by omega) hown).mono ?_
  rintro e w2 ⟨rfl, hown2, hgr⟩
  have hs : (w.alloc (.cells #[.int .i64 0, .int .i64 0] 28)).heap.size = w.heap.size + 1 := by simp
  have hg := (hown.lt g rfl).1
  have hb2 : Below (w.heap.size + 1) (w.alloc (.cells #[.int .i64 0, .int .i64 0] 28)) w2 := by
    rw [hs] at hb1
    refine hb1.grown hgr ?_ ?_
    · have := hb1.size; rw [hs] at this; exact this
    · intro k hk; simp only [Option.some.injEq] at hk; rw [hs] at hg; omega
  have c0 : w2.cell? ⟨w.heap.size, 0, none⟩ = some (.int .i64 0) := (hb2.cell (p := ⟨w.heap.size, 0, none⟩) (by simp)).trans (by simp)
  have c1 : w2.cell? ⟨w.heap.size, 1, none⟩ = some (.int .i64 0) := (hb2.cell (p := ⟨w.heap.size, 1, none⟩) (by simp)).trans (by simp)
  have f0 : w2.frozen? ⟨w.heap.size, 0, none⟩ = false := (hb2.frozen (p := ⟨w.heap.size, 0, none⟩) (by simp)).trans (by simp)
  have f1 : w2.frozen? ⟨w.heap.size, 1, none⟩ = false := (hb2.frozen (p := ⟨w.heap.size, 1, none⟩) (by simp)).trans (by simp)
  have hsz : w.heap.size < w2.heap.size := by have := hb2.size; rw [hs] at this; omega
  have HO : Hid (w2.ownsRow (w.alloc (.cells #[.int .i64 0, .int .i64 0] 28)).heap.size 5 1 (.slice (some ⟨g, 0, none⟩) len cp) len (BB (Mth.wr zs t n v n))) := hown2
  clear hown hown2 hb1
  go_wp2
  have h2 := ownsRow_setCell_below (ownsRow_setCell_below HO.out (a := ⟨w.heap.size, 0, none⟩) (by rw [hs]; exact Nat.lt_succ_self _) (.int .i64 0)) (a := ⟨w.heap.size, 1, none⟩) (by rw [hs]; exact Nat.lt_succ_self _) (.int .i64 0)
  exact bodyPost_ret (v := .tuple #[.slice (some ⟨g, 0, none⟩) len cp, .agg #[.int .i64 0, .int .i64 0]]) (by simp [results, Try.results10, go_sem, c0, c1]) rfl
    ⟨g, cp, rfl, has_of_owns h2 (Mth.wr_bytes _ _ _ _ _ hbytes), ((((Below.refl w.heap.size w).alloc (Nat.le_refl _) _).trans (hb2.mono (Nat.le_succ _))).setCell (Nat.le_refl _) _).setCell (Nat.le_refl _) _⟩

end Go.Proofs.Ytllnedikfikgiaa
