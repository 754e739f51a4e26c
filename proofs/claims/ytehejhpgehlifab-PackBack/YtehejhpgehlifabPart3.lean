/- What the document's Part does. -/
import Derived.Test.YtehejhpgehlifabPart2
namespace Go.Proofs.Ytehejhpgehlifab
open Go.RowKit

theorem rget_int (a : Option Addr) (len cap : Nat) (t n : Int) (zs : List Int) (w : World) (hl : len ≤ 100000) (hz : Has .u8 w a len zs) (hcode : codeOf len t n = 0) :
    Calls Try.prog 38 #[.slice a len cap, .int .i64 t, .int .i64 n] w fun e w' => e = .returned (.tuple #[.int .u64 (Mth.rd zs t.toNat n.toNat), .agg #[.int .i64 0, .int .i64 0]]) ∧ Below w.heap.size w w' := by
  have hk := code_ok hcode
  obtain ⟨t', rfl⟩ := Int.eq_ofNat_of_zero_le hk.2.2.1
  obtain ⟨n', rfl⟩ := Int.eq_ofNat_of_zero_le (show 0 ≤ n by omega)
  exact rget_yes a len cap t' n' zs w hl hz hcode

set_option maxHeartbeats 2000000 in
theorem rpart_good (a b : Option Addr) (len c m d : Nat) (t : Int) (zs ws : List Int) (w : World) (hl : len ≤ 100000) (hm : m ≤ 1000) (hz : Has .u8 w a len zs) (hw : Has .i64 w b m ws)
    (hgood : ∀ j, j < m → codeOf len (t + (Mth.off ws j : Int)) (ws.getD j 0) = 0) :
    Calls Try.prog 30 #[.slice a len c, .int .i64 t, .slice b m d] w fun e w' => ∃ g cap', e = .returned (.tuple #[.slice g m cap', .agg #[.int .i64 0, .int .i64 0]]) ∧
      Has .u64 w' g m (Mth.parts zs t ws m) ∧ Below w.heap.size w w' := by
  have HG : Hid (∀ j, j < m → codeOf len (t + (Mth.off ws j : Int)) (ws.getD j 0) = 0) := hgood
  obtain ⟨i0, hi, hz0, hz1, hz2⟩ := info_parts Try.info50
  clear hgood
  go_enter Try.func30, Try.ntmps30
  go_wp2
  go_loopw [1, 8, 9] (fun s v q wr => ∃ k : Nat, k ≤ m ∧ q = .int .i64 k ∧ s = .int .i64 (t + (Mth.off ws k : Int)) ∧ wr.ownsRow (w.heap.size + 1) 50 1 v k (UU (Mth.parts zs t ws k)) ∧ Below (w.heap.size + 1) (w.alloc F0) wr) (fun _ _ q _ => m - (intOf q).toNat)
  case atStart => exact ⟨0, Nat.zero_le _, rfl, by simp [Mth.off], World.ownsRow_nil _ _ _ _, Below.refl _ _⟩
  case round =>
    obtain ⟨k, hk, rfl, rfl, hown, hbk⟩ := hrel
    by_cases hlt : k < m
    · obtain ⟨p, o, rfl, hpl, hcell⟩ := hw.some (by omega)
      have hcx : wr.cell? ⟨p, o + k, none⟩ = some (.int .i64 (ws.getD k 0)) := (hbk.cell (p := ⟨p, o + k, none⟩) (Nat.lt_succ_of_lt hpl)).trans (((bl_alloc (Below.refl w.heap.size w)).cell (p := ⟨p, o + k, none⟩) hpl).trans (hcell k hlt))
      clear hcell
      have hz' : Has .u8 wr a len zs := hz.alloc.below hbk (by simp)
      have hg := HG.out k hlt
      have hcd := code_ok hg
      have hoff : Hid (Mth.off ws (k + 1) = Mth.off ws k + (ws.getD k 0).toNat) := rfl
      have hpt : Hid (Mth.parts zs t ws (k + 1) = Mth.parts zs t ws k ++ [(Mth.rd zs (t + (Mth.off ws k : Int)).toNat (ws.getD k 0).toNat : Int)]) := Mth.parts_succ zs t ws k
      simp only [List.getD_eq_getElem?_getD] at hg hcx hoff hcd hpt
      generalize ws[k]?.getD 0 = x at *
      have HC : Hid (codeOf len (t + (Mth.off ws k : Int)) x = 0) := hg
      clear hg
      go_wp2_with fail
      refine (rget_int _ _ _ _ _ _ _ hl hz' HC.out).mono ?_
      rintro e w1 ⟨rfl, hb1⟩
      have hown1 := owns_below hown hb1
      have hb1' := hbk.trans (hb1.mono (by have := hbk.size; simpa using this))
      have hcx1 : w1.cell? ⟨p, o + k, none⟩ = some (.int .i64 x) := (hb1.cell (p := ⟨p, o + k, none⟩) (World.block_lt_of_cell? wr _ hcx)).trans hcx
      clear hown hbk hcx hz'
      generalize Mth.rd zs (t + (Mth.off ws k : Int)).toNat x.toNat = y at *
      generalize Mth.parts zs t ws k = ps at *
      go_wp2_with (at_builtin; refine wpList_append_own _ rfl _ _ 32 rfl (w.heap.size + 1) 50 i0 (.int .u64 0) 1 8 Try.underlying32 hi hz0 hz1 hz2 rfl (by decide) _ k (UU ps) rfl ?c0 ⟨w1.heap.size + 1, 0, none⟩ 1 1 [.int .u64 y] rfl rfl ?c1 ?c2 ?c3 ?c4 ?c5 ?_)
      case c0 => exact (hown1.alloc _).alloc _
      case c1 => exact one_cell64 _ _
      case c2 => intro u hu; simp at hu; subst hu; rfl
      case c3 => unfold maxLen; omega
      case c4 => omega
      case c5 => have := hb1'.size; simp at this; simp; omega
      intro v' w2 hown2 hgr2 hne2
      have hb2 := ((hb1'.alloc (by have := hb1'.size; simpa using this) F0).alloc (by have := hb1'.size; simp at this; simp; omega) (.cells #[.int .u64 y] 50)).grown hgr2 (by have := hb1'.size; simp at this; simp; omega) (fun q hq => (hown1.lt q hq).1)
      have hown3 : w2.ownsRow (w.heap.size + 1) 50 1 v' (k + 1) (UU (ps ++ [(y : Int)])) := by
        simp only [UU, List.map_append, List.map_cons, List.map_nil]; exact hown2
      have hcx2 : w2.cell? ⟨p, o + k, none⟩ = some (.int .i64 x) := by
        have h1 := World.block_lt_of_cell? w1 _ hcx1
        have e1 : ((w1.alloc F0).alloc (.cells #[.int .u64 y] 50)).cell? ⟨p, o + k, none⟩ = some (.int .i64 x) := by
          rw [(bl_alloc (bl_alloc (Below.refl w1.heap.size w1))).cell (p := ⟨p, o + k, none⟩) h1]; exact hcx1
        refine hgr2.cell e1 (fun h => ?_)
        have := (hown1.lt p h.symm).1
        omega
      clear hown1 hown2 hgr2 hb1' hb1 hne2 hcx1
      go_wp2
      go_roundw
      case rel => exact ⟨k + 1, by omega, by go_num, vint (by rw [hoff.out]; omega), by rw [hpt.out]; exact hown3, hb2⟩
      case measure => simp [intOf]; omega
    · have ek : k = m := by omega
      subst ek
      obtain ⟨c0, c1, f0, f1, hsz⟩ := fault_cells hbk
      have HO : Hid (wr.ownsRow (w.heap.size + 1) 50 1 u8 k (UU (Mth.parts zs t ws k))) := hown
      clear hown
      go_wp2
      have h2 := ownsRow_setCell_below (ownsRow_setCell_below HO.out (a := ⟨w.heap.size, 0, none⟩) (Nat.lt_succ_self _) (.int .i64 0)) (a := ⟨w.heap.size, 1, none⟩) (Nat.lt_succ_self _) (.int .i64 0)
      obtain ⟨g, cp, eg, hg⟩ := has_of_owns64 h2 (parts_num zs t ws k HG.out)
      rw [eg]
      exact bodyPost_ret (v := .tuple #[.slice g k cp, .agg #[.int .i64 0, .int .i64 0]]) (by simp [results, Try.results30, go_sem, c0, c1]) rfl
        ⟨g, cp, rfl, hg, ((((Below.refl w.heap.size w).alloc (Nat.le_refl _) _).trans (hbk.mono (Nat.le_succ _))).setCell (Nat.le_refl _) _).setCell (Nat.le_refl _) _⟩
set_option maxHeartbeats 2000000 in
theorem rpart_bad (a b : Option Addr) (len c m d i : Nat) (t : Int) (zs ws : List Int) (w : World) (hl : len ≤ 100000) (hm : m ≤ 1000) (hz : Has .u8 w a len zs) (hw : Has .i64 w b m ws)
    (him : i < m) (hgood : ∀ j, j < i → codeOf len (t + (Mth.off ws j : Int)) (ws.getD j 0) = 0) (hbad : codeOf len (t + (Mth.off ws i : Int)) (ws.getD i 0) ≠ 0) :
    Calls Try.prog 30 #[.slice a len c, .int .i64 t, .slice b m d] w fun e w' => e = .returned (.tuple #[.slice none 0 0, .agg #[.int .i64 (codeOf len (t + (Mth.off ws i : Int)) (ws.getD i 0)), .int .i64 i]]) ∧ Below w.heap.size w w' := by
  have HB : Hid (codeOf len (t + (Mth.off ws i : Int)) (ws.getD i 0) ≠ 0) := hbad
  have HG : Hid (∀ j, j < i → codeOf len (t + (Mth.off ws j : Int)) (ws.getD j 0) = 0) := hgood
  obtain ⟨i0, hi, hz0, hz1, hz2⟩ := info_parts Try.info50
  clear hgood hbad
  generalize hCC : codeOf len (t + (Mth.off ws i : Int)) (ws.getD i 0) = CC at *
  have HCC : Hid (codeOf len (t + (Mth.off ws i : Int)) (ws.getD i 0) = CC) := hCC
  clear hCC
  go_enter Try.func30, Try.ntmps30
  go_wp2
  go_loopw [1, 8, 9] (fun s v q wr => ∃ k : Nat, k ≤ i ∧ q = .int .i64 k ∧ s = .int .i64 (t + (Mth.off ws k : Int)) ∧ wr.ownsRow (w.heap.size + 1) 50 1 v k (UU (Mth.parts zs t ws k)) ∧ Below (w.heap.size + 1) (w.alloc F0) wr) (fun _ _ q _ => m - (intOf q).toNat)
  case atStart => exact ⟨0, Nat.zero_le _, rfl, by simp [Mth.off], World.ownsRow_nil _ _ _ _, Below.refl _ _⟩
  case round =>
    obtain ⟨k, hk, rfl, rfl, hown, hbk⟩ := hrel
    by_cases hlt : k < i
    · obtain ⟨p, o, rfl, hpl, hcell⟩ := hw.some (by omega)
      have hcx : wr.cell? ⟨p, o + k, none⟩ = some (.int .i64 (ws.getD k 0)) := (hbk.cell (p := ⟨p, o + k, none⟩) (Nat.lt_succ_of_lt hpl)).trans (((bl_alloc (Below.refl w.heap.size w)).cell (p := ⟨p, o + k, none⟩) hpl).trans (hcell k (by omega)))
      clear hcell
      have hz' : Has .u8 wr a len zs := hz.alloc.below hbk (by simp)
      have hg := HG.out k hlt
      have hcd := code_ok hg
      have hoff : Hid (Mth.off ws (k + 1) = Mth.off ws k + (ws.getD k 0).toNat) := rfl
      have hpt : Hid (Mth.parts zs t ws (k + 1) = Mth.parts zs t ws k ++ [(Mth.rd zs (t + (Mth.off ws k : Int)).toNat (ws.getD k 0).toNat : Int)]) := Mth.parts_succ zs t ws k
      simp only [List.getD_eq_getElem?_getD] at hg hcx hoff hcd hpt
      generalize ws[k]?.getD 0 = x at *
      have HC : Hid (codeOf len (t + (Mth.off ws k : Int)) x = 0) := hg
      clear hg
      go_wp2_with fail
      refine (rget_int _ _ _ _ _ _ _ hl hz' HC.out).mono ?_
      rintro e w1 ⟨rfl, hb1⟩
      have hown1 := owns_below hown hb1
      have hb1' := hbk.trans (hb1.mono (by have := hbk.size; simpa using this))
      have hcx1 : w1.cell? ⟨p, o + k, none⟩ = some (.int .i64 x) := (hb1.cell (p := ⟨p, o + k, none⟩) (World.block_lt_of_cell? wr _ hcx)).trans hcx
      clear hown hbk hcx hz'
      generalize Mth.rd zs (t + (Mth.off ws k : Int)).toNat x.toNat = y at *
      generalize Mth.parts zs t ws k = ps at *
      go_wp2_with (at_builtin; refine wpList_append_own _ rfl _ _ 32 rfl (w.heap.size + 1) 50 i0 (.int .u64 0) 1 8 Try.underlying32 hi hz0 hz1 hz2 rfl (by decide) _ k (UU ps) rfl ?c0 ⟨w1.heap.size + 1, 0, none⟩ 1 1 [.int .u64 y] rfl rfl ?c1 ?c2 ?c3 ?c4 ?c5 ?_)
      case c0 => exact (hown1.alloc _).alloc _
      case c1 => exact one_cell64 _ _
      case c2 => intro u hu; simp at hu; subst hu; rfl
      case c3 => unfold maxLen; omega
      case c4 => omega
      case c5 => have := hb1'.size; simp at this; simp; omega
      intro v' w2 hown2 hgr2 hne2
      have hb2 := ((hb1'.alloc (by have := hb1'.size; simpa using this) F0).alloc (by have := hb1'.size; simp at this; simp; omega) (.cells #[.int .u64 y] 50)).grown hgr2 (by have := hb1'.size; simp at this; simp; omega) (fun q hq => (hown1.lt q hq).1)
      have hown3 : w2.ownsRow (w.heap.size + 1) 50 1 v' (k + 1) (UU (ps ++ [(y : Int)])) := by
        simp only [UU, List.map_append, List.map_cons, List.map_nil]; exact hown2
      have hcx2 : w2.cell? ⟨p, o + k, none⟩ = some (.int .i64 x) := by
        have h1 := World.block_lt_of_cell? w1 _ hcx1
        have e1 : ((w1.alloc F0).alloc (.cells #[.int .u64 y] 50)).cell? ⟨p, o + k, none⟩ = some (.int .i64 x) := by
          rw [(bl_alloc (bl_alloc (Below.refl w1.heap.size w1))).cell (p := ⟨p, o + k, none⟩) h1]; exact hcx1
        refine hgr2.cell e1 (fun h => ?_)
        have := (hown1.lt p h.symm).1
        omega
      clear hown1 hown2 hgr2 hb1' hb1 hne2 hcx1
      go_wp2
      go_roundw
      case rel => exact ⟨k + 1, by omega, by go_num, vint (by rw [hoff.out]; omega), by rw [hpt.out]; exact hown3, hb2⟩
      case measure => simp [intOf]; omega
    · have ek : k = i := by omega
      subst ek
      obtain ⟨p, o, rfl, hpl, hcell⟩ := hw.some (by omega)
      have hcx : wr.cell? ⟨p, o + k, none⟩ = some (.int .i64 (ws.getD k 0)) := (hbk.cell (p := ⟨p, o + k, none⟩) (Nat.lt_succ_of_lt hpl)).trans (((bl_alloc (Below.refl w.heap.size w)).cell (p := ⟨p, o + k, none⟩) hpl).trans (hcell k (by omega)))
      clear hcell
      have hz' : Has .u8 wr a len zs := hz.alloc.below hbk (by simp)
      have hkm : (k : Int) < (m : Int) := by omega
      simp only [List.getD_eq_getElem?_getD] at hcx HCC
      generalize ws[k]?.getD 0 = x at *
      have hCn : (CC != 0) = true := by simpa using HB.out
      go_wp2_with fail
      refine (rget_no _ _ _ _ _ _ hl (by rw [HCC.out]; exact HB.out)).mono ?_
      rintro e w1 ⟨rfl, hb1⟩
      rw [HCC.out]
      have hb1' := hbk.trans (hb1.mono (by have := hbk.size; simpa using this))
      obtain ⟨c0, c1, f0, f1, hsz⟩ := fault_cells hb1'
      clear hown hbk hcx hz' hb1
      go_wp2_with fail
      refine (fault_any _ _ _).mono ?_
      rintro e w2 ⟨rfl, hb2⟩
      have hb2' := (hb1'.alloc (by omega) (.cells #[.int .i64 CC, .int .i64 (-1)] 36)).trans (hb2.mono (by simp; omega))
      clear c0 c1 f0 f1 hsz hb2 hb1'
      obtain ⟨c0, c1, f0, f1, hsz⟩ := fault_cells hb2'
      go_wp2
      exact bodyPost_ret (v := .tuple #[.slice none 0 0, .agg #[.int .i64 CC, .int .i64 k]]) (by simp [results, Try.results30, go_sem, c0, c1]) rfl ⟨rfl, end_fault hb2' _ _⟩
end Go.Proofs.Ytehejhpgehlifab
