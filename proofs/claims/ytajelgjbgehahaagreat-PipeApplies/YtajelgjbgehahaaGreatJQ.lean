/- Texts of one chain, joined: PRead, PRead2, PWrite, PWrite2. -/
import Derived.Test.YtajelgjbgehahaaGreatVSizeRef
import Derived.Test.YtajelgjbgehahaaGreatJP
namespace Go.Proofs.YtajelgjbgehahaaGreat
open Go.RowKit

/-- the fault that a call told lies in a new block, with what was there ahead -/
theorem told_cells {w w1 : World} {a : Option Addr} {m c : Nat} (o : Obj) (hb : Below (w.heap.size + 2) ((w.alloc (H0 a m c)).alloc F0) w1) : Below (w.heap.size + 2) ((w.alloc (H0 a m c)).alloc F0) (w1.alloc o) :=
  hb.alloc (by have := hb.size; simpa using this) o

/-- numbers of another kind stay where an int is put -/
theorem Has.put {k : IntKind} {w : World} {a : Option Addr} {len : Nat} {zs : List Int} (h : Has k w a len zs) (hk : k ≠ .i64) {p : Addr} {x : Int} (hp : w.cell? p = .some (.int .i64 x)) (v : Value) : Has k (w.setCell p v) a len zs := by
  refine ⟨h.1, h.2.1, ?_⟩
  rcases h.2.2 with h | ⟨b, off, rfl, hlt, hc⟩
  · exact .inl h
  · refine .inr ⟨b, off, rfl, by simpa [World.setCell] using hlt, fun i hi => ?_⟩
    rw [World.cell?_setCell_other]
    · exact hc i hi
    · intro e
      have := hc i hi
      rw [← e, hp] at this
      simp only [Option.some.injEq, Value.int.injEq] at this
      exact hk this.1.symm

theorem Has.put2 {k : IntKind} {w : World} {a : Option Addr} {len B : Nat} {zs : List Int} (h : Has k w a len zs) (hk : k ≠ .i64) {x y : Int} (hp : w.cell? ⟨B, 0, none⟩ = .some (.int .i64 x)) (hq : w.cell? ⟨B, 1, none⟩ = .some (.int .i64 y)) (u v : Value) : Has k ((w.setCell ⟨B, 0, none⟩ u).setCell ⟨B, 1, none⟩ v) a len zs :=
  (h.put hk hp u).put hk ((World.cell?_setCell_other _ _ _ _ (by simp)).trans hq) v

set_option maxHeartbeats 1000000 in
set_option maxRecDepth 20000 in
theorem pread_bad (a b : Option Addr) (m c len d : Nat) (t C A : Int) (ws : List Int) (w : World) (hC : C ≠ 0) (hw : Has .i64 w a m ws)
    (hs : ∀ a c w, Has .i64 w a m ws → Calls Tryz.prog 70 #[HD a m c] w fun e w' => e = .returned (.tuple #[.int .i64 0, .agg #[.int .i64 C, .int .i64 A]]) ∧ Below w.heap.size w w') :
    Calls Tryz.prog 81 #[HD a m c, .slice b len d, .int .i64 t] w fun e w' => e = .returned (.tuple #[.slice none 0 0, .agg #[.int .i64 C, .int .i64 A]]) ∧ Below w.heap.size w w' := by
  have hc : (C != 0) = true := by simpa using hC
  have HS := hid hs
  clear hs hC
  go_enter Tryz.func81, Tryz.ntmps81
  go_wp2_with fail
  refine (HS.out _ _ _ hw.alloc.alloc).mono ?_
  rintro e w1 ⟨rfl, hb1⟩
  obtain ⟨c0, c1, c2, f1, f2, hz⟩ := head_cells (bl2 hb1)
  clear HS
  go_wp2
  go_region
  go_wp2
  exact bodyPost_ret (v := .tuple #[.slice none 0 0, .agg #[.int .i64 C, .int .i64 A]]) (by simp [results, Tryz.results81, go_sem, c1, c2, hz]) rfl ⟨rfl, (bl_alloc (end_head (bl2 hb1) _ _)).drew⟩

set_option maxHeartbeats 1000000 in
set_option maxRecDepth 20000 in
theorem pread_short (a b : Option Addr) (m c len d N : Nat) (t : Int) (ws : List Int) (w : World) (hl : len ≤ 100000) (hN : N ≤ 32) (hw : Has .i64 w a m ws) (ht : t < 0 ∨ (len : Int) - N < t)
    (hs : ∀ a c w, Has .i64 w a m ws → Calls Tryz.prog 70 #[HD a m c] w fun e w' => e = .returned (.tuple #[.int .i64 N, .agg #[.int .i64 0, .int .i64 0]]) ∧ Below w.heap.size w w') :
    Calls Tryz.prog 81 #[HD a m c, .slice b len d, .int .i64 t] w fun e w' => e = .returned (.tuple #[.slice none 0 0, .agg #[.int .i64 3, .int .i64 (-1)]]) ∧ Below w.heap.size w w' := by
  have HS := hid hs
  clear hs
  by_cases h0 : t < 0
  · go_enter Tryz.func81, Tryz.ntmps81
    go_wp2_with fail
    refine (HS.out _ _ _ hw.alloc.alloc).mono ?_
    rintro e w1 ⟨rfl, hb1⟩
    obtain ⟨c0, c1, c2, f1, f2, hz⟩ := head_cells (bl2 hb1)
    clear HS
    go_wp2
    exact bodyPost_ret (v := .tuple #[.slice none 0 0, .agg #[.int .i64 3, .int .i64 (-1)]]) (by simp [results, Tryz.results81, go_sem, c1, c2, hz]) rfl ⟨rfl, (bl_alloc (end_head (bl2 hb1) _ _))⟩
  · have h1 : (len : Int) - N < t := by omega
    clear ht
    go_enter Tryz.func81, Tryz.ntmps81
    go_wp2_with fail
    refine (HS.out _ _ _ hw.alloc.alloc).mono ?_
    rintro e w1 ⟨rfl, hb1⟩
    obtain ⟨c0, c1, c2, f1, f2, hz⟩ := head_cells (bl2 hb1)
    clear HS
    go_wp2
    exact bodyPost_ret (v := .tuple #[.slice none 0 0, .agg #[.int .i64 3, .int .i64 (-1)]]) (by simp [results, Tryz.results81, go_sem, c1, c2, hz]) rfl ⟨rfl, (bl_alloc (end_head (bl2 hb1) _ _))⟩

theorem read_code (len N : Nat) (t : Int) (ws : List Int) (m j : Nat) (h0 : 0 ≤ t) (h1 : t + N ≤ len) (hh : ∀ j, j < m → Mth.Fit ws j) (hN : Mth.off ws m = 8 * N) (hj : j < m) : codeOf len (t * 8 + (Mth.off ws j : Int)) (ws.getD j 0) = 0 := by
  have h2 := Mth.off_mono ws (j + 1) m (by omega)
  have h3 := hh j hj
  unfold Mth.Fit at h3
  simp only [Mth.off] at h2
  unfold codeOf
  rw [if_neg (by omega), if_neg (by omega)]

set_option maxHeartbeats 1000000 in
set_option maxRecDepth 20000 in
theorem pread_good (a b : Option Addr) (m c len d N : Nat) (t : Int) (zs ws : List Int) (w : World) (hl : len ≤ 100000) (hh : Mth.Head ws m) (hN : Mth.off ws m = 8 * N) (hz : Has .u8 w b len zs) (hw : Has .i64 w a m ws) (ht : 0 ≤ t) (ht2 : t + N ≤ len)
    (hs : ∀ a c w, Has .i64 w a m ws → Calls Tryz.prog 70 #[HD a m c] w fun e w' => e = .returned (.tuple #[.int .i64 N, .agg #[.int .i64 0, .int .i64 0]]) ∧ Below w.heap.size w w') :
    Calls Tryz.prog 81 #[HD a m c, .slice b len d, .int .i64 t] w fun e w' => ∃ g cap', e = .returned (.tuple #[.slice g m cap', .agg #[.int .i64 0, .int .i64 0]]) ∧ Has .u64 w' g m (Mth.parts zs (t * 8) ws m) ∧ Below w.heap.size w w' := by
  have HS := hid hs
  have hg := fun j hj => read_code len N t ws m j ht ht2 hh.2.2.1 hN hj
  have HG := hid hg
  have hm : m ≤ 1000 := by have := hh.2.1; omega
  have h32 : N ≤ 32 := by have := hh.2.2.2.2; omega
  clear hs hg hN hh
  go_enter Tryz.func81, Tryz.ntmps81
  go_wp2_with fail
  refine (HS.out _ _ _ hw.alloc.alloc).mono ?_
  rintro e w1 ⟨rfl, hb1⟩
  obtain ⟨c0, c1, c2, f1, f2, hsz⟩ := head_cells (bl2 hb1)
  have hz1 := hz.alloc.alloc.step hb1
  have hw1 := hw.alloc.alloc.step hb1
  clear HS
  have hm1 : t * 8 < 9223372036854775808 := by omega
  have hsz0 : w.heap.size < w1.heap.size := by omega
  go_wp2_with fail
  refine (part_good _ _ _ _ _ _ _ zs ws _ hl hm hz1.alloc hw1.alloc HG.out).mono ?_
  rintro e w2 ⟨g, cp, rfl, hp, hb2⟩
  have hB := (told_cells (.cells #[.int .i64 0, .int .i64 0] 28) (bl2 hb1)).trans (hb2.mono (by simp; omega))
  clear c0 c1 c2 f1 f2 hsz
  obtain ⟨c0, c1, c2, f1, f2, hsz⟩ := head_cells hB
  have HP := hid hp
  clear hp hb2 hb1 hz1 hw1
  go_wp2
  exact bodyPost_ret (v := .tuple #[.slice g m cp, .agg #[.int .i64 0, .int .i64 0]]) (by simp [results, Tryz.results81, go_sem, c1, c2]) rfl ⟨g, cp, rfl, HP.out.put2 (by decide) c1 c2 _ _, end_head hB _ _⟩
end Go.Proofs.YtajelgjbgehahaaGreat

namespace Go.Proofs.YtajelgjbgehahaaGreat
open Go.RowKit

theorem has_cut2 {k : IntKind} {w : World} {p o n : Nat} {zs : List Int} (h : Has k w (some ⟨p, o, none⟩) n zs) (t l : Nat) (hk : t + l ≤ n) (h0 : 0 < l) : Has k w (some ⟨p, o + t, none⟩) l ((zs.drop t).take l) := by
  obtain ⟨b, off, e, hlt, hc⟩ := h.some (by omega)
  simp only [Option.some.injEq, Addr.mk.injEq, and_true] at e
  obtain ⟨rfl, rfl⟩ := e
  have hl := h.1
  refine ⟨by rw [List.length_take, List.length_drop]; omega, fun n hn => h.2.1 n (List.mem_of_mem_drop (List.mem_of_mem_take hn)), .inr ⟨p, o + t, rfl, hlt, fun i hi => ?_⟩⟩
  have := hc (t + i) (by omega)
  rw [Nat.add_assoc, this]
  simp only [List.getD_eq_getElem?_getD, List.getElem?_take, if_pos hi, List.getElem?_drop]

end Go.Proofs.YtajelgjbgehahaaGreat

namespace Go.Proofs.YtajelgjbgehahaaGreat
open Go.RowKit

/-- the number has no more bits than its field -/
def Fits (ls ws : List Int) (j : Nat) : Prop := ls.getD j 0 ≤ maskN (ws.getD j 0)

set_option maxHeartbeats 1000000 in
set_option maxRecDepth 20000 in
theorem pwrite_bad (a b : Option Addr) (m c n d : Nat) (C A : Int) (ws : List Int) (w : World) (hC : C ≠ 0) (hw : Has .i64 w a m ws)
    (hs : ∀ a c w, Has .i64 w a m ws → Calls Tryz.prog 70 #[HD a m c] w fun e w' => e = .returned (.tuple #[.int .i64 0, .agg #[.int .i64 C, .int .i64 A]]) ∧ Below w.heap.size w w') :
    Calls Tryz.prog 41 #[HD a m c, .slice b n d] w fun e w' => e = .returned (.tuple #[.slice none 0 0, .agg #[.int .i64 C, .int .i64 A]]) ∧ Below w.heap.size w w' := by
  have hc : (C != 0) = true := by simpa using hC
  have HS := hid hs
  clear hs hC
  go_enter Tryz.func41, Tryz.ntmps41
  go_wp2_with fail
  refine (HS.out _ _ _ hw.alloc.alloc).mono ?_
  rintro e w1 ⟨rfl, hb1⟩
  obtain ⟨c0, c1, c2, f1, f2, hz⟩ := head_cells (bl2 hb1)
  clear HS
  go_wp2
  go_region
  go_wp2
  exact bodyPost_ret (v := .tuple #[.slice none 0 0, .agg #[.int .i64 C, .int .i64 A]]) (by simp [results, Tryz.results41, go_sem, c1, c2, hz]) rfl ⟨rfl, (bl_alloc (end_head (bl2 hb1) _ _)).drew⟩

set_option maxHeartbeats 1000000 in
set_option maxRecDepth 20000 in
theorem pwrite_many (a b : Option Addr) (m c n d N : Nat) (ws : List Int) (w : World) (hne : n ≠ m) (hw : Has .i64 w a m ws)
    (hs : ∀ a c w, Has .i64 w a m ws → Calls Tryz.prog 70 #[HD a m c] w fun e w' => e = .returned (.tuple #[.int .i64 N, .agg #[.int .i64 0, .int .i64 0]]) ∧ Below w.heap.size w w') :
    Calls Tryz.prog 41 #[HD a m c, .slice b n d] w fun e w' => e = .returned (.tuple #[.slice none 0 0, .agg #[.int .i64 2, .int .i64 (-1)]]) ∧ Below w.heap.size w w' := by
  have hq : ((n : Int) != (m : Int)) = true := by rw [bne_iff_ne]; omega
  have HS := hid hs
  clear hs hne
  go_enter Tryz.func41, Tryz.ntmps41
  go_wp2_with fail
  refine (HS.out _ _ _ hw.alloc.alloc).mono ?_
  rintro e w1 ⟨rfl, hb1⟩
  obtain ⟨c0, c1, c2, f1, f2, hz⟩ := head_cells (bl2 hb1)
  have hz0 : w.heap.size < w1.heap.size := by omega
  clear HS
  go_wp2
  exact bodyPost_ret (v := .tuple #[.slice none 0 0, .agg #[.int .i64 2, .int .i64 (-1)]]) (by simp [results, Tryz.results41, go_sem, c1, c2, hz]) rfl ⟨rfl, bl_alloc (end_head (bl2 hb1) _ _)⟩

set_option maxHeartbeats 2000000 in
set_option maxRecDepth 20000 in
theorem pwrite_width (a b : Option Addr) (m c d N i : Nat) (ls ws : List Int) (w : World) (hm : m ≤ 1000) (hv : Has .u64 w b m ls) (hw : Has .i64 w a m ws) (hi : i < m) (hgood : ∀ j, j < i → Fits ls ws j) (hbad : ¬ Fits ls ws i)
    (hs : ∀ a c w, Has .i64 w a m ws → Calls Tryz.prog 70 #[HD a m c] w fun e w' => e = .returned (.tuple #[.int .i64 N, .agg #[.int .i64 0, .int .i64 0]]) ∧ Below w.heap.size w w') :
    Calls Tryz.prog 41 #[HD a m c, .slice b m d] w fun e w' => e = .returned (.tuple #[.slice none 0 0, .agg #[.int .i64 6, .int .i64 i]]) ∧ Below w.heap.size w w' := by
  have hq : ((m : Int) != (m : Int)) = false := by simp
  have HS := hid hs
  have HG := hid hgood
  clear hs hgood
  go_enter Tryz.func41, Tryz.ntmps41
  go_wp2_with fail
  refine (HS.out _ _ _ hw.alloc.alloc).mono ?_
  rintro e w1 ⟨rfl, hb1⟩
  have hB1 := told_cells F0 (bl2 hb1)
  obtain ⟨c0, c1, c2, f1, f2, hz⟩ := head_cells (bl2 hb1)
  have hz0 : w.heap.size < w1.heap.size := by omega
  clear HS hb1
  go_wp2
  clear c0 c1 c2 f1 f2 hz hz0
  go_loopw [29] (fun q wr => ∃ k : Nat, k ≤ i ∧ q = .int .i64 k ∧ Below (w.heap.size + 2) ((w.alloc (H0 a m c)).alloc F0) wr) (fun q _ => m - (intOf q).toNat)
  case atStart => exact ⟨0, Nat.zero_le _, rfl, hB1⟩
  case round =>
    obtain ⟨k, hk, rfl, hB⟩ := hrel
    clear hB1
    obtain ⟨p, o, rfl, hpl, hcw⟩ := (hw.alloc.alloc.below hB (by simp)).some (by omega)
    obtain ⟨p2, o2, rfl, hpl2, hcv⟩ := (hv.alloc.alloc.below hB (by simp)).some (by omega)
    have hcx := hcw k (by omega)
    have hcy := hcv k (by omega)
    clear hcw hcv hpl hpl2
    have hkm : (k : Int) < (m : Int) := by omega
    by_cases hki : k = i
    · subst hki
      unfold Fits at hbad
      simp only [List.getD_eq_getElem?_getD] at hbad hcx hcy
      generalize ws[k]?.getD 0 = x at *
      generalize ls[k]?.getD 0 = y at *
      have hb' : maskN x < y := by omega
      clear hbad
      obtain ⟨c0, c1, c2, f1, f2, hz⟩ := head_cells hB
      go_wp2
      go_big_quiet ((go_at_call 71; exact Calls.quiet_of_same (mask_int _ _)))
      go_wp2
      exact bodyPost_ret (v := .tuple #[.slice none 0 0, .agg #[.int .i64 6, .int .i64 k]]) (by simp [results, Tryz.results41, go_sem, c1, c2]) rfl ⟨rfl, below_drewN (end_head hB _ _) _⟩
    · have hg := HG.out k (by omega)
      unfold Fits at hg
      simp only [List.getD_eq_getElem?_getD] at hg hcx hcy
      generalize ws[k]?.getD 0 = x at *
      generalize ls[k]?.getD 0 = y at *
      have hg' : ¬ maskN x < y := by omega
      clear hg
      go_wp2
      go_big_quiet ((go_at_call 71; exact Calls.quiet_of_same (mask_int _ _)))
      go_wp2
      go_roundw
      case rel => exact ⟨k + 1, by omega, by go_num, below_drewN hB _⟩
      case measure => simp [intOf]; omega

set_option maxHeartbeats 2000000 in
set_option maxRecDepth 20000 in
theorem pwrite_good (a b : Option Addr) (m c d N : Nat) (ls ws : List Int) (w : World) (hm : m ≤ 1000) (hv : Has .u64 w b m ls) (hw : Has .i64 w a m ws) (hwide : ∀ j, j < m → Mth.Wide ws j) (hgood : ∀ j, j < m → Fits ls ws j)
    (hs : ∀ a c w, Has .i64 w a m ws → Calls Tryz.prog 70 #[HD a m c] w fun e w' => e = .returned (.tuple #[.int .i64 N, .agg #[.int .i64 0, .int .i64 0]]) ∧ Below w.heap.size w w') :
    Calls Tryz.prog 41 #[HD a m c, .slice b m d] w fun e w' => ∃ g cap', e = .returned (.tuple #[.slice g ((Mth.off ws m + 7) / 8) cap', .agg #[.int .i64 0, .int .i64 0]]) ∧ Has .u8 w' g ((Mth.off ws m + 7) / 8) (Mth.jn ls ws ((Mth.off ws m + 7) / 8) m) ∧ Below w.heap.size w w' := by
  have hq : ((m : Int) != (m : Int)) = false := by simp
  have HS := hid hs
  have HG := hid hgood
  have HD := hid hwide
  clear hs hgood hwide
  go_enter Tryz.func41, Tryz.ntmps41
  go_wp2_with fail
  refine (HS.out _ _ _ hw.alloc.alloc).mono ?_
  rintro e w1 ⟨rfl, hb1⟩
  have hB1 := told_cells F0 (bl2 hb1)
  obtain ⟨c0, c1, c2, f1, f2, hz⟩ := head_cells (bl2 hb1)
  have hz0 : w.heap.size < w1.heap.size := by omega
  clear HS hb1
  go_wp2
  clear c0 c1 c2 f1 f2 hz hz0
  go_loopw [29] (fun q wr => ∃ k : Nat, k ≤ m ∧ q = .int .i64 k ∧ Below (w.heap.size + 2) ((w.alloc (H0 a m c)).alloc F0) wr) (fun q _ => m - (intOf q).toNat)
  case atStart => exact ⟨0, Nat.zero_le _, rfl, hB1⟩
  case round =>
    obtain ⟨k, hk, rfl, hB⟩ := hrel
    clear hB1
    by_cases hki : k < m
    · obtain ⟨p, o, rfl, hpl, hcw⟩ := (hw.alloc.alloc.below hB (by simp)).some (by omega)
      obtain ⟨p2, o2, rfl, hpl2, hcv⟩ := (hv.alloc.alloc.below hB (by simp)).some (by omega)
      have hcx := hcw k (by omega)
      have hcy := hcv k (by omega)
      clear hcw hcv hpl hpl2
      have hkm : (k : Int) < (m : Int) := by omega
      have hg := HG.out k (by omega)
      unfold Fits at hg
      simp only [List.getD_eq_getElem?_getD] at hg hcx hcy
      generalize ws[k]?.getD 0 = x at *
      generalize ls[k]?.getD 0 = y at *
      have hg' : ¬ maskN x < y := by omega
      clear hg
      go_wp2
      go_big_quiet ((go_at_call 71; exact Calls.quiet_of_same (mask_int _ _)))
      go_wp2
      go_roundw
      case rel => exact ⟨k + 1, by omega, by go_num, below_drewN hB _⟩
      case measure => simp [intOf]; omega
    · have ek : k = m := by omega
      subst ek
      obtain ⟨c0, c1, c2, f1, f2, hz⟩ := head_cells hB
      have hvr := hv.alloc.alloc.below hB (by simp)
      have hwr := hw.alloc.alloc.below hB (by simp)
      have RJ := hid (join_good b a k d c ls ws wr hm hvr hwr HD.out)
      clear hvr hwr
      go_wp2_with fail
      refine RJ.out.mono ?_
      rintro e w2 ⟨g, cp, rfl, hj, hb2⟩
      have hB2 := hB.trans (hb2.mono (by omega))
      clear c0 c1 c2 f1 f2 RJ
      obtain ⟨c0, c1, c2, f1, f2, hz2⟩ := head_cells hB2
      have HJ := hid hj
      clear hj hb2
      generalize hL : (Mth.off ws k + 7) / 8 = L at *
      have HL := hid hL
      clear hL
      go_wp2
      rw [HL.out]
      exact bodyPost_ret (v := .tuple #[.slice (some ⟨g, 0, none⟩) L cp, .agg #[.int .i64 0, .int .i64 0]]) (by simp [results, Tryz.results41, go_sem, c1, c2]) rfl ⟨_, cp, rfl, HJ.out.put2 (by decide) c1 c2 _ _, end_head hB2 _ _⟩
end Go.Proofs.YtajelgjbgehahaaGreat

namespace Go.Proofs.YtajelgjbgehahaaGreat
open Go.RowKit

end Go.Proofs.YtajelgjbgehahaaGreat
