/- What bits.Join does. -/
import Derived.Test.YtehejhpgehlifabBegun
import Derived.Test.YtehejhpgehlifabJMath
namespace Go.Proofs.Ytehejhpgehlifab
open Go.RowKit

theorem write_int (base g len cap : Nat) (t n v : Int) (zs : List Int) (w : World) (hlen : zs.length = len) (hb : Mth.Bytes zs) (hl : len ≤ 100000) (ht : 0 ≤ t) (hn0 : 0 ≤ n) (hn : n ≤ 64) (hv : 0 ≤ v ∧ v < 18446744073709551616) (htn : t + n ≤ 8 * (len : Int))
    (hown : w.ownsRow base 5 1 (.slice (some ⟨g, 0, none⟩) len cap) len (BB zs)) :
    Calls Try.prog 40 #[.slice (some ⟨g, 0, none⟩) len cap, .int .i64 t, .int .i64 n, .int .u64 v] w fun e w' => e = .returned (.tuple #[]) ∧
      w'.ownsRow base 5 1 (.slice (some ⟨g, 0, none⟩) len cap) len (BB (Mth.wr zs t.toNat n.toNat v.toNat n.toNat)) ∧ w.grownBy w' (some g) := by
  obtain ⟨t', rfl⟩ := Int.eq_ofNat_of_zero_le ht
  obtain ⟨n', rfl⟩ := Int.eq_ofNat_of_zero_le hn0
  obtain ⟨v', rfl⟩ := Int.eq_ofNat_of_zero_le hv.1
  exact write_any base g len cap t' n' v' zs w hlen hb hl (by omega) (by omega) (by omega) hown

set_option maxHeartbeats 400000 in
theorem join_many (a b : Option Addr) (n c m d : Nat) (w : World) (h : n ≠ m) :
    Calls Try.prog 32 #[.slice a n c, .slice b m d] w fun e w' => e = .returned (.tuple #[.slice none 0 0, .agg #[.int .i64 2, .int .i64 (-1)]]) ∧ Below w.heap.size w w' := by
  have hne : ((n : Int) != (m : Int)) = true := by rw [bne_iff_ne]; omega
  clear h
  go_enter Try.func32, Try.ntmps32
  go_wp2
  exact bodyPost_ret (v := .tuple #[.slice none 0 0, .agg #[.int .i64 2, .int .i64 (-1)]]) (by simp [results, Try.results32, go_sem]) rfl ⟨rfl, (Below.refl _ _).alloc (Nat.le_refl _) _⟩

set_option maxHeartbeats 1000000 in
theorem join_width (a b : Option Addr) (m c d i : Nat) (ws : List Int) (w : World) (hm : m ≤ 1000) (hw : Has .i64 w b m ws) (hi : i < m) (hgood : ∀ j, j < i → Mth.Wide ws j) (hbad : ¬ Mth.Wide ws i) :
    Calls Try.prog 32 #[.slice a m c, .slice b m d] w fun e w' => e = .returned (.tuple #[.slice none 0 0, .agg #[.int .i64 6, .int .i64 i]]) ∧ Below w.heap.size w w' := by
  have hne : ((m : Int) != (m : Int)) = false := by simp
  obtain ⟨p, o, rfl, hlt, hcell⟩ := hw.some (by omega)
  have hcell' : Hid (∀ i, i < m → (w.alloc (.cells #[.int .i64 0, .int .i64 0] 36)).cell? ⟨p, o + i, none⟩ = some (.int .i64 (ws.getD i 0))) := fun i hi =>
    ((bl_alloc (Below.refl w.heap.size w)).cell (p := ⟨p, o + i, none⟩) hlt).trans (hcell i hi)
  clear hcell hw
  go_enter Try.func32, Try.ntmps32
  go_wp2
  go_loop [6, 21] (fun t q => ∃ k : Nat, k ≤ i ∧ q = .int .i64 k ∧ t = .int .i64 (Mth.off ws k)) (fun _ q => m - (intOf q).toNat)
  case atStart => exact ⟨0, Nat.zero_le _, rfl, rfl⟩
  case round =>
    obtain ⟨k, hk, rfl, rfl⟩ := hrel
    have hcx := hcell'.out k (by omega)
    have ho := Mth.off_le ws k (fun j hj => hgood j (by omega))
    by_cases hki : k = i
    · subst hki
      unfold Mth.Wide at hbad
      simp only [List.getD_eq_getElem?_getD] at hbad hcx
      generalize ws[k]?.getD 0 = x at *
      go_wp2_with fail
      refine (isWidth_no _ _ (by omega)).mono ?_
      rintro e w' ⟨rfl, rfl⟩
      go_wp2
      exact bodyPost_ret (v := .tuple #[.slice none 0 0, .agg #[.int .i64 6, .int .i64 k]]) (by simp [results, Try.results32, go_sem]) rfl ⟨rfl, (Below.refl _ _).alloc (Nat.le_refl _) _⟩
    · have hg := hgood k (by omega)
      unfold Mth.Wide at hg
      have hoff : Hid (Mth.off ws (k + 1) = Mth.off ws k + (ws.getD k 0).toNat) := rfl
      simp only [List.getD_eq_getElem?_getD] at hg hcx hoff
      generalize ws[k]?.getD 0 = x at *
      go_wp2_with fail
      refine (isWidth_yes _ _ hg.1 hg.2).mono ?_
      rintro e w' ⟨rfl, rfl⟩
      go_wp2
      go_round
      case rel => exact ⟨k + 1, by omega, by go_num, vint (by rw [hoff.out]; omega)⟩
      case measure => simp [intOf]; omega

abbrev F0 : Obj := .cells #[.int .i64 0, .int .i64 0] 36

theorem Has.num {w : World} {a : Option Addr} {len : Nat} {zs : List Int} (h : Has .u64 w a len zs) (i : Nat) : 0 ≤ zs.getD i 0 ∧ zs.getD i 0 < 18446744073709551616 := by
  by_cases hi : i < zs.length
  · have := bounds_u64 (h.2.1 zs[i] (List.getElem_mem hi))
    simp only [List.getD_eq_getElem?_getD, List.getElem?_eq_getElem hi, Option.getD_some]
    omega
  · simp [List.getD_eq_getElem?_getD, List.getElem?_eq_none (Nat.le_of_not_lt hi)]

theorem fault_cells {w wr : World} (hb : Below (w.heap.size + 1) (w.alloc F0) wr) :
    wr.cell? ⟨w.heap.size, 0, none⟩ = some (.int .i64 0) ∧ wr.cell? ⟨w.heap.size, 1, none⟩ = some (.int .i64 0) ∧ wr.frozen? ⟨w.heap.size, 0, none⟩ = false ∧ wr.frozen? ⟨w.heap.size, 1, none⟩ = false ∧ w.heap.size < wr.heap.size :=
  ⟨(hb.cell (p := ⟨w.heap.size, 0, none⟩) (by simp)).trans (by simp), (hb.cell (p := ⟨w.heap.size, 1, none⟩) (by simp)).trans (by simp),
   (hb.frozen (p := ⟨w.heap.size, 0, none⟩) (by simp)).trans (by simp), (hb.frozen (p := ⟨w.heap.size, 1, none⟩) (by simp)).trans (by simp), by have := hb.size; simp at this; omega⟩

theorem made_zero (n : Nat) : (madeCells (Value.int .u8 0).cells (n * 1)).toList = BB (List.replicate n 0) := by
  rw [Nat.mul_one]
  have := toList_madeCells_one (.int .u8 0) n
  simp only [BB, List.map_replicate]
  exact this

set_option maxHeartbeats 2000000 in
theorem join_good (a b : Option Addr) (m c d : Nat) (ls ws : List Int) (w : World) (hm : m ≤ 1000) (hv : Has .u64 w a m ls) (hw : Has .i64 w b m ws) (hgood : ∀ j, j < m → Mth.Wide ws j) :
    Calls Try.prog 32 #[.slice a m c, .slice b m d] w fun e w' => ∃ g cap', e = .returned (.tuple #[.slice (some ⟨g, 0, none⟩) ((Mth.off ws m + 7) / 8) cap', .agg #[.int .i64 0, .int .i64 0]]) ∧
      Has .u8 w' (some ⟨g, 0, none⟩) ((Mth.off ws m + 7) / 8) (Mth.jn ls ws ((Mth.off ws m + 7) / 8) m) ∧ Below w.heap.size w w' := by
  have hne : ((m : Int) != (m : Int)) = false := by simp
  have HG : Hid (∀ j, j < m → Mth.Wide ws j) := hgood
  have ho := Mth.off_le ws m hgood
  obtain ⟨i0, hi, hz0, hz1, hz2⟩ := info_parts Try.info5
  clear hgood
  go_enter Try.func32, Try.ntmps32
  go_wp2
  go_loop [6, 21] (fun t q => ∃ k : Nat, k ≤ m ∧ q = .int .i64 k ∧ t = .int .i64 (Mth.off ws k)) (fun _ q => m - (intOf q).toNat)
  case atStart => exact ⟨0, Nat.zero_le _, rfl, rfl⟩
  case round =>
    obtain ⟨k, hk, rfl, rfl⟩ := hrel
    by_cases hlt : k < m
    · obtain ⟨p, o, rfl, hpl, hcell⟩ := hw.some (by omega)
      have hcx := ((bl_alloc (o := .cells #[.int .i64 0, .int .i64 0] 36) (Below.refl w.heap.size w)).cell (p := ⟨p, o + k, none⟩) hpl).trans (hcell k hlt)
      clear hcell
      have hg := HG.out k hlt
      have ho := Mth.off_le ws k (fun j hj => HG.out j (by omega))
      unfold Mth.Wide at hg
      have hoff : Hid (Mth.off ws (k + 1) = Mth.off ws k + (ws.getD k 0).toNat) := rfl
      simp only [List.getD_eq_getElem?_getD] at hg hcx hoff
      generalize ws[k]?.getD 0 = x at *
      go_wp2_with fail
      refine (isWidth_yes _ _ hg.1 hg.2).mono ?_
      rintro e w' ⟨rfl, rfl⟩
      go_wp2
      go_round
      case rel => exact ⟨k + 1, by omega, by go_num, vint (by rw [hoff.out]; omega)⟩
      case measure => simp [intOf]; omega
    · have ek : k = m := by omega
      subst ek
      generalize hN : (Mth.off ws k + 7) / 8 = N at *
      have HN : Hid ((Mth.off ws k + 7) / 8 = N) := hN
      clear hN
      go_wp2_with (at_make; refine wpList_make_full _ rfl _ _ 22 rfl (w.heap.size + 1) 5 i0 (.int .u8 0) 1 Try.underlying22 hi hz0 hz1 _ _ _ _ N rfl rfl ?m1 ?m2 ?m3 ?m4 ?m5 ?_)
      case m1 => rw [← HN.out]; omega
      case m2 => rw [← HN.out]; omega
      case m3 => rw [← HN.out]; omega
      case m4 => rw [← HN.out]; unfold maxLen; omega
      intro w1 hown0 hgr
      have hb1 : Below (w.heap.size + 1) (w.alloc F0) w1 := (Below.refl _ _).grown hgr (by simp) (by intro k hk; simp at hk)
      have hown : w1.ownsRow (w.heap.size + 1) 5 1 (.slice (some ⟨w.heap.size + 1, 0, none⟩) N N) N (BB (Mth.jn ls ws N 0)) := by
        have e := made_zero N
        rw [Nat.mul_one] at e
        rw [Mth.jn, ← e]
        exact hown0
      clear hown0 hgr
      go_wp2
      go_loopw [10, 42] (fun t q wr => ∃ j : Nat, j ≤ k ∧ q = .int .i64 j ∧ t = .int .i64 (Mth.off ws j) ∧ wr.ownsRow (w.heap.size + 1) 5 1 (.slice (some ⟨w.heap.size + 1, 0, none⟩) N N) N (BB (Mth.jn ls ws N j)) ∧ Below (w.heap.size + 1) (w.alloc F0) wr) (fun _ q _ => k - (intOf q).toNat)
      case atStart => exact ⟨0, Nat.zero_le _, rfl, rfl, hown, hb1⟩
      case round =>
        obtain ⟨j, hj, rfl, rfl, hownj, hbj⟩ := hrel
        clear hown hb1
        by_cases hjk : j < k
        · obtain ⟨p, o, rfl, hpl, hcell⟩ := hw.some (by omega)
          obtain ⟨p2, o2, rfl, hpl2, hcell2⟩ := hv.some (by omega)
          have hcx : wr.cell? ⟨p, o + j, none⟩ = some (.int .i64 (ws.getD j 0)) := (hbj.cell (p := ⟨p, o + j, none⟩) (Nat.lt_succ_of_lt hpl)).trans (((bl_alloc (Below.refl w.heap.size w)).cell (p := ⟨p, o + j, none⟩) hpl).trans (hcell j hjk))
          have hcy : wr.cell? ⟨p2, o2 + j, none⟩ = some (.int .u64 (ls.getD j 0)) := (hbj.cell (p := ⟨p2, o2 + j, none⟩) (Nat.lt_succ_of_lt hpl2)).trans (((bl_alloc (Below.refl w.heap.size w)).cell (p := ⟨p2, o2 + j, none⟩) hpl2).trans (hcell2 j hjk))
          clear hcell hcell2
          have hg := HG.out j hjk
          have hoj := Mth.off_mono ws (j + 1) k (by omega)
          have hoff : Hid (Mth.off ws (j + 1) = Mth.off ws j + (ws.getD j 0).toNat) := rfl
          have hjn : Hid (Mth.jn ls ws N (j + 1) = Mth.wr (Mth.jn ls ws N j) (Mth.off ws j) (ws.getD j 0).toNat (ls.getD j 0).toNat (ws.getD j 0).toNat) := rfl
          have hly := hv.num j
          unfold Mth.Wide at hg
          rw [hoff.out] at hoj
          simp only [List.getD_eq_getElem?_getD] at hg hcx hcy hoff hjn hly hoj
          generalize ws[j]?.getD 0 = x at *
          generalize ls[j]?.getD 0 = y at *
          have hlenj := Mth.jn_length ls ws N j
          have hbyj := Mth.jn_bytes ls ws N j
          have HL : Hid ((Mth.jn ls ws N j).length = N) := hlenj
          clear hlenj
          have hN7 : Mth.off ws k ≤ 8 * N ∧ N ≤ 100000 := by rw [← HN.out]; omega
          go_wp2_with fail
          refine (write_int _ _ N N _ _ _ _ wr HL.out hbyj hN7.2 (by omega) (by omega) hg.2 hly (by omega) hownj).mono ?_
          rintro e w2 ⟨rfl, hown2, hgr2⟩
          have hb2 := hbj.grown hgr2 (by have := hbj.size; simpa using this) (by intro q hq; simp only [Option.some.injEq] at hq; omega)
          rw [Int.toNat_natCast, ← hjn.out] at hown2
          clear hownj hbj
          go_wp2
          go_roundw
          case rel => exact ⟨j + 1, by omega, by go_num, vint (by rw [hoff.out]; omega), hown2, hb2⟩
          case measure => simp [intOf]; omega
        · have ej : j = k := by omega
          subst ej
          obtain ⟨c0, c1, f0, f1, hsz⟩ := fault_cells hbj
          have HO : Hid (wr.ownsRow (w.heap.size + 1) 5 1 (.slice (some ⟨w.heap.size + 1, 0, none⟩) N N) N (BB (Mth.jn ls ws N j))) := hownj
          clear hownj
          go_wp2
          have h2 := ownsRow_setCell_below (ownsRow_setCell_below HO.out (a := ⟨w.heap.size, 0, none⟩) (Nat.lt_succ_self _) (.int .i64 0)) (a := ⟨w.heap.size, 1, none⟩) (Nat.lt_succ_self _) (.int .i64 0)
          rw [HN.out]
          exact bodyPost_ret (v := .tuple #[.slice (some ⟨w.heap.size + 1, 0, none⟩) N N, .agg #[.int .i64 0, .int .i64 0]]) (by simp [results, Try.results32, go_sem, c0, c1]) rfl
            ⟨w.heap.size + 1, N, rfl, has_of_owns h2 (Mth.jn_bytes _ _ _ _), ((((Below.refl w.heap.size w).alloc (Nat.le_refl _) _).trans (hbj.mono (Nat.le_succ _))).setCell (Nat.le_refl _) _).setCell (Nat.le_refl _) _⟩
end Go.Proofs.Ytehejhpgehlifab
