/- What the document's Join does. -/
import Derived.Test.YtehejhpgehlifabRef6
namespace Go.Proofs.Ytehejhpgehlifab
open Go.RowKit

theorem numBits_int (v n : Int) (w : World) (hn0 : 0 ≤ n) (hn : n ≤ 64) (hv : 0 ≤ v ∧ v < 18446744073709551616) :
    Calls Try.prog 42 #[.int .u64 v, .int .i64 n] w fun e w' => ∃ x, e = .returned x ∧ w'.ownsRow w.heap.size 5 1 x n.toNat (BB (Mth.nb v.toNat n.toNat n.toNat)) ∧ Below w.heap.size w w' := by
  obtain ⟨v', rfl⟩ := Int.eq_ofNat_of_zero_le hv.1
  obtain ⟨n', rfl⟩ := Int.eq_ofNat_of_zero_le hn0
  exact numBits_any v' n' w (by omega) (by omega)

set_option maxHeartbeats 400000 in
theorem rjoin_many (a b : Option Addr) (n c m d : Nat) (w : World) (h : n ≠ m) :
    Calls Try.prog 34 #[.slice a n c, .slice b m d] w fun e w' => e = .returned (.tuple #[.slice none 0 0, .agg #[.int .i64 2, .int .i64 (-1)]]) ∧ Below w.heap.size w w' := by
  have hne : ((n : Int) != (m : Int)) = true := by rw [bne_iff_ne]; omega
  clear h
  go_enter Try.func34, Try.ntmps34
  go_wp2_with fail
  refine (fault_any _ _ _).mono ?_
  rintro e w1 ⟨rfl, hb1⟩
  have hb1' : Below (w.heap.size + 1) (w.alloc F0) w1 := by simpa using hb1
  obtain ⟨c0, c1, f0, f1, hsz⟩ := fault_cells hb1'
  go_wp2
  exact bodyPost_ret (v := .tuple #[.slice none 0 0, .agg #[.int .i64 2, .int .i64 (-1)]]) (by simp [results, Try.results34, go_sem, c0, c1]) rfl ⟨rfl, end_fault hb1' _ _⟩

set_option maxHeartbeats 2000000 in
theorem rjoin_width (a b : Option Addr) (m c d i : Nat) (ls ws : List Int) (w : World) (hm : m ≤ 1000) (hv : Has .u64 w a m ls) (hw : Has .i64 w b m ws) (hi : i < m) (hgood : ∀ j, j < i → Mth.Wide ws j) (hbad : ¬ Mth.Wide ws i) :
    Calls Try.prog 34 #[.slice a m c, .slice b m d] w fun e w' => e = .returned (.tuple #[.slice none 0 0, .agg #[.int .i64 6, .int .i64 i]]) ∧ Below w.heap.size w w' := by
  have hne : ((m : Int) != (m : Int)) = false := by simp
  have HG : Hid (∀ j, j < i → Mth.Wide ws j) := hgood
  have HB : Hid (¬ Mth.Wide ws i) := hbad
  clear hgood hbad
  obtain ⟨p1, o1, rfl, hp1, hc1⟩ := hw.some (by omega)
  obtain ⟨p2, o2, rfl, hp2, hc2⟩ := hv.some (by omega)
  go_enter Try.func34, Try.ntmps34
  go_wp2
  go_loopw [6, 7] (fun x q wr => ∃ k : Nat, k ≤ i ∧ q = .int .i64 k ∧ wr.ownsRow (w.heap.size + 1) 5 1 x (Mth.off ws k) (BB (Mth.jl ls ws k)) ∧ Below (w.heap.size + 1) (w.alloc F0) wr) (fun _ q _ => m - (intOf q).toNat)
  case atStart => exact ⟨0, Nat.zero_le _, rfl, World.ownsRow_nil _ _ _ _, Below.refl _ _⟩
  case round =>
    obtain ⟨k, hk, rfl, hown, hb⟩ := hrel
    have q1 : wr.cell? ⟨p1, o1 + k, none⟩ = some (.int .i64 (ws.getD k 0)) := (hb.cell (p := ⟨p1, o1 + k, none⟩) (Nat.lt_succ_of_lt hp1)).trans (((bl_alloc (Below.refl w.heap.size w)).cell (p := ⟨p1, o1 + k, none⟩) hp1).trans (hc1 k (by omega)))
    have q2 : wr.cell? ⟨p2, o2 + k, none⟩ = some (.int .u64 (ls.getD k 0)) := (hb.cell (p := ⟨p2, o2 + k, none⟩) (Nat.lt_succ_of_lt hp2)).trans (((bl_alloc (Below.refl w.heap.size w)).cell (p := ⟨p2, o2 + k, none⟩) hp2).trans (hc2 k (by omega)))
    have ho := Mth.off_le ws k (fun j hj => HG.out j (by omega))
    have hkm : (k : Int) < (m : Int) := by omega
    by_cases hki : k = i
    · subst hki
      have hbad := HB.out
      unfold Mth.Wide at hbad
      simp only [List.getD_eq_getElem?_getD] at hbad q1
      generalize ws[k]?.getD 0 = x at *
      clear q2 hc1 hc2 hv hw
      have fin : ∀ (w1 : World), Below wr.heap.size wr w1 → Below (w.heap.size + 1) (w.alloc F0) w1 := fun w1 h1 => hb.trans (h1.mono (by have := hb.size; simpa using this))
      by_cases hx : x < 1
      · go_wp2_with fail
        refine (fault_any _ _ _).mono ?_
        rintro e w1 ⟨rfl, hb1⟩
        have hb1' := fin _ hb1
        obtain ⟨c0, c1, f0, f1, hsz⟩ := fault_cells hb1'
        clear fin hb1 hb
        go_wp2
        exact bodyPost_ret (v := .tuple #[.slice none 0 0, .agg #[.int .i64 6, .int .i64 k]]) (by simp [results, Try.results34, go_sem, c0, c1]) rfl ⟨rfl, end_fault hb1' _ _⟩
      · have hx2 : 64 < x := by omega
        go_wp2_with fail
        refine (fault_any _ _ _).mono ?_
        rintro e w1 ⟨rfl, hb1⟩
        have hb1' := fin _ hb1
        obtain ⟨c0, c1, f0, f1, hsz⟩ := fault_cells hb1'
        clear fin hb1 hb
        go_wp2
        exact bodyPost_ret (v := .tuple #[.slice none 0 0, .agg #[.int .i64 6, .int .i64 k]]) (by simp [results, Try.results34, go_sem, c0, c1]) rfl ⟨rfl, end_fault hb1' _ _⟩
    · have hg := HG.out k (by omega)
      unfold Mth.Wide at hg
      have hoff : Hid (Mth.off ws (k + 1) = Mth.off ws k + (ws.getD k 0).toNat) := rfl
      have hjl : Hid (Mth.jl ls ws (k + 1) = Mth.jl ls ws k ++ Mth.nb (ls.getD k 0).toNat (ws.getD k 0).toNat (ws.getD k 0).toNat) := rfl
      have hly := hv.num k
      simp only [List.getD_eq_getElem?_getD] at hg q1 q2 hoff hjl hly
      generalize ws[k]?.getD 0 = x at *
      generalize ls[k]?.getD 0 = y at *
      clear hc1 hc2 hv hw
      go_wp2
      go_region_law (first
        | (refine step8 rfl (.tmp 34) (.tmp 43) rfl (w.heap.size + 1) (Mth.off ws k) x.toNat cp4 _ _ _ ⟨g4, 0, none⟩ (by simp [Act.eval]) (by simp [Act.eval]) hown' hz4 (by omega) hs4 ?_; intro v5 w5 hown5 hb5; have hb5' := hb4'.trans hb5)
        | (go_simp; go_at_call 42; refine (numBits_int y x _ (by omega) hg.2 hly).mono ?_; rintro e w4 ⟨x4, rfl, hown4, hb4⟩; obtain ⟨g4, cp4, rfl, _, _⟩ := owns_head hown4 (by omega); have hown' := owns_below hown.drew hb4; have hb4' := hb.drew.trans (hb4.mono (by have := hb.size; simpa using this)); have hz4 := has_of_owns hown4 (nb_bytes _ _ _); have hs4 : w.heap.size + 1 ≤ w4.heap.size := (by have := hb4'.size; simpa using this)))
      all_goals
        rw [← hjl.out, ← hoff.out] at hown5
        clear hown hown' hz4 hown4 hb hb4 hb4' hb5
        go_wp2
        go_roundw
        case rel => exact ⟨k + 1, by omega, by go_num, hown5, hb5'⟩
        case measure => simp [intOf]; omega

set_option maxHeartbeats 2000000 in
theorem rjoin_good (a b : Option Addr) (m c d : Nat) (ls ws : List Int) (w : World) (hm : m ≤ 1000) (hv : Has .u64 w a m ls) (hw : Has .i64 w b m ws) (hgood : ∀ j, j < m → Mth.Wide ws j) :
    Calls Try.prog 34 #[.slice a m c, .slice b m d] w fun e w' => ∃ g cap', e = .returned (.tuple #[.slice g ((Mth.off ws m + 7) / 8) cap', .agg #[.int .i64 0, .int .i64 0]]) ∧
      Has .u8 w' g ((Mth.off ws m + 7) / 8) (Mth.jn ls ws ((Mth.off ws m + 7) / 8) m) ∧ Below w.heap.size w w' := by
  have hne : ((m : Int) != (m : Int)) = false := by simp
  have HG : Hid (∀ j, j < m → Mth.Wide ws j) := hgood
  clear hgood
  go_enter Try.func34, Try.ntmps34
  go_wp2
  go_loopw [6, 7] (fun x q wr => ∃ k : Nat, k ≤ m ∧ q = .int .i64 k ∧ wr.ownsRow (w.heap.size + 1) 5 1 x (Mth.off ws k) (BB (Mth.jl ls ws k)) ∧ Below (w.heap.size + 1) (w.alloc F0) wr) (fun _ q _ => m - (intOf q).toNat)
  case atStart => exact ⟨0, Nat.zero_le _, rfl, World.ownsRow_nil _ _ _ _, Below.refl _ _⟩
  case round =>
    obtain ⟨k, hk, rfl, hown, hb⟩ := hrel
    have ho := Mth.off_le ws k (fun j hj => HG.out j (by omega))
    by_cases hlt : k < m
    · obtain ⟨p1, o1, rfl, hp1, hc1⟩ := hw.some (by omega)
      obtain ⟨p2, o2, rfl, hp2, hc2⟩ := hv.some (by omega)
      have q1 : wr.cell? ⟨p1, o1 + k, none⟩ = some (.int .i64 (ws.getD k 0)) := (hb.cell (p := ⟨p1, o1 + k, none⟩) (Nat.lt_succ_of_lt hp1)).trans (((bl_alloc (Below.refl w.heap.size w)).cell (p := ⟨p1, o1 + k, none⟩) hp1).trans (hc1 k (by omega)))
      have q2 : wr.cell? ⟨p2, o2 + k, none⟩ = some (.int .u64 (ls.getD k 0)) := (hb.cell (p := ⟨p2, o2 + k, none⟩) (Nat.lt_succ_of_lt hp2)).trans (((bl_alloc (Below.refl w.heap.size w)).cell (p := ⟨p2, o2 + k, none⟩) hp2).trans (hc2 k (by omega)))
      have hkm : (k : Int) < (m : Int) := by omega
      have hg := HG.out k (by omega)
      unfold Mth.Wide at hg
      have hoff : Hid (Mth.off ws (k + 1) = Mth.off ws k + (ws.getD k 0).toNat) := rfl
      have hjl : Hid (Mth.jl ls ws (k + 1) = Mth.jl ls ws k ++ Mth.nb (ls.getD k 0).toNat (ws.getD k 0).toNat (ws.getD k 0).toNat) := rfl
      have hly := hv.num k
      simp only [List.getD_eq_getElem?_getD] at hg q1 q2 hoff hjl hly
      generalize ws[k]?.getD 0 = x at *
      generalize ls[k]?.getD 0 = y at *
      clear hc1 hc2 hv hw
      go_wp2
      go_region_law (first
        | (refine step8 rfl (.tmp 34) (.tmp 43) rfl (w.heap.size + 1) (Mth.off ws k) x.toNat cp4 _ _ _ ⟨g4, 0, none⟩ (by simp [Act.eval]) (by simp [Act.eval]) hown' hz4 (by omega) hs4 ?_; intro v5 w5 hown5 hb5; have hb5' := hb4'.trans hb5)
        | (go_simp; go_at_call 42; refine (numBits_int y x _ (by omega) hg.2 hly).mono ?_; rintro e w4 ⟨x4, rfl, hown4, hb4⟩; obtain ⟨g4, cp4, rfl, _, _⟩ := owns_head hown4 (by omega); have hown' := owns_below hown.drew hb4; have hb4' := hb.drew.trans (hb4.mono (by have := hb.size; simpa using this)); have hz4 := has_of_owns hown4 (nb_bytes _ _ _); have hs4 : w.heap.size + 1 ≤ w4.heap.size := (by have := hb4'.size; simpa using this)))
      all_goals
        rw [← hjl.out, ← hoff.out] at hown5
        clear hown hown' hz4 hown4 hb hb4 hb4' hb5
        go_wp2
        go_roundw
        case rel => exact ⟨k + 1, by omega, by go_num, hown5, hb5'⟩
        case measure => simp [intOf]; omega
    · have ek : k = m := by omega
      subst ek
      obtain ⟨a1, cp1, rfl, hz1⟩ := has_of_owns8 hown (bits_bytes (Mth.jl_bits ls ws k))
      clear hown
      have hs1 : w.heap.size + 1 ≤ wr.heap.size := by have := hb.size; simpa using this
      go_wp2_with fail
      refine (bytesOf_any _ _ _ _ _ (by omega) hz1 (Mth.jl_bits ls ws k)).mono ?_
      rintro e w7 ⟨x7, rfl, hown7, hb7⟩
      rw [Mth.join_same] at hown7
      have hB7 := hb.trans (hb7.mono hs1)
      obtain ⟨c0, c1, f0, f1, hsz⟩ := fault_cells hB7
      generalize hN : (Mth.off ws k + 7) / 8 = N at hown7
      have HN : Hid ((Mth.off ws k + 7) / 8 = N) := hN
      have HO : Hid (w7.ownsRow wr.heap.size 5 1 x7 N (BB (Mth.jn ls ws N k))) := hown7
      clear hown7 hz1 hN
      go_wp2
      have h2 := ownsRow_setCell_below (ownsRow_setCell_below HO.out (a := ⟨w.heap.size, 0, none⟩) (by exact hs1) (.int .i64 0)) (a := ⟨w.heap.size, 1, none⟩) (by exact hs1) (.int .i64 0)
      obtain ⟨g, cp, eg, hg⟩ := has_of_owns8 h2 (Mth.jn_bytes _ _ _ _)
      rw [eg, HN.out]
      exact bodyPost_ret (v := .tuple #[.slice g N cp, .agg #[.int .i64 0, .int .i64 0]]) (by simp [results, Try.results34, go_sem, c0, c1]) rfl
        ⟨g, cp, rfl, hg, end_fault hB7 _ _⟩
end Go.Proofs.Ytehejhpgehlifab
