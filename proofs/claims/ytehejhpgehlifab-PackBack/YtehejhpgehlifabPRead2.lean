/- What the document's ReadOf does; both are one. -/
import Derived.Test.YtehejhpgehlifabPRead
namespace Go.Proofs.Ytehejhpgehlifab
open Go.RowKit

set_option maxHeartbeats 1000000 in
theorem rread_bad (a b : Option Addr) (m c len d : Nat) (t C A : Int) (ws : List Int) (w : World) (hC : C ≠ 0) (hw : Has .i64 w a m ws)
    (hs : ∀ a c w, Has .i64 w a m ws → Calls Try.prog 15 #[HD a m c] w fun e w' => e = .returned (.tuple #[.int .i64 0, .agg #[.int .i64 C, .int .i64 A]]) ∧ Below w.heap.size w w') :
    Calls Try.prog 17 #[HD a m c, .slice b len d, .int .i64 t] w fun e w' => e = .returned (.tuple #[.slice none 0 0, .agg #[.int .i64 C, .int .i64 A]]) ∧ Below w.heap.size w w' := by
  have hc : (C != 0) = true := by simpa using hC
  have HS := hid hs
  clear hs hC
  go_enter Try.func17, Try.ntmps17
  go_wp2_with fail
  refine (HS.out _ _ _ hw.alloc.alloc).mono ?_
  rintro e w1 ⟨rfl, hb1⟩
  obtain ⟨c0, c1, c2, f1, f2, hz⟩ := head_cells (bl2 hb1)
  clear HS
  go_wp2
  go_region
  go_wp2
  exact bodyPost_ret (v := .tuple #[.slice none 0 0, .agg #[.int .i64 C, .int .i64 A]]) (by simp [results, Try.results17, go_sem, c1, c2, hz]) rfl ⟨rfl, (bl_alloc (end_head (bl2 hb1) _ _)).drew⟩

set_option maxHeartbeats 1000000 in
theorem rread_short (a b : Option Addr) (m c len d N : Nat) (t : Int) (ws : List Int) (w : World) (_ : len ≤ 100000) (hN : N ≤ 32) (hw : Has .i64 w a m ws) (ht : t < 0 ∨ (len : Int) - N < t)
    (hs : ∀ a c w, Has .i64 w a m ws → Calls Try.prog 15 #[HD a m c] w fun e w' => e = .returned (.tuple #[.int .i64 N, .agg #[.int .i64 0, .int .i64 0]]) ∧ Below w.heap.size w w') :
    Calls Try.prog 17 #[HD a m c, .slice b len d, .int .i64 t] w fun e w' => e = .returned (.tuple #[.slice none 0 0, .agg #[.int .i64 3, .int .i64 (-1)]]) ∧ Below w.heap.size w w' := by
  have HS := hid hs
  clear hs
  by_cases h0 : t < 0
  · go_enter Try.func17, Try.ntmps17
    go_wp2_with fail
    refine (HS.out _ _ _ hw.alloc.alloc).mono ?_
    rintro e w1 ⟨rfl, hb1⟩
    have hB := told_cells (.cells #[.int .i64 0, .int .i64 0] 36) (bl2 hb1)
    obtain ⟨c0, c1, c2, f1, f2, hz⟩ := head_cells (bl2 hb1)
    clear HS
    go_wp2_with fail
    refine (fault_any _ _ _).mono ?_
    rintro e w2 ⟨rfl, hb2⟩
    have hB2 := hB.trans (hb2.mono (by simp; omega))
    clear c0 c1 c2 f1 f2 hz hB hb2 hb1
    obtain ⟨c0, c1, c2, f1, f2, hz⟩ := head_cells hB2
    go_wp2
    exact bodyPost_ret (v := .tuple #[.slice none 0 0, .agg #[.int .i64 3, .int .i64 (-1)]]) (by simp [results, Try.results17, go_sem, c1, c2]) rfl ⟨rfl, end_head hB2 _ _⟩
  · have h1 : (len : Int) - N < t := by omega
    clear ht
    by_cases h2 : (len : Int) < t
    · go_enter Try.func17, Try.ntmps17
      go_wp2_with fail
      refine (HS.out _ _ _ hw.alloc.alloc).mono ?_
      rintro e w1 ⟨rfl, hb1⟩
      have hB := told_cells (.cells #[.int .i64 0, .int .i64 0] 36) (bl2 hb1)
      obtain ⟨c0, c1, c2, f1, f2, hz⟩ := head_cells (bl2 hb1)
      clear HS
      go_wp2_with fail
      refine (fault_any _ _ _).mono ?_
      rintro e w2 ⟨rfl, hb2⟩
      have hB2 := hB.trans (hb2.mono (by simp; omega))
      clear c0 c1 c2 f1 f2 hz hB hb2 hb1
      obtain ⟨c0, c1, c2, f1, f2, hz⟩ := head_cells hB2
      go_wp2
      exact bodyPost_ret (v := .tuple #[.slice none 0 0, .agg #[.int .i64 3, .int .i64 (-1)]]) (by simp [results, Try.results17, go_sem, c1, c2]) rfl ⟨rfl, end_head hB2 _ _⟩
    · have h3 : (len : Int) - t < (N : Int) := by omega
      clear h1
      go_enter Try.func17, Try.ntmps17
      go_wp2_with fail
      refine (HS.out _ _ _ hw.alloc.alloc).mono ?_
      rintro e w1 ⟨rfl, hb1⟩
      have hB := told_cells (.cells #[.int .i64 0, .int .i64 0] 36) (bl2 hb1)
      obtain ⟨c0, c1, c2, f1, f2, hz⟩ := head_cells (bl2 hb1)
      clear HS
      go_wp2_with fail
      refine (fault_any _ _ _).mono ?_
      rintro e w2 ⟨rfl, hb2⟩
      have hB2 := hB.trans (hb2.mono (by simp; omega))
      clear c0 c1 c2 f1 f2 hz hB hb2 hb1
      obtain ⟨c0, c1, c2, f1, f2, hz⟩ := head_cells hB2
      go_wp2
      exact bodyPost_ret (v := .tuple #[.slice none 0 0, .agg #[.int .i64 3, .int .i64 (-1)]]) (by simp [results, Try.results17, go_sem, c1, c2]) rfl ⟨rfl, end_head hB2 _ _⟩

theorem has_cut2 {k : IntKind} {w : World} {p o n : Nat} {zs : List Int} (h : Has k w (some ⟨p, o, none⟩) n zs) (t l : Nat) (hk : t + l ≤ n) (h0 : 0 < l) : Has k w (some ⟨p, o + t, none⟩) l ((zs.drop t).take l) := by
  obtain ⟨b, off, e, hlt, hc⟩ := h.some (by omega)
  simp only [Option.some.injEq, Addr.mk.injEq, and_true] at e
  obtain ⟨rfl, rfl⟩ := e
  have hl := h.1
  refine ⟨by rw [List.length_take, List.length_drop]; omega, fun n hn => h.2.1 n (List.mem_of_mem_drop (List.mem_of_mem_take hn)), .inr ⟨p, o + t, rfl, hlt, fun i hi => ?_⟩⟩
  have := hc (t + i) (by omega)
  rw [Nat.add_assoc, this]
  simp only [List.getD_eq_getElem?_getD, List.getElem?_take, if_pos hi, List.getElem?_drop]

set_option maxRecDepth 20000 in
set_option maxHeartbeats 2000000 in
theorem rread_good (a b : Option Addr) (m c len d N t : Nat) (zs ws : List Int) (w : World) (hl : len ≤ 100000) (hd : len ≤ d) (hh : Mth.Head ws m) (hN : Mth.off ws m = 8 * N) (hz : Has .u8 w b len zs) (hw : Has .i64 w a m ws) (ht2 : t + N ≤ len)
    (hs : ∀ a c w, Has .i64 w a m ws → Calls Try.prog 15 #[HD a m c] w fun e w' => e = .returned (.tuple #[.int .i64 N, .agg #[.int .i64 0, .int .i64 0]]) ∧ Below w.heap.size w w') :
    Calls Try.prog 17 #[HD a m c, .slice b len d, .int .i64 t] w fun e w' => ∃ g cap', e = .returned (.tuple #[.slice g m cap', .agg #[.int .i64 0, .int .i64 0]]) ∧ Has .u64 w' g m (Mth.parts zs ((8 * t : Nat) : Int) ws m) ∧ Below w.heap.size w w' := by
  have HS := hid hs
  have hg := fun j hj => read_code N N 0 ws m j (Int.le_refl _) (by omega) hh.2.2.1 hN hj
  simp only [Int.zero_mul] at hg
  have HG := hid hg
  have hm : m ≤ 1000 := by have := hh.2.1; omega
  have h32 : N ≤ 32 := by have := hh.2.2.2.2; omega
  have h1N : 1 ≤ N := by
    have h1 := Mth.off_mono ws 1 m hh.1
    have h2 := hh.2.2.1 0 (by have := hh.1; omega)
    unfold Mth.Fit at h2
    simp only [Mth.off] at h1
    omega
  have HP := hid (Mth.cut_parts zs ws t N m (by omega))
  clear hs hg hN hh
  obtain ⟨p, o, rfl, hpl, _⟩ := hz.some (by omega)
  go_enter Try.func17, Try.ntmps17
  go_wp2_with fail
  refine (HS.out _ _ _ hw.alloc.alloc).mono ?_
  rintro e w1 ⟨rfl, hb1⟩
  obtain ⟨c0, c1, c2, f1, f2, hsz⟩ := head_cells (bl2 hb1)
  have hz1 := (has_cut2 (hz.alloc.alloc.step hb1) t N ht2 (by omega)).alloc (o := F0)
  have hw1 := (hw.alloc.alloc.step hb1).alloc (o := F0)
  clear HS
  have hsz0 : w.heap.size < w1.heap.size := by omega
  have hz2 : Has .u8 (w1.alloc F0).drew (some ⟨p, o + t, none⟩) N ((zs.drop t).take N) := hz1
  have hw2 : Has .i64 (w1.alloc F0).drew a m ws := hw1
  have RP := hid (rpart_good _ _ N (d - t) m c 0 _ ws (w1.alloc F0).drew (by omega) hm hz2 hw2 HG.out)
  have hB0 := (told_cells F0 (bl2 hb1)).drew
  have hS : w.heap.size + 2 ≤ (w1.alloc F0).drew.heap.size := by
    have : (w1.alloc F0).drew.heap.size = w1.heap.size + 1 := by simp
    omega
  have HB := hid hB0
  have HSS := hid hS
  clear hz1 hw1 hz hw hz2 hw2 hB0 hS
  go_wp2
  obtain ⟨u, hu⟩ : ∃ u, u = t + N := ⟨_, rfl⟩
  have hwu : IntKind.i64.wrap ((t : Int) + (N : Int)) = (u : Int) := by rw [wrap_small _ (by omega) (by omega)]; omega
  have e1 : t ≤ u := by omega
  have e2 : u ≤ d := by omega
  have e3 : u - t = N := by omega
  have n4 : ¬ d = t := by omega
  clear hu
  go_region_with (go_at_call 30; refine RP.out.mono ?_; rintro e w2 ⟨g, cp, rfl, hp, hb2⟩; have hB := HB.out.trans (hb2.mono HSS.out); obtain ⟨d0, d1, d2, g1, g2, hsz2⟩ := head_cells hB)
  all_goals (
    rw [HP.out] at hp
    have HQ := hid hp
    clear hp RP HB HSS c0 c1 c2 f1 f2
    go_wp2
    exact bodyPost_ret (v := .tuple #[.slice g m cp, .agg #[.int .i64 0, .int .i64 0]]) (by simp [results, Try.results17, go_sem, d1, d2]) rfl ⟨g, cp, rfl, HQ.out.put2 (by decide) d1 d2 _ _, end_head hB _ _⟩)

theorem size_good {m : Nat} {ws : List Int} (h : Mth.Head ws m) : 
    (∀ a c w, Has .i64 w a m ws → Calls Try.prog 14 #[HD a m c] w fun e w' => e = .returned (.tuple #[.int .i64 ((Mth.off ws m / 8 : Nat) : Int), .agg #[.int .i64 0, .int .i64 0]]) ∧ Below w.heap.size w w') ∧
    (∀ a c w, Has .i64 w a m ws → Calls Try.prog 15 #[HD a m c] w fun e w' => e = .returned (.tuple #[.int .i64 ((Mth.off ws m / 8 : Nat) : Int), .agg #[.int .i64 0, .int .i64 0]]) ∧ Below w.heap.size w w') := by
  rcases size_both m ws with ⟨_, h2⟩ | ⟨h2, _⟩
  · exact h2
  · exact absurd h h2

theorem size_bad {m : Nat} {ws : List Int} (h : ¬ Mth.Head ws m) : ∃ C A : Int, C ≠ 0 ∧
    (∀ a c w, Has .i64 w a m ws → Calls Try.prog 14 #[HD a m c] w fun e w' => e = .returned (.tuple #[.int .i64 0, .agg #[.int .i64 C, .int .i64 A]]) ∧ Below w.heap.size w w') ∧
    (∀ a c w, Has .i64 w a m ws → Calls Try.prog 15 #[HD a m c] w fun e w' => e = .returned (.tuple #[.int .i64 0, .agg #[.int .i64 C, .int .i64 A]]) ∧ Below w.heap.size w w') := by
  rcases size_both m ws with ⟨h2, _⟩ | ⟨_, h2⟩
  · exact absurd h2 h
  · exact h2

/-- what both tell of the fields: they, or a fault -/
theorem read_both (len m : Nat) (t : Int) (zs ws : List Int) (hl : len ≤ 100000) :
    (Mth.Head ws m ∧ (∃ u : Nat, t = u ∧ u + Mth.off ws m / 8 ≤ len) ∧
      (∀ a c b d w, len ≤ d → Has .i64 w a m ws → Has .u8 w b len zs → Calls Try.prog 16 #[HD a m c, .slice b len d, .int .i64 t] w fun e w' => ∃ g cap', e = .returned (.tuple #[.slice g m cap', .agg #[.int .i64 0, .int .i64 0]]) ∧ Has .u64 w' g m (Mth.parts zs (8 * t) ws m) ∧ Below w.heap.size w w') ∧
      (∀ a c b d w, len ≤ d → Has .i64 w a m ws → Has .u8 w b len zs → Calls Try.prog 17 #[HD a m c, .slice b len d, .int .i64 t] w fun e w' => ∃ g cap', e = .returned (.tuple #[.slice g m cap', .agg #[.int .i64 0, .int .i64 0]]) ∧ Has .u64 w' g m (Mth.parts zs (8 * t) ws m) ∧ Below w.heap.size w w')) ∨
    (∃ C A : Int, C ≠ 0 ∧
      (∀ a c b d w, Has .i64 w a m ws → Calls Try.prog 16 #[HD a m c, .slice b len d, .int .i64 t] w fun e w' => e = .returned (.tuple #[.slice none 0 0, .agg #[.int .i64 C, .int .i64 A]]) ∧ Below w.heap.size w w') ∧
      (∀ a c b d w, Has .i64 w a m ws → Calls Try.prog 17 #[HD a m c, .slice b len d, .int .i64 t] w fun e w' => e = .returned (.tuple #[.slice none 0 0, .agg #[.int .i64 C, .int .i64 A]]) ∧ Below w.heap.size w w')) := by
  by_cases hh : Mth.Head ws m
  · obtain ⟨s1, s2⟩ := size_good hh
    have hN : Mth.off ws m = 8 * (Mth.off ws m / 8) := by have := hh.2.2.2.1; omega
    have h32 : Mth.off ws m / 8 ≤ 32 := by have := hh.2.2.2.2; omega
    by_cases ht : t < 0 ∨ (len : Int) - (Mth.off ws m / 8 : Nat) < t
    · right
      exact ⟨3, -1, by decide, fun a c b d w hw => pread_short a b m c len d _ t ws w hl h32 hw ht s1, fun a c b d w hw => rread_short a b m c len d _ t ws w hl h32 hw ht s2⟩
    · left
      obtain ⟨u, rfl⟩ := Int.eq_ofNat_of_zero_le (show 0 ≤ t by omega)
      refine ⟨hh, ⟨u, rfl, by omega⟩, fun a c b d w _ hw hz => ?_, fun a c b d w hd hw hz => ?_⟩
      · rw [Int.mul_comm]
        exact pread_good a b m c len d _ u zs ws w hl hh hN hz hw (by omega) (by omega) s1
      · have := rread_good a b m c len d _ u zs ws w hl hd hh hN hz hw (by omega) s2
        rw [show ((8 * u : Nat) : Int) = 8 * (u : Int) from by omega] at this
        exact this
  · obtain ⟨C, A, hC, s1, s2⟩ := size_bad hh
    right
    exact ⟨C, A, hC, fun a c b d w hw => pread_bad a b m c len d t C A ws w hC hw s1, fun a c b d w hw => rread_bad a b m c len d t C A ws w hC hw s2⟩
end Go.Proofs.Ytehejhpgehlifab
