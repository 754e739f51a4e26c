/- The document's WidthOf; how many numbers a step takes, by both. -/
import Derived.Test.YtlnkfgdepddmladGreatVQWidth
namespace Go.Proofs.YtlnkfgdepddmladGreat
open Go.RowKit

set_option maxHeartbeats 2000000 in
set_option maxRecDepth 20000 in
theorem widthOf_any (d : PlanD) (h f : Int) (aa : Option Addr) (an ac : Nat) (zs : List Int) (w : World) (hl : d.lie w) (hz : Has .i64 w aa an zs) :
    Calls Tryz.prog 117 #[d.v, .agg #[.int .i64 h, .int .i64 f], .slice aa an ac] w fun e w' => e = .returned (.int .i64 (widthC d h f zs)) ∧ Below w.heap.size w w' := by
  have bw2 : ∀ o o', Below w.heap.size w ((w.alloc o).alloc o') := fun o o' => bl_alloc (bl_alloc (Below.refl _ _))
  have bw3 : ∀ o o' o'', Below w.heap.size w (((w.alloc o).alloc o').alloc o'') := fun o o' o'' => bl_alloc (bl_alloc (bl_alloc (Below.refl _ _)))
  -- the list of the place, wherever it lies behind the two boxes
  by_cases h3 : h = -3
  · subst h3
    have e3 : fieldsL d (-3) zs = [16] := by simp [fieldsL]
    clear hl hz
    by_cases h0 : f = 0
    · subst h0
      have hr : Hid (widthC d (-3) 0 zs = 16) := by simp [Hid, widthC, e3]
      clear e3
      go_enter Tryz.func117, Tryz.ntmps117
      go_wp2
      go_ret
      exact ⟨by rw [hr.out]; rfl, bw3 _ _ _⟩
    · have hr : Hid (widthC d (-3) f zs = 0) := width_out (by rw [e3]; simp; omega)
      clear e3
      go_enter Tryz.func117, Tryz.ntmps117
      go_wp2
      all_goals (first | (exfalso; omega) | (go_ret; exact ⟨by rw [hr.out]; rfl, bw3 _ _ _⟩))
  obtain ⟨s, es, hs⟩ : ∃ s : QSl, (h = -1 ∧ s = d.mta ∨ h = -2 ∧ s = ⟨aa, an, ac⟩ ∨ (¬ h = -1 ∧ ¬ h = -2 ∧ (h < 0 ∨ (d.heads.n : Int) ≤ h)) ∧ s = ⟨none, 0, 0⟩ ∨ (∃ k : Nat, h = k ∧ k < d.heads.n ∧ ∃ g off, d.heads.a = some ⟨g, off, none⟩ ∧ w.cell? ⟨g, off + k, none⟩ = some (.slice s.a s.n s.c))) ∧ Has .i64 w s.a s.n (fieldsL d h zs) := by
    by_cases h1 : h = -1
    · exact ⟨d.mta, .inl ⟨h1, rfl⟩, by rw [show fieldsL d h zs = d.ms by simp [fieldsL, h1]]; exact hl.ms⟩
    by_cases h2 : h = -2
    · exact ⟨⟨aa, an, ac⟩, .inr (.inl ⟨h2, rfl⟩), by rw [show fieldsL d h zs = zs by simp [fieldsL, h2]]; exact hz⟩
    by_cases h4 : h < 0 ∨ (d.heads.n : Int) ≤ h
    · exact ⟨⟨none, 0, 0⟩, .inr (.inr (.inl ⟨⟨h1, h2, h4⟩, rfl⟩)), by rw [show fieldsL d h zs = [] by simp only [fieldsL, if_neg h1, if_neg h2, if_neg h3, if_pos h4]]; exact has_nil _ _⟩
    · obtain ⟨k, rfl⟩ : ∃ k : Nat, h = k := ⟨h.toNat, by omega⟩
      have hk : k < d.heads.n := by omega
      obtain ⟨g, off, ea, hd⟩ := head_at hl hk
      exact ⟨(d.hs.getD k HeadD.z).w, .inr (.inr (.inr ⟨k, rfl, hk, g, off, ea, hd.1.1⟩)), by rw [show fieldsL d k zs = (d.hs.getD k HeadD.z).ws by simp only [fieldsL, if_neg h1, if_neg h2, if_neg h3, if_neg h4, Int.toNat_natCast]]; exact hd.2⟩
  clear hl hz
  have hn := hs.1
  by_cases h0 : f < 0 ∨ (s.n : Int) ≤ f
  · have hr : Hid (widthC d h f zs = 0) := width_out (by rw [hn]; exact h0)
    clear hs hn bw3
    rcases es with ⟨rfl, rfl⟩ | ⟨rfl, rfl⟩ | ⟨⟨h1, h2, h4⟩, rfl⟩ | ⟨k, rfl, hk, g, off, ea, hc⟩
    · go_enter Tryz.func117, Tryz.ntmps117
      go_wp2
      all_goals (first | (exfalso; omega) | (go_ret; exact ⟨by rw [hr.out]; rfl, bw2 _ _⟩))
    · dsimp only at h0
      go_enter Tryz.func117, Tryz.ntmps117
      go_wp2
      all_goals (first | (exfalso; omega) | (go_ret; exact ⟨by rw [hr.out]; rfl, bw2 _ _⟩))
    · dsimp only at h0
      go_enter Tryz.func117, Tryz.ntmps117
      go_wp2
      all_goals (first | (exfalso; omega) | (go_ret; exact ⟨by rw [hr.out]; rfl, bw2 _ _⟩))
    · have hc' : ∀ o o', ((w.alloc o).alloc o').cell? ⟨g, off + k, none⟩ = some (.slice s.a s.n s.c) := fun o o' => cell_keep hc (bw2 o o')
      clear hc
      go_enter Tryz.func117, Tryz.ntmps117
      go_wp2
      all_goals (first | (exfalso; omega) | (go_ret; exact ⟨by rw [hr.out]; rfl, bw2 _ _⟩))
  · obtain ⟨j, rfl⟩ : ∃ j : Nat, f = j := ⟨f.toNat, by omega⟩
    have hj : j < s.n := by omega
    have hr : Hid (widthC d h j zs = (fieldsL d h zs).getD j 0) := width_in (by rw [hn]; exact hj)
    obtain ⟨g', off', ea', hc0⟩ := look_int hs hj
    clear hs hn bw3
    generalize (fieldsL d h zs).getD j 0 = r at *
    have hcj : ∀ o o', ((w.alloc o).alloc o').cell? ⟨g', off' + j, none⟩ = some (.int .i64 r) := fun o o' => cell_keep hc0 (bw2 o o')
    clear hc0
    rcases es with ⟨rfl, rfl⟩ | ⟨rfl, rfl⟩ | ⟨⟨h1, h2, h4⟩, rfl⟩ | ⟨k, rfl, hk, g, off, ea, hc⟩
    · go_enter Tryz.func117, Tryz.ntmps117
      go_wp2
      all_goals (first | (exfalso; omega) | (go_ret; exact ⟨by rw [hr.out]; rfl, bw2 _ _⟩))
    · dsimp only at h0 hj ea'
      go_enter Tryz.func117, Tryz.ntmps117
      go_wp2
      all_goals (first | (exfalso; omega) | (go_ret; exact ⟨by rw [hr.out]; rfl, bw2 _ _⟩))
    · exact absurd hj (by simp)
    · have hc' : ∀ o o', ((w.alloc o).alloc o').cell? ⟨g, off + k, none⟩ = some (.slice s.a s.n s.c) := fun o o' => cell_keep hc (bw2 o o')
      clear hc
      go_enter Tryz.func117, Tryz.ntmps117
      go_wp2
      all_goals (first | (exfalso; omega) | (go_ret; exact ⟨by rw [hr.out]; rfl, bw2 _ _⟩))

def takesC (op : Int) : Int := if op = 1 ∨ op = 2 then 0 else if op = 13 then 1 else if 3 ≤ op ∧ op ≤ 12 then 2 else -1

theorem takes_ways (op : Int) : op = 1 ∨ op = 2 ∨ op = 3 ∨ op = 4 ∨ op = 5 ∨ op = 6 ∨ op = 7 ∨ op = 8 ∨ op = 9 ∨ op = 10 ∨ op = 11 ∨ op = 12 ∨ op = 13 ∨ op < 1 ∨ 13 < op := by omega

set_option maxHeartbeats 2000000 in
set_option maxRecDepth 20000 in
theorem takes_any (op : Int) (w : World) : Calls Tryz.prog 197 #[.int .i64 op] w fun e w' => e = .returned (.int .i64 (takesC op)) ∧ w' = w := by
  rcases takes_ways op with h | h | h | h | h | h | h | h | h | h | h | h | h | h
  · subst h
    go_enter Tryz.func197, Tryz.ntmps197
    go_wp2
    go_ret
    exact ⟨rfl, rfl⟩
  iterate 12
    · subst h
      go_enter Tryz.func197, Tryz.ntmps197
      go_wp2
      go_ret
      exact ⟨rfl, rfl⟩
  · have hr : Hid (takesC op = -1) := by
      simp only [Hid, takesC]
      rw [if_neg (by omega), if_neg (by omega), if_neg (by omega)]
    have h1 : ¬ op = 1 := by omega
    have h2 : ¬ op = 2 := by omega
    have h3 : ¬ op = 3 := by omega
    have h4 : ¬ op = 4 := by omega
    have h5 : ¬ op = 5 := by omega
    have h6 : ¬ op = 6 := by omega
    have h7 : ¬ op = 7 := by omega
    have h8 : ¬ op = 8 := by omega
    have h9 : ¬ op = 9 := by omega
    have h10 : ¬ op = 10 := by omega
    have h11 : ¬ op = 11 := by omega
    have h12 : ¬ op = 12 := by omega
    have h13 : ¬ op = 13 := by omega
    clear h
    go_enter Tryz.func197, Tryz.ntmps197
    go_wp2
    all_goals (first | (exfalso; omega) | (go_ret; exact ⟨by rw [hr.out]; rfl, rfl⟩))

set_option maxHeartbeats 2000000 in
set_option maxRecDepth 20000 in
theorem takesOf_any (op : Int) (w : World) : Calls Tryz.prog 170 #[.int .i64 op] w fun e w' => e = .returned (.int .i64 (takesC op)) ∧ Below w.heap.size w w' := by
  have bw : ∀ o, Below w.heap.size w (w.alloc o) := fun o => bl_alloc (Below.refl _ _)
  rcases takes_ways op with h | h | h | h | h | h | h | h | h | h | h | h | h | h
  iterate 13
    · subst h
      go_enter Tryz.func170, Tryz.ntmps170
      go_wp2
      go_ret
      exact ⟨rfl, bw _⟩
  · have hr : Hid (takesC op = -1) := by
      simp only [Hid, takesC]
      rw [if_neg (by omega), if_neg (by omega), if_neg (by omega)]
    go_enter Tryz.func170, Tryz.ntmps170
    go_wp2
    all_goals (first | (exfalso; omega) | (go_ret; exact ⟨by rw [hr.out]; rfl, Below.refl _ _⟩))
end Go.Proofs.YtlnkfgdepddmladGreat
