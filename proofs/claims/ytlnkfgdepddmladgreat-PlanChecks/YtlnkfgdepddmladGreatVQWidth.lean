/- How many bits a field has: plan.Width and the document's WidthOf; how many numbers a step takes. -/
import Derived.Test.YtlnkfgdepddmladGreatJ1
namespace Go.Proofs.YtlnkfgdepddmladGreat
open Go.RowKit

/-- the widths of a place's fields -/
def fieldsL (d : PlanD) (h : Int) (zs : List Int) : List Int :=
  if h = -1 then d.ms else if h = -2 then zs else if h = -3 then [16] else if h < 0 ∨ (d.heads.n : Int) ≤ h then [] else (d.hs.getD h.toNat HeadD.z).ws

/-- how many bits a field has -/
def widthC (d : PlanD) (h f : Int) (zs : List Int) : Int :=
  if f < 0 ∨ ((fieldsL d h zs).length : Int) ≤ f then 0 else (fieldsL d h zs).getD f.toNat 0

theorem has_sixteen (w : World) : Has .i64 (w.alloc (.cells #[.int .i64 16] 3)) (some ⟨w.heap.size, 0, none⟩) 1 [16] := by
  refine ⟨rfl, ?_, .inr ⟨w.heap.size, 0, rfl, by simp, fun i hi => ?_⟩⟩
  · intro n hn
    simp only [List.mem_cons, List.not_mem_nil, or_false] at hn
    subst hn
    decide
  · have : i = 0 := by omega
    subst this
    simp

theorem head_at {d : PlanD} {w : World} (hl : d.lie w) {k : Nat} (hk : k < d.heads.n) : ∃ g off, d.heads.a = some ⟨g, off, none⟩ ∧ (d.hs.getD k HeadD.z).lie w g (off + k) := by
  have hk' : k < d.hs.length := by rw [hl.hs.1]; exact hk
  obtain ⟨g, off, e, hp⟩ := hl.hs.2 k _ (List.getElem?_eq_getElem hk')
  refine ⟨g, off, e, ?_⟩
  rw [List.getD_eq_getElem?_getD, List.getElem?_eq_getElem hk', Option.getD_some]
  rwa [Nat.mul_one] at hp

set_option maxHeartbeats 1000000 in
set_option maxRecDepth 20000 in
theorem fields_any (d : PlanD) (h : Int) (aa : Option Addr) (an ac : Nat) (zs : List Int) (w : World) (hl : d.lie w) (hz : Has .i64 w aa an zs) :
    Calls Tryz.prog 101 #[d.v, .int .i64 h, .slice aa an ac] w fun e w' => ∃ s : QSl, e = .returned (.slice s.a s.n s.c) ∧ Has .i64 w' s.a s.n (fieldsL d h zs) ∧ Below w.heap.size w w' := by
  have bw : ∀ o, Below w.heap.size w (w.alloc o) := fun o => bl_alloc (Below.refl _ _)
  have bw2 : ∀ o o', Below w.heap.size w ((w.alloc o).alloc o') := fun o o' => bl_alloc (bl_alloc (Below.refl _ _))
  by_cases h1 : h = -1
  · subst h1
    have hr : Hid (fieldsL d (-1) zs = d.ms) := by simp [fieldsL, Hid]
    have H := hid hl.ms
    clear hl hz
    go_enter Tryz.func101, Tryz.ntmps101
    go_wp2
    go_ret
    exact ⟨d.mta, rfl, by rw [hr.out]; exact H.out.step (bw _), bw _⟩
  by_cases h2 : h = -2
  · subst h2
    have hr : Hid (fieldsL d (-2) zs = zs) := by simp [fieldsL, Hid]
    have H := hid hz
    clear hl hz
    go_enter Tryz.func101, Tryz.ntmps101
    go_wp2
    go_ret
    exact ⟨⟨aa, an, ac⟩, rfl, by rw [hr.out]; exact H.out.step (bw _), bw _⟩
  by_cases h3 : h = -3
  · subst h3
    have hr : Hid (fieldsL d (-3) zs = [16]) := by simp [fieldsL, Hid]
    clear hl hz
    go_enter Tryz.func101, Tryz.ntmps101
    go_wp2
    go_ret
    refine ⟨⟨some ⟨w.heap.size + 1, 0, none⟩, 1, 1⟩, rfl, ?_, bw2 _ _⟩
    rw [hr.out]
    have := has_sixteen (w.alloc (.cells #[.slice d.heads.a d.heads.n d.heads.c, .slice d.mta.a d.mta.n d.mta.c, .slice d.states.a d.states.n d.states.c, .slice d.acts.a d.acts.n d.acts.c, .slice d.tabs.a d.tabs.n d.tabs.c, .slice d.nodes.a d.nodes.n d.nodes.c, .slice d.out.a d.out.n d.out.c] 65))
    simpa using this
  by_cases h4 : h < 0 ∨ (d.heads.n : Int) ≤ h
  · have hr : Hid (fieldsL d h zs = []) := by simp only [Hid, fieldsL, if_neg h1, if_neg h2, if_neg h3, if_pos h4]
    clear hl hz
    go_enter Tryz.func101, Tryz.ntmps101
    go_wp2
    all_goals (first | (exfalso; omega) | (go_ret; exact ⟨⟨none, 0, 0⟩, rfl, by rw [hr.out]; exact has_nil _ _, bw _⟩))
  · obtain ⟨k, rfl⟩ : ∃ k : Nat, h = k := ⟨h.toNat, by omega⟩
    have hk : k < d.heads.n := by omega
    have hr : Hid (fieldsL d k zs = (d.hs.getD k HeadD.z).ws) := by simp only [Hid, fieldsL, if_neg h1, if_neg h2, if_neg h3, if_neg h4, Int.toNat_natCast]
    obtain ⟨g, off, ea, hd⟩ := head_at hl hk
    have H := hid hd.2
    have hc : ∀ o, (w.alloc o).cell? ⟨g, off + k, none⟩ = some (.slice (d.hs.getD k HeadD.z).w.a (d.hs.getD k HeadD.z).w.n (d.hs.getD k HeadD.z).w.c) := fun o => cell_keep hd.1.1 (bw o)
    have hc2 := hc
    clear hl hz hd
    generalize d.hs.getD k HeadD.z = x at *
    go_enter Tryz.func101, Tryz.ntmps101
    go_wp2
    all_goals (first | (exfalso; omega) | skip)
    go_ret
    exact ⟨x.w, rfl, by rw [hr.out]; exact H.out.step (bw _), bw _⟩

theorem width_out {d : PlanD} {h f : Int} {zs : List Int} (h0 : f < 0 ∨ ((fieldsL d h zs).length : Int) ≤ f) : widthC d h f zs = 0 := by simp only [widthC, if_pos h0]
theorem width_in {d : PlanD} {h : Int} {k : Nat} {zs : List Int} (h0 : k < (fieldsL d h zs).length) : widthC d h k zs = (fieldsL d h zs).getD k 0 := by
  have : ¬ ((k : Int) < 0 ∨ ((fieldsL d h zs).length : Int) ≤ k) := by omega
  simp only [widthC, if_neg this, Int.toNat_natCast]

/-- a field looked up in a list -/
theorem look_int {w : World} {s : QSl} {l : List Int} {k : Nat} (hs : Has .i64 w s.a s.n l) (hk : k < s.n) : ∃ g off, s.a = some ⟨g, off, none⟩ ∧ w.cell? ⟨g, off + k, none⟩ = some (.int .i64 (l.getD k 0)) := by
  obtain ⟨g, off, e, _, hc⟩ := hs.some (by omega)
  exact ⟨g, off, e, hc k hk⟩

set_option maxHeartbeats 1000000 in
set_option maxRecDepth 20000 in
theorem width_any (d : PlanD) (h f : Int) (aa : Option Addr) (an ac : Nat) (zs : List Int) (w : World) (hl : d.lie w) (hz : Has .i64 w aa an zs) :
    Calls Tryz.prog 43 #[d.v, .agg #[.int .i64 h, .int .i64 f], .slice aa an ac] w fun e w' => e = .returned (.int .i64 (widthC d h f zs)) ∧ Below w.heap.size w w' := by
  have bw2 : ∀ o o', Below w.heap.size w ((w.alloc o).alloc o') := fun o o' => bl_alloc (bl_alloc (Below.refl _ _))
  have A : ∀ o o', Hid (Calls Tryz.prog 101 #[d.v, .int .i64 h, .slice aa an ac] ((w.alloc o).alloc o') fun e w' => ∃ s : QSl, e = .returned (.slice s.a s.n s.c) ∧ Has .i64 w' s.a s.n (fieldsL d h zs) ∧ Below ((w.alloc o).alloc o').heap.size ((w.alloc o).alloc o') w') := fun o o' => fields_any d h aa an ac zs _ (hl.step (bw2 o o')) (hz.step (bw2 o o'))
  clear hl hz
  go_enter Tryz.func43, Tryz.ntmps43
  go_wp2_with fail
  refine (A _ _).out.mono ?_
  rintro e w1 ⟨s, rfl, hs, hb⟩
  clear A
  have hb' := hid (bl_step (bw2 _ _) hb)
  have c0 := cell_keep (w' := w1) (g := w.heap.size + 1) (o := 0) (v := .int .i64 h) (by simp) hb
  have c1 := cell_keep (w' := w1) (g := w.heap.size + 1) (o := 1) (v := .int .i64 f) (by simp) hb
  clear hb bw2
  have hn := hs.1
  by_cases h0 : f < 0 ∨ (s.n : Int) ≤ f
  · have hr : Hid (widthC d h f zs = 0) := width_out (by rw [hn]; exact h0)
    clear hs hn
    go_wp2
    all_goals (first | (exfalso; omega) | (go_ret; exact ⟨by rw [hr.out]; rfl, hb'.out⟩))
  · obtain ⟨k, rfl⟩ : ∃ k : Nat, f = k := ⟨f.toNat, by omega⟩
    have hk : k < s.n := by omega
    have hr : Hid (widthC d h k zs = (fieldsL d h zs).getD k 0) := width_in (by rw [hn]; exact hk)
    obtain ⟨g, off, ea, hc⟩ := look_int hs hk
    clear hs hn
    generalize (fieldsL d h zs).getD k 0 = r at *
    go_wp2
    all_goals (first | (exfalso; omega) | skip)
    go_ret
    exact ⟨by rw [hr.out]; rfl, hb'.out⟩
end Go.Proofs.YtlnkfgdepddmladGreat
