/- Texts of one chain, joined: QWidth, QWidth2, QJudge. -/
import Derived.Test.YtajelgjbgehahaaGreatJ1
namespace Go.Proofs.YtajelgjbgehahaaGreat
open Go.RowKit

/-- the widths of a place's fields -/
def fieldsL (d : PlanD) (h : Int) (zs : List Int) : List Int :=
  if h = -1 then d.ms else if h = -2 then zs else if h = -3 then [16] else if h < 0 ∨ (d.heads.n : Int) ≤ h then [] else (d.hs.getD h.toNat HeadD.z).ws

/-- how many bits a field has -/
def widthC (d : PlanD) (h f : Int) (zs : List Int) : Int :=
  if f < 0 ∨ ((fieldsL d h zs).length : Int) ≤ f then 0 else (fieldsL d h zs).getD f.toNat 0

theorem has_sixteen (w : World) : Has .i64 (w.alloc (.cells #[.int .i64 16] 3)) (some ⟨w.heap.size, 0, none⟩) 1 [16] := by
  refine ⟨rfl, ?_, .inr ⟨w.heap.size, 0, rfl, by simp, fun i hi => ?_⟩⟩
  · intro n hn
    simp only [List.mem_cons, List.not_mem_nil, or_false] at hn
    subst hn
    decide
  · have : i = 0 := by omega
    subst this
    simp

theorem head_at {d : PlanD} {w : World} (hl : d.lie w) {k : Nat} (hk : k < d.heads.n) : ∃ g off, d.heads.a = some ⟨g, off, none⟩ ∧ (d.hs.getD k HeadD.z).lie w g (off + k) := by
  have hk' : k < d.hs.length := by rw [hl.hs.1]; exact hk
  obtain ⟨g, off, e, hp⟩ := hl.hs.2 k _ (List.getElem?_eq_getElem hk')
  refine ⟨g, off, e, ?_⟩
  rw [List.getD_eq_getElem?_getD, List.getElem?_eq_getElem hk', Option.getD_some]
  rwa [Nat.mul_one] at hp

set_option maxHeartbeats 1000000 in
set_option maxRecDepth 20000 in
theorem fields_any (d : PlanD) (h : Int) (aa : Option Addr) (an ac : Nat) (zs : List Int) (w : World) (hl : d.lie w) (hz : Has .i64 w aa an zs) :
    Calls Tryz.prog 64 #[d.v, .int .i64 h, .slice aa an ac] w fun e w' => ∃ s : QSl, e = .returned (.slice s.a s.n s.c) ∧ Has .i64 w' s.a s.n (fieldsL d h zs) ∧ Below w.heap.size w w' := by
  have bw : ∀ o, Below w.heap.size w (w.alloc o) := fun o => bl_alloc (Below.refl _ _)
  have bw2 : ∀ o o', Below w.heap.size w ((w.alloc o).alloc o') := fun o o' => bl_alloc (bl_alloc (Below.refl _ _))
  by_cases h1 : h = -1
  · subst h1
    have hr : Hid (fieldsL d (-1) zs = d.ms) := by simp [fieldsL, Hid]
    have H := hid hl.ms
    clear hl hz
    go_enter Tryz.func64, Tryz.ntmps64
    go_wp2
    go_ret
    exact ⟨d.mta, rfl, by rw [hr.out]; exact H.out.step (bw _), bw _⟩
  by_cases h2 : h = -2
  · subst h2
    have hr : Hid (fieldsL d (-2) zs = zs) := by simp [fieldsL, Hid]
    have H := hid hz
    clear hl hz
    go_enter Tryz.func64, Tryz.ntmps64
    go_wp2
    go_ret
    exact ⟨⟨aa, an, ac⟩, rfl, by rw [hr.out]; exact H.out.step (bw _), bw _⟩
  by_cases h3 : h = -3
  · subst h3
    have hr : Hid (fieldsL d (-3) zs = [16]) := by simp [fieldsL, Hid]
    clear hl hz
    go_enter Tryz.func64, Tryz.ntmps64
    go_wp2
    go_ret
    refine ⟨⟨some ⟨w.heap.size + 1, 0, none⟩, 1, 1⟩, rfl, ?_, bw2 _ _⟩
    rw [hr.out]
    have := has_sixteen (w.alloc (.cells #[.slice d.heads.a d.heads.n d.heads.c, .slice d.mta.a d.mta.n d.mta.c, .slice d.states.a d.states.n d.states.c, .slice d.acts.a d.acts.n d.acts.c, .slice d.tabs.a d.tabs.n d.tabs.c, .slice d.nodes.a d.nodes.n d.nodes.c, .slice d.out.a d.out.n d.out.c] 38))
    simpa using this
  by_cases h4 : h < 0 ∨ (d.heads.n : Int) ≤ h
  · have hr : Hid (fieldsL d h zs = []) := by simp only [Hid, fieldsL, if_neg h1, if_neg h2, if_neg h3, if_pos h4]
    clear hl hz
    go_enter Tryz.func64, Tryz.ntmps64
    go_wp2
    all_goals (first | (exfalso; omega) | (go_ret; exact ⟨⟨none, 0, 0⟩, rfl, by rw [hr.out]; exact has_nil _ _, bw _⟩))
  · obtain ⟨k, rfl⟩ : ∃ k : Nat, h = k := ⟨h.toNat, by omega⟩
    have hk : k < d.heads.n := by omega
    have hr : Hid (fieldsL d k zs = (d.hs.getD k HeadD.z).ws) := by simp only [Hid, fieldsL, if_neg h1, if_neg h2, if_neg h3, if_neg h4, Int.toNat_natCast]
    obtain ⟨g, off, ea, hd⟩ := head_at hl hk
    have H := hid hd.2
    have hc : ∀ o, (w.alloc o).cell? ⟨g, off + k, none⟩ = some (.slice (d.hs.getD k HeadD.z).w.a (d.hs.getD k HeadD.z).w.n (d.hs.getD k HeadD.z).w.c) := fun o => cell_keep hd.1.1 (bw o)
    have hc2 := hc
    clear hl hz hd
    generalize d.hs.getD k HeadD.z = x at *
    go_enter Tryz.func64, Tryz.ntmps64
    go_wp2
    all_goals (first | (exfalso; omega) | skip)
    go_ret
    exact ⟨x.w, rfl, by rw [hr.out]; exact H.out.step (bw _), bw _⟩

theorem width_out {d : PlanD} {h f : Int} {zs : List Int} (h0 : f < 0 ∨ ((fieldsL d h zs).length : Int) ≤ f) : widthC d h f zs = 0 := by simp only [widthC, if_pos h0]
theorem width_in {d : PlanD} {h : Int} {k : Nat} {zs : List Int} (h0 : k < (fieldsL d h zs).length) : widthC d h k zs = (fieldsL d h zs).getD k 0 := by
  have : ¬ ((k : Int) < 0 ∨ ((fieldsL d h zs).length : Int) ≤ k) := by omega
  simp only [widthC, if_neg this, Int.toNat_natCast]

/-- a field looked up in a list -/
theorem look_int {w : World} {s : QSl} {l : List Int} {k : Nat} (hs : Has .i64 w s.a s.n l) (hk : k < s.n) : ∃ g off, s.a = some ⟨g, off, none⟩ ∧ w.cell? ⟨g, off + k, none⟩ = some (.int .i64 (l.getD k 0)) := by
  obtain ⟨g, off, e, _, hc⟩ := hs.some (by omega)
  exact ⟨g, off, e, hc k hk⟩

set_option maxHeartbeats 1000000 in
set_option maxRecDepth 20000 in
theorem width_any (d : PlanD) (h f : Int) (aa : Option Addr) (an ac : Nat) (zs : List Int) (w : World) (hl : d.lie w) (hz : Has .i64 w aa an zs) :
    Calls Tryz.prog 37 #[d.v, .agg #[.int .i64 h, .int .i64 f], .slice aa an ac] w fun e w' => e = .returned (.int .i64 (widthC d h f zs)) ∧ Below w.heap.size w w' := by
  have bw2 : ∀ o o', Below w.heap.size w ((w.alloc o).alloc o') := fun o o' => bl_alloc (bl_alloc (Below.refl _ _))
  have A : ∀ o o', Hid (Calls Tryz.prog 64 #[d.v, .int .i64 h, .slice aa an ac] ((w.alloc o).alloc o') fun e w' => ∃ s : QSl, e = .returned (.slice s.a s.n s.c) ∧ Has .i64 w' s.a s.n (fieldsL d h zs) ∧ Below ((w.alloc o).alloc o').heap.size ((w.alloc o).alloc o') w') := fun o o' => fields_any d h aa an ac zs _ (hl.step (bw2 o o')) (hz.step (bw2 o o'))
  clear hl hz
  go_enter Tryz.func37, Tryz.ntmps37
  go_wp2_with fail
  refine (A _ _).out.mono ?_
  rintro e w1 ⟨s, rfl, hs, hb⟩
  clear A
  have hb' := hid (bl_step (bw2 _ _) hb)
  have c0 := cell_keep (w' := w1) (g := w.heap.size + 1) (o := 0) (v := .int .i64 h) (by simp) hb
  have c1 := cell_keep (w' := w1) (g := w.heap.size + 1) (o := 1) (v := .int .i64 f) (by simp) hb
  clear hb bw2
  have hn := hs.1
  by_cases h0 : f < 0 ∨ (s.n : Int) ≤ f
  · have hr : Hid (widthC d h f zs = 0) := width_out (by rw [hn]; exact h0)
    clear hs hn
    go_wp2
    all_goals (first | (exfalso; omega) | (go_ret; exact ⟨by rw [hr.out]; rfl, hb'.out⟩))
  · obtain ⟨k, rfl⟩ : ∃ k : Nat, f = k := ⟨f.toNat, by omega⟩
    have hk : k < s.n := by omega
    have hr : Hid (widthC d h k zs = (fieldsL d h zs).getD k 0) := width_in (by rw [hn]; exact hk)
    obtain ⟨g, off, ea, hc⟩ := look_int hs hk
    clear hs hn
    generalize (fieldsL d h zs).getD k 0 = r at *
    go_wp2
    all_goals (first | (exfalso; omega) | skip)
    go_ret
    exact ⟨by rw [hr.out]; rfl, hb'.out⟩
end Go.Proofs.YtajelgjbgehahaaGreat

namespace Go.Proofs.YtajelgjbgehahaaGreat
open Go.RowKit

def takesC (op : Int) : Int := if op = 1 ∨ op = 2 then 0 else if op = 13 then 1 else if 3 ≤ op ∧ op ≤ 12 then 2 else -1

theorem takes_ways (op : Int) : op = 1 ∨ op = 2 ∨ op = 3 ∨ op = 4 ∨ op = 5 ∨ op = 6 ∨ op = 7 ∨ op = 8 ∨ op = 9 ∨ op = 10 ∨ op = 11 ∨ op = 12 ∨ op = 13 ∨ op < 1 ∨ 13 < op := by omega

set_option maxHeartbeats 2000000 in
set_option maxRecDepth 20000 in
theorem takes_any (op : Int) (w : World) : Calls Tryz.prog 89 #[.int .i64 op] w fun e w' => e = .returned (.int .i64 (takesC op)) ∧ w' = w := by
  rcases takes_ways op with h | h | h | h | h | h | h | h | h | h | h | h | h | h
  · subst h
    go_enter Tryz.func89, Tryz.ntmps89
    go_wp2
    go_ret
    exact ⟨rfl, rfl⟩
  iterate 12
    · subst h
      go_enter Tryz.func89, Tryz.ntmps89
      go_wp2
      go_ret
      exact ⟨rfl, rfl⟩
  · have hr : Hid (takesC op = -1) := by
      simp only [Hid, takesC]
      rw [if_neg (by omega), if_neg (by omega), if_neg (by omega)]
    have h1 : ¬ op = 1 := by omega
    have h2 : ¬ op = 2 := by omega
    have h3 : ¬ op = 3 := by omega
    have h4 : ¬ op = 4 := by omega
    have h5 : ¬ op = 5 := by omega
    have h6 : ¬ op = 6 := by omega
    have h7 : ¬ op = 7 := by omega
    have h8 : ¬ op = 8 := by omega
    have h9 : ¬ op = 9 := by omega
    have h10 : ¬ op = 10 := by omega
    have h11 : ¬ op = 11 := by omega
    have h12 : ¬ op = 12 := by omega
    have h13 : ¬ op = 13 := by omega
    clear h
    go_enter Tryz.func89, Tryz.ntmps89
    go_wp2
    all_goals (first | (exfalso; omega) | (go_ret; exact ⟨by rw [hr.out]; rfl, rfl⟩))

end Go.Proofs.YtajelgjbgehahaaGreat

namespace Go.Proofs.YtajelgjbgehahaaGreat
open Go.RowKit

/-- cmp.Or of two numbers in a block of their own -/
theorem qor2_any {w : World} {b : Nat} {x y : Int} (o : Int) (ho : (if x ≠ 0 then x else y) = o) (h0 : w.cell? ⟨b, 0, none⟩ = some (.int .i64 x)) (h1 : w.cell? ⟨b, 1, none⟩ = some (.int .i64 y)) :
    Calls Tryz.prog 123 #[.slice (some ⟨b, 0, none⟩) 2 2] w fun e w' => e = .returned (.int .i64 o) ∧ w' = w := by
  have h3 : (x ≠ 0 ∧ o = x) ∨ (x = 0 ∧ o = y) := by rw [← ho]; split <;> omega
  have H3 := hid h3
  clear h3 ho
  go_enter Tryz.func123, Tryz.ntmps123
  go_wp2
  go_loop [8] (fun q => q = .int .i64 0 ∨ (q = .int .i64 1 ∧ x = 0) ∨ (q = .int .i64 2 ∧ x = 0 ∧ y = 0)) (fun q => 2 - (intOf q).toNat)
  case atStart => exact .inl rfl
  case round =>
    rcases hrel with rfl | ⟨rfl, rfl⟩ | ⟨rfl, rfl, rfl⟩
    · by_cases hx : x = 0
      · subst hx
        go_wp2
        go_round
        case rel => simp
        case measure => simp [intOf]
      · have hd : (x != 0) = true := by simpa using hx
        have e : o = x := by have := H3.out; omega
        subst e
        go_wp2
        go_ret
        exact ⟨rfl, rfl⟩
    · by_cases hx : y = 0
      · subst hx
        go_wp2
        go_round
        case rel => simp
        case measure => simp [intOf]
      · have hd : (y != 0) = true := by simpa using hx
        have e : o = y := by have := H3.out; omega
        subst e
        go_wp2
        go_ret
        exact ⟨rfl, rfl⟩
    · have e : o = 0 := by have := H3.out; omega
      subst e
      go_wp2
      go_ret
      exact ⟨rfl, rfl⟩


set_option maxHeartbeats 1000000 in
set_option maxRecDepth 20000 in
theorem isOfH_any (a : Option Addr) (n c : Nat) (k : Int) (w : World) : Calls Tryz.prog 121 #[.slice a n c, .int .i64 k] w fun e w' => e = .returned (.bool (decide (0 ≤ k ∧ k < (n : Int)))) ∧ w' = w := by
  by_cases h0 : 0 ≤ k
  · have d0 := decide_eq_true h0
    by_cases h1 : k < (n : Int)
    · have d1 := decide_eq_true h1
      have hr := hid (decide_eq_true (⟨h0, h1⟩ : 0 ≤ k ∧ k < (n : Int)))
      go_enter Tryz.func121, Tryz.ntmps121
      go_wp2
      go_ret
      exact ⟨by first | rfl | (rw [hr.out]; rfl), rfl⟩
    · have d1 := decide_eq_false h1
      have hr := hid (decide_eq_false (fun h => h1 h.2 : ¬ (0 ≤ k ∧ k < (n : Int))))
      go_enter Tryz.func121, Tryz.ntmps121
      go_wp2
      go_ret
      exact ⟨by first | rfl | (rw [hr.out]; rfl), rfl⟩
  · have d0 := decide_eq_false h0
    have hr := hid (decide_eq_false (fun h => h0 h.1 : ¬ (0 ≤ k ∧ k < (n : Int))))
    go_enter Tryz.func121, Tryz.ntmps121
    go_wp2
    go_ret
    exact ⟨by first | rfl | (rw [hr.out]; rfl), rfl⟩

set_option maxHeartbeats 1000000 in
set_option maxRecDepth 20000 in
theorem isOfS_any (a : Option Addr) (n c : Nat) (k : Int) (w : World) : Calls Tryz.prog 140 #[.slice a n c, .int .i64 k] w fun e w' => e = .returned (.bool (decide (0 ≤ k ∧ k < (n : Int)))) ∧ w' = w := by
  by_cases h0 : 0 ≤ k
  · have d0 := decide_eq_true h0
    by_cases h1 : k < (n : Int)
    · have d1 := decide_eq_true h1
      have hr := hid (decide_eq_true (⟨h0, h1⟩ : 0 ≤ k ∧ k < (n : Int)))
      go_enter Tryz.func140, Tryz.ntmps140
      go_wp2
      go_ret
      exact ⟨by first | rfl | (rw [hr.out]; rfl), rfl⟩
    · have d1 := decide_eq_false h1
      have hr := hid (decide_eq_false (fun h => h1 h.2 : ¬ (0 ≤ k ∧ k < (n : Int))))
      go_enter Tryz.func140, Tryz.ntmps140
      go_wp2
      go_ret
      exact ⟨by first | rfl | (rw [hr.out]; rfl), rfl⟩
  · have d0 := decide_eq_false h0
    have hr := hid (decide_eq_false (fun h => h0 h.1 : ¬ (0 ≤ k ∧ k < (n : Int))))
    go_enter Tryz.func140, Tryz.ntmps140
    go_wp2
    go_ret
    exact ⟨by first | rfl | (rw [hr.out]; rfl), rfl⟩

/-- what goes over a state, as it is handed over -/
@[reducible] def LV (d : PlanD) (x : StateD) (n : Int) : Value := .agg #[.slice d.heads.a d.heads.n d.heads.c, .slice d.mta.a d.mta.n d.mta.c, .slice d.states.a d.states.n d.states.c, .slice d.acts.a d.acts.n d.acts.c, .slice d.tabs.a d.tabs.n d.tabs.c, .slice d.nodes.a d.nodes.n d.nodes.c, .slice d.out.a d.out.n d.out.c, .int .i64 x.head, .int .i64 x.r.h, .int .i64 x.r.f, .slice x.cases.a x.cases.n x.cases.c, .int .i64 x.els, .int .i64 n]

/-- the code of where a state leads -/
def wayC (many : Nat) (from_ to : Int) : Int := if to = 1000 ∨ to = 1001 then 0 else if ¬ (0 ≤ to ∧ to < (many : Int)) then 1 else if to ≤ from_ then 11 else 0

set_option maxHeartbeats 2000000 in
set_option maxRecDepth 20000 in
theorem way_any (d : PlanD) (x : StateD) (n to : Int) (w : World) : Calls Tryz.prog 126 #[LV d x n, .int .i64 to] w fun e w' => e = .returned (.int .i64 (wayC d.states.n n to)) ∧ Below w.heap.size w w' := by
  have bw : ∀ o, Below w.heap.size w (w.alloc o) := fun o => bl_alloc (Below.refl _ _)
  have HC : Hid (∀ w', Calls Tryz.prog 140 #[.slice d.states.a d.states.n d.states.c, .int .i64 to] w' fun e w'' => e = .returned (.bool (decide (0 ≤ to ∧ to < (d.states.n : Int)))) ∧ w'' = w') := fun w' => isOfS_any _ _ _ _ _
  by_cases h0 : to = 1000
  · subst h0
    have hr : Hid (wayC d.states.n n 1000 = 0) := by simp [Hid, wayC]
    clear HC
    go_enter Tryz.func126, Tryz.ntmps126
    go_wp2
    go_ret
    exact ⟨by rw [hr.out]; rfl, bw _⟩
  by_cases h1 : to = 1001
  · subst h1
    have hr : Hid (wayC d.states.n n 1001 = 0) := by simp [Hid, wayC]
    clear HC
    go_enter Tryz.func126, Tryz.ntmps126
    go_wp2
    go_ret
    exact ⟨by rw [hr.out]; rfl, bw _⟩
  have b0 : (to == 1000) = false := by simpa using h0
  have b1 : (to == 1001) = false := by simpa using h1
  by_cases h2 : 0 ≤ to ∧ to < (d.states.n : Int)
  · rw [decide_eq_true h2] at HC
    by_cases h3 : to ≤ n
    · have hr : Hid (wayC d.states.n n to = 11) := by simp only [Hid, wayC, h0, h1, or_self, if_false, h2, and_self, not_true_eq_false, h3, if_true]
      have d3 := decide_eq_true h3
      clear h0 h1 h2 h3
      go_enter Tryz.func126, Tryz.ntmps126
      go_wp2_with fail
      refine (HC.out _).mono ?_
      rintro e w1 ⟨rfl, rfl⟩
      clear HC
      go_wp2
      go_ret
      exact ⟨by rw [hr.out]; rfl, bw _⟩
    · have hr : Hid (wayC d.states.n n to = 0) := by simp only [Hid, wayC, h0, h1, or_self, if_false, h2, and_self, not_true_eq_false, h3]
      have d3 := decide_eq_false h3
      clear h0 h1 h2 h3
      go_enter Tryz.func126, Tryz.ntmps126
      go_wp2_with fail
      refine (HC.out _).mono ?_
      rintro e w1 ⟨rfl, rfl⟩
      clear HC
      go_wp2
      go_ret
      exact ⟨by rw [hr.out]; rfl, bw _⟩
  · have hr : Hid (wayC d.states.n n to = 1) := by simp only [Hid, wayC, h0, h1, or_self, if_false, h2, not_false_eq_true, if_true]
    rw [decide_eq_false h2] at HC
    clear h0 h1 h2
    go_enter Tryz.func126, Tryz.ntmps126
    go_wp2_with fail
    refine (HC.out _).mono ?_
    rintro e w1 ⟨rfl, rfl⟩
    clear HC
    go_wp2
    go_ret
    exact ⟨by rw [hr.out]; rfl, bw _⟩

set_option maxHeartbeats 1000000 in
set_option maxRecDepth 20000 in
theorem first_nil (a : Option Addr) (c : Nat) (fv : Value) (w : World) : Calls Tryz.prog 124 #[.slice a 0 c, fv] w fun e w' => e = .returned (.int .i64 0) ∧ w' = w := by
  go_enter Tryz.func124, Tryz.ntmps124
  go_wp2
  go_loop [10] (fun q => q = .int .i64 0) (fun _ => 0)
  case atStart => exact rfl
  case round =>
    subst hrel
    go_wp2
    go_ret
    exact ⟨rfl, rfl⟩
end Go.Proofs.YtajelgjbgehahaaGreat
