/- What a table's judge says. -/
import Derived.Test.YtajelgjbgehahaaGreatVQChk
import Derived.Test.YtajelgjbgehahaaGreatVQOut
namespace Go.Proofs.YtajelgjbgehahaaGreat
open Go.RowKit

/-- no list of it is great -/
structure PlanD.small (d : PlanD) : Prop where
  an : d.acts.n ≤ 1000
  aw : ∀ x ∈ d.al, x.w.n ≤ 1000
  ts : ∀ t ∈ d.ts, t.keys.n ≤ 500 ∧ t.acts.n ≤ 1000 ∧ t.args.n ≤ 1000
  on : d.out.n ≤ 1000

/-- the code of a table of a plan -/
def tabC (p : PPlan) (t : PTab) : Int := if 3 < t.ks.length then 2 else if (0 : Int) ∈ t.ks.map (fun r => p.width r []) then 1 else storeC t (t.ks.map (fun r => p.width r [])) p.al

theorem widths_p {d : PlanD} {w : World} (hl : d.lie w) (ks : List RefD) : widthsL d ks = ks.map (fun r => d.p.width r []) := by
  unfold widthsL
  apply List.map_congr_left
  intro r _
  unfold keyW
  exact width_p hl r []

set_option maxHeartbeats 16000000 in
set_option maxRecDepth 20000 in
theorem table_any (d : PlanD) (w : World) (hl : d.lie w) (hs : d.small) (k : Nat) (hk : k < d.tabs.n) (x : TabD) (hx : d.ts[k]? = some x) :
    Calls Tryz.prog 97 #[d.v, .int .i64 k] w fun e w' => e = .returned (.int .i64 (tabC d.p x.p)) ∧ Below w.heap.size w w' := by
  have bw1 : ∀ o, Below w.heap.size w (w.alloc o) := fun o => bl_alloc (Below.refl _ _)
  have bw2 : ∀ o o', Below w.heap.size w ((w.alloc o).alloc o') := fun o o' => bl_alloc (bl_alloc (Below.refl _ _))
  obtain ⟨g, off, x', ea, hx', ⟨c0, _⟩, ⟨c1, _⟩, ⟨c2, _⟩, ⟨c3, hcap⟩, ⟨c4, _⟩, ⟨c5, _⟩, hks, has, hzs⟩ := row_at hl.ts hk
  obtain rfl : x = x' := by rw [hx] at hx'; exact Option.some.inj hx'
  obtain ⟨b1, b2, b3⟩ := hs.ts x (List.mem_of_getElem? hx)
  have HWS : Hid (∀ w', Below w.heap.size w w' → Calls Tryz.prog 15 #[d.v, x.v] w' (WidthsDone w' (x.ks.map (fun r => d.p.width r [])))) := fun w' h => by
    rw [← widths_p hl]
    exact widths_any d x w' (hl.step h) (hks.step RefD.keeps h) b1
  generalize hL : x.ks.map (fun r => d.p.width r []) = L at *
  have hLn : L.length = x.keys.n := by rw [← hL, List.length_map, hks.1]
  have HCO : Hid (∀ w' a c, Has .i64 w' a L.length L → Calls Tryz.prog 88 #[.slice a L.length c, .int .i64 0] w' fun e w'' => e = .returned (.bool (decide ((0 : Int) ∈ L))) ∧ w'' = w') := fun w' a c h => contains_any a _ c L 0 w' (by omega) h
  have HCK : Hid (∀ w' a c, Below w.heap.size w w' → (a = none → L.length = 0 ∧ c = 0) → Has .i64 w' a L.length L → Calls Tryz.prog 33 #[x.v', .slice a L.length c, .slice d.acts.a d.acts.n d.acts.c] w' fun e w'' => e = .returned (.int .i64 (storeC x.p L d.p.al)) ∧ Below w'.heap.size w' w'') := fun w' a c h hn hh =>
    check_store x ⟨a, L.length, c⟩ L d.acts d.al w' hh hn (by show L.length ≤ 100000; omega) hcap (has.step h) b2 (hzs.step h) (by omega) (hl.al.step ActD.keeps h) (by have := hs.an; omega) (fun y hy => by have := hs.aw y hy; omega)
  have HRES : Hid (tabC d.p x.p = if 3 < x.keys.n then 2 else if (0 : Int) ∈ L then 1 else storeC x.p L d.p.al) := by
    show tabC d.p x.p = _
    unfold tabC
    rw [show x.p.ks.length = x.keys.n from hks.1, ← hL]
    rfl
  have hki : (k : Int) < (d.tabs.n : Int) := by omega
  have k0 : ∀ o, (w.alloc o).cell? ⟨g, off + k * 6, none⟩ = some (.int .i64 x.kind) := fun o => cell_keep c0 (bw1 o)
  have k1 : ∀ o, (w.alloc o).cell? ⟨g, off + k * 6 + 1, none⟩ = some (.slice x.keys.a x.keys.n x.keys.c) := fun o => cell_keep c1 (bw1 o)
  have k2 : ∀ o, (w.alloc o).cell? ⟨g, off + k * 6 + 2, none⟩ = some (.slice x.acts.a x.acts.n x.acts.c) := fun o => cell_keep c2 (bw1 o)
  have k3 : ∀ o, (w.alloc o).cell? ⟨g, off + k * 6 + 3, none⟩ = some (.int .i64 x.cap) := fun o => cell_keep c3 (bw1 o)
  have k4 : ∀ o, (w.alloc o).cell? ⟨g, off + k * 6 + 4, none⟩ = some (.int .i64 x.dflt) := fun o => cell_keep c4 (bw1 o)
  have k5 : ∀ o, (w.alloc o).cell? ⟨g, off + k * 6 + 5, none⟩ = some (.slice x.args.a x.args.n x.args.c) := fun o => cell_keep c5 (bw1 o)
  unfold PlanD.v at HWS
  rw [ea] at HWS
  clear hl hs hx hx' c0 c1 c2 c3 c4 c5 hks has hzs bw1 b1 b2 b3 hL hLn hcap
  by_cases h3 : (3 : Int) < (x.keys.n : Int)
  · have d3 := decide_eq_true h3
    rw [if_pos (by omega)] at HRES
    clear HWS HCO HCK h3
    go_enter Tryz.func97, Tryz.ntmps97
    go_wp2
    go_ret
    exact ⟨by rw [HRES.out]; rfl, bw2 _ _⟩
  have d3 := decide_eq_false h3
  rw [if_neg (by omega)] at HRES
  clear h3
  have HB2 := hid bw2
  clear bw2
  go_enter Tryz.func97, Tryz.ntmps97
  go_wp2_with fail
  refine (HWS.out _ (HB2.out _ _)).mono ?_
  rintro e w1 ⟨a, c, rfl, hnil, hh, hb1⟩
  have HB1 := hid (bl_step (HB2.out _ _) hb1)
  have HH := hid hh
  have HNIL := hid hnil
  have y3 : w1.cell? ⟨w.heap.size, 3, none⟩ = some (.slice d.acts.a d.acts.n d.acts.c) := cell_keep ((World.cell?_alloc_past _ _ _ (by simp)).trans ((World.cell?_alloc_at _ _ _ _ rfl).trans rfl)) hb1
  have z0 : w1.cell? ⟨w.heap.size + 1, 0, none⟩ = some (.int .i64 x.kind) := cell_keep ((World.cell?_alloc_at _ _ _ _ (by simp)).trans rfl) hb1
  have z1 : w1.cell? ⟨w.heap.size + 1, 1, none⟩ = some (.slice x.keys.a x.keys.n x.keys.c) := cell_keep ((World.cell?_alloc_at _ _ _ _ (by simp)).trans rfl) hb1
  have z2 : w1.cell? ⟨w.heap.size + 1, 2, none⟩ = some (.slice x.acts.a x.acts.n x.acts.c) := cell_keep ((World.cell?_alloc_at _ _ _ _ (by simp)).trans rfl) hb1
  have z3 : w1.cell? ⟨w.heap.size + 1, 3, none⟩ = some (.int .i64 x.cap) := cell_keep ((World.cell?_alloc_at _ _ _ _ (by simp)).trans rfl) hb1
  have z4 : w1.cell? ⟨w.heap.size + 1, 4, none⟩ = some (.int .i64 x.dflt) := cell_keep ((World.cell?_alloc_at _ _ _ _ (by simp)).trans rfl) hb1
  have z5 : w1.cell? ⟨w.heap.size + 1, 5, none⟩ = some (.slice x.args.a x.args.n x.args.c) := cell_keep ((World.cell?_alloc_at _ _ _ _ (by simp)).trans rfl) hb1
  have HCO := hid (HCO.out w1 a c HH.out)
  have HCK := hid (HCK.out w1 a c HB1.out HNIL.out HH.out)
  clear HWS hh hb1 hnil HB2 k0 k1 k2 k3 k4 k5 HNIL HH
  go_wp2_with fail
  refine HCO.out.mono ?_
  rintro e w2 ⟨rfl, rfl⟩
  clear HCO
  by_cases hM : (0 : Int) ∈ L
  · rw [if_pos hM] at HRES
    rw [decide_eq_true hM]
    clear HCK hM
    go_wp2
    go_ret
    exact ⟨by rw [HRES.out]; rfl, HB1.out⟩
  · rw [if_neg hM] at HRES
    rw [decide_eq_false hM]
    clear hM
    go_wp2_with fail
    refine HCK.out.mono ?_
    rintro e w3 ⟨rfl, hb3⟩
    have HE := hid (bl_step HB1.out hb3)
    clear HCK hb3 HB1
    go_wp2
    go_ret
    exact ⟨by rw [HRES.out]; rfl, HE.out⟩
end Go.Proofs.YtajelgjbgehahaaGreat
