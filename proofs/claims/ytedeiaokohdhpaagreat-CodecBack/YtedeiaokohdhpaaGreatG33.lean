/- Texts of one chain, joined: QTab, QGreat2. -/
import Derived.Test.YtedeiaokohdhpaaGreatG24
import Derived.Test.YtedeiaokohdhpaaGreatG31
import Derived.Test.YtedeiaokohdhpaaGreatG32
import Derived.Test.YtedeiaokohdhpaaGreatG15
import Derived.Deep.RegionHeld3
namespace Go.Proofs.YtedeiaokohdhpaaGreat
open Go.RowKit
structure PlanD.small (d : PlanD) : Prop where
  an : d.acts.n ≤ 10000
  aw : ∀ x ∈ d.al, x.w.n ≤ 10000
  ts : ∀ t ∈ d.ts, t.keys.n ≤ 10000 ∧ t.acts.n ≤ 10000 ∧ t.args.n ≤ 10000
  on : d.out.n ≤ 10000
def tabC (p : PPlan) (t : PTab) : Int := if 3 < t.ks.length then 2 else if (0 : Int) ∈ t.ks.map (fun r => p.width r []) then 1 else storeC t (t.ks.map (fun r => p.width r [])) p.al
theorem widths_p {d : PlanD} {w : World} (hl : d.lie w) (ks : List RefD) : widthsL d ks = ks.map (fun r => d.p.width r []) := by
  unfold widthsL
  apply List.map_congr_left
  intro r _
  unfold keyW
  exact width_p hl r []
set_option maxHeartbeats 16000000 in
set_option maxRecDepth 20000 in
theorem table_any (d : PlanD) (w : World) (hl : d.lie w) (hs : d.small) (k : Nat) (hk : k < d.tabs.n) (x : TabD) (hx : d.ts[k]? = some x) :
    Calls Tryz.prog 50 #[d.v, .int .i64 k] w fun e w' => e = .returned (.int .i64 (tabC d.p x.p)) ∧ Below w.heap.size w w' := by
  have bw1 : ∀ o, Below w.heap.size w (w.alloc o) := fun o => bl_alloc (Below.refl _ _)
  have bw2 : ∀ o o', Below w.heap.size w ((w.alloc o).alloc o') := fun o o' => bl_alloc (bl_alloc (Below.refl _ _))
  obtain ⟨g, off, x', ea, hx', ⟨c0, _⟩, ⟨c1, _⟩, ⟨c2, _⟩, ⟨c3, hcap⟩, ⟨c4, _⟩, ⟨c5, _⟩, hks, has, hzs⟩ := row_at hl.ts hk
  obtain rfl : x = x' := by rw [hx] at hx'; exact Option.some.inj hx'
  obtain ⟨b1, b2, b3⟩ := hs.ts x (List.mem_of_getElem? hx)
  have HWS : Hid (∀ w', Below w.heap.size w w' → Calls Tryz.prog 96 #[d.v, x.v] w' (WidthsDone w' (x.ks.map (fun r => d.p.width r [])))) := fun w' h => by
    rw [← widths_p hl]
    exact widths_any d x w' (hl.step h) (hks.step RefD.keeps h) b1
  generalize hL : x.ks.map (fun r => d.p.width r []) = L at *
  have hLn : L.length = x.keys.n := by rw [← hL, List.length_map, hks.1]
  have HCO : Hid (∀ w' a c, Has .i64 w' a L.length L → Calls Tryz.prog 97 #[.slice a L.length c, .int .i64 0] w' fun e w'' => e = .returned (.bool (decide ((0 : Int) ∈ L))) ∧ w'' = w') := fun w' a c h => contains_any a _ c L 0 w' (by omega) h
  have HCK : Hid (∀ w' a c, Below w.heap.size w w' → (a = none → L.length = 0 ∧ c = 0) → Has .i64 w' a L.length L → Calls Tryz.prog 98 #[x.v', .slice a L.length c, .slice d.acts.a d.acts.n d.acts.c] w' fun e w'' => e = .returned (.int .i64 (storeC x.p L d.p.al)) ∧ Below w'.heap.size w' w'') := fun w' a c h hn hh =>
    check_store x ⟨a, L.length, c⟩ L d.acts d.al w' hh hn (by show L.length ≤ 100000; omega) hcap (has.step h) b2 (hzs.step h) (by omega) (hl.al.step ActD.keeps h) (by have := hs.an; omega) (fun y hy => by have := hs.aw y hy; omega)
  have HRES : Hid (tabC d.p x.p = if 3 < x.keys.n then 2 else if (0 : Int) ∈ L then 1 else storeC x.p L d.p.al) := by
    show tabC d.p x.p = _
    unfold tabC
    rw [show x.p.ks.length = x.keys.n from hks.1, ← hL]
    rfl
  have hki : (k : Int) < (d.tabs.n : Int) := by omega
  have k0 : ∀ o, (w.alloc o).cell? ⟨g, off + k * 6, none⟩ = some (.int .i64 x.kind) := fun o => cell_keep c0 (bw1 o)
  have k1 : ∀ o, (w.alloc o).cell? ⟨g, off + k * 6 + 1, none⟩ = some (.slice x.keys.a x.keys.n x.keys.c) := fun o => cell_keep c1 (bw1 o)
  have k2 : ∀ o, (w.alloc o).cell? ⟨g, off + k * 6 + 2, none⟩ = some (.slice x.acts.a x.acts.n x.acts.c) := fun o => cell_keep c2 (bw1 o)
  have k3 : ∀ o, (w.alloc o).cell? ⟨g, off + k * 6 + 3, none⟩ = some (.int .i64 x.cap) := fun o => cell_keep c3 (bw1 o)
  have k4 : ∀ o, (w.alloc o).cell? ⟨g, off + k * 6 + 4, none⟩ = some (.int .i64 x.dflt) := fun o => cell_keep c4 (bw1 o)
  have k5 : ∀ o, (w.alloc o).cell? ⟨g, off + k * 6 + 5, none⟩ = some (.slice x.args.a x.args.n x.args.c) := fun o => cell_keep c5 (bw1 o)
  unfold PlanD.v at HWS
  rw [ea] at HWS
  clear hl hs hx hx' c0 c1 c2 c3 c4 c5 hks has hzs bw1 b1 b2 b3 hL hLn hcap
  by_cases h3 : (3 : Int) < (x.keys.n : Int)
  · have d3 := decide_eq_true h3
    rw [if_pos (by omega)] at HRES
    clear HWS HCO HCK h3
    go_enter Tryz.func50, Tryz.ntmps50
    go_wp2
    go_ret
    exact ⟨by rw [HRES.out]; rfl, bw2 _ _⟩
  have d3 := decide_eq_false h3
  rw [if_neg (by omega)] at HRES
  clear h3
  have HB2 := hid bw2
  clear bw2
  go_enter Tryz.func50, Tryz.ntmps50
  go_wp2_with fail
  refine (HWS.out _ (HB2.out _ _)).mono ?_
  rintro e w1 ⟨a, c, rfl, hnil, hh, hb1⟩
  have HB1 := hid (bl_step (HB2.out _ _) hb1)
  have HH := hid hh
  have HNIL := hid hnil
  have y3 : w1.cell? ⟨w.heap.size, 3, none⟩ = some (.slice d.acts.a d.acts.n d.acts.c) := cell_keep ((World.cell?_alloc_past _ _ _ (by simp)).trans ((World.cell?_alloc_at _ _ _ _ rfl).trans rfl)) hb1
  have z0 : w1.cell? ⟨w.heap.size + 1, 0, none⟩ = some (.int .i64 x.kind) := cell_keep ((World.cell?_alloc_at _ _ _ _ (by simp)).trans rfl) hb1
  have z1 : w1.cell? ⟨w.heap.size + 1, 1, none⟩ = some (.slice x.keys.a x.keys.n x.keys.c) := cell_keep ((World.cell?_alloc_at _ _ _ _ (by simp)).trans rfl) hb1
  have z2 : w1.cell? ⟨w.heap.size + 1, 2, none⟩ = some (.slice x.acts.a x.acts.n x.acts.c) := cell_keep ((World.cell?_alloc_at _ _ _ _ (by simp)).trans rfl) hb1
  have z3 : w1.cell? ⟨w.heap.size + 1, 3, none⟩ = some (.int .i64 x.cap) := cell_keep ((World.cell?_alloc_at _ _ _ _ (by simp)).trans rfl) hb1
  have z4 : w1.cell? ⟨w.heap.size + 1, 4, none⟩ = some (.int .i64 x.dflt) := cell_keep ((World.cell?_alloc_at _ _ _ _ (by simp)).trans rfl) hb1
  have z5 : w1.cell? ⟨w.heap.size + 1, 5, none⟩ = some (.slice x.args.a x.args.n x.args.c) := cell_keep ((World.cell?_alloc_at _ _ _ _ (by simp)).trans rfl) hb1
  have HCO := hid (HCO.out w1 a c HH.out)
  have HCK := hid (HCK.out w1 a c HB1.out HNIL.out HH.out)
  clear HWS hh hb1 hnil HB2 k0 k1 k2 k3 k4 k5 HNIL HH
  go_wp2_with fail
  refine HCO.out.mono ?_
  rintro e w2 ⟨rfl, rfl⟩
  clear HCO
  by_cases hM : (0 : Int) ∈ L
  · rw [if_pos hM] at HRES
    rw [decide_eq_true hM]
    clear HCK hM
    go_wp2
    go_ret
    exact ⟨by rw [HRES.out]; rfl, HB1.out⟩
  · rw [if_neg hM] at HRES
    rw [decide_eq_false hM]
    clear hM
    go_wp2_with fail
    refine HCK.out.mono ?_
    rintro e w3 ⟨rfl, hb3⟩
    have HE := hid (bl_step HB1.out hb3)
    clear HCK hb3 HB1
    go_wp2
    go_ret
    exact ⟨by rw [HRES.out]; rfl, HE.out⟩
end Go.Proofs.YtedeiaokohdhpaaGreat

namespace Go.Proofs.YtedeiaokohdhpaaGreat
open Go.RowKit
structure PPlan.little (p : PPlan) : Prop where
  hs : p.hs.length ≤ 50
  ms : p.ms.length ≤ 500
  ss : p.ss.length ≤ 50
  al : p.al.length ≤ 50
  ts : p.ts.length ≤ 50
  ns : p.ns.length ≤ 50
  os : p.os.length ≤ 500
  hw : ∀ x ∈ p.hs, x.length ≤ 500
  sc : ∀ x ∈ p.ss, x.cs.length ≤ 500
  aw : ∀ x ∈ p.al, x.ws.length ≤ 500 ∧ x.os.length ≤ 50
  ae : ∀ x ∈ p.al, ∀ o ∈ x.os, o.es.length ≤ 500
  tl : ∀ x ∈ p.ts, x.ks.length ≤ 500 ∧ x.al.length ≤ 500 ∧ x.zs.length ≤ 500
  ne : ∀ x ∈ p.ns, x.es.length ≤ 500
def GTold (d : PlanD) (w : World) (e : Ending) (w' : World) : Prop := ∃ b : Bool, e = .returned (.bool b) ∧ (b = false → d.p.little) ∧ Below w.heap.size w w'
theorem all_next {α : Type} {L : List α} {k : Nat} {x : α} {P : α → Prop} (h : ∀ i y, i < k → L[i]? = some y → P y) (hx : L[k]? = some x) (hp : P x) : ∀ i y, i < k + 1 → L[i]? = some y → P y := by
  intro i y hi hy
  by_cases e : i = k
  · subst e
    rw [hx] at hy
    cases hy
    exact hp
  · exact h i y (by omega) hy
theorem all_mem {α β : Type} {L : List α} {n k : Nat} {P : β → Prop} {f : α → β} (hl : L.length = n) (hk : ¬ k < n) (h : ∀ i y, i < k → L[i]? = some y → P (f y)) : ∀ x ∈ L.map f, P x := by
  intro x hx
  obtain ⟨y, hy, rfl⟩ := List.mem_map.1 hx
  obtain ⟨i, hi, rfl⟩ := List.getElem_of_mem hy
  exact h i _ (by omega) (List.getElem?_eq_getElem hi)
theorem all_mem' {α β : Type} {L : List α} {n : Nat} {P : β → Prop} {f : α → β} (hl : L.length = n) (h : ∀ (i : Nat) (y : α), i < n → L[i]? = some y → P (f y)) : ∀ x ∈ L.map f, P x :=
  all_mem hl (Nat.lt_irrefl _) h
theorem little_of {d : PlanD} {w : World} (hl : d.lie w) (hn : (d.heads.n : Int) ≤ 50 ∧ (d.mta.n : Int) ≤ 500 ∧ (d.states.n : Int) ≤ 50 ∧ (d.acts.n : Int) ≤ 50 ∧ (d.tabs.n : Int) ≤ 50 ∧ (d.nodes.n : Int) ≤ 50 ∧ (d.out.n : Int) ≤ 500)
    (h3 : ∀ (i : Nat) (y : HeadD), i < d.heads.n → d.hs[i]? = some y → y.w.n ≤ 500) (h4 : ∀ (i : Nat) (y : StateD), i < d.states.n → d.ss[i]? = some y → y.cases.n ≤ 500)
    (h5 : ∀ (i : Nat) (y : ActD), i < d.acts.n → d.al[i]? = some y → (y.w.n ≤ 500 ∧ y.ops.n ≤ 50) ∧ ∀ (i : Nat) (z : OpD), i < y.ops.n → y.os[i]? = some z → z.e.n ≤ 500)
    (h7 : ∀ (i : Nat) (y : TabD), i < d.tabs.n → d.ts[i]? = some y → y.keys.n ≤ 500 ∧ y.acts.n ≤ 500 ∧ y.args.n ≤ 500) (h8 : ∀ (i : Nat) (y : NodeD), i < d.nodes.n → d.ns[i]? = some y → y.e.n ≤ 500) : d.p.little := by
  have lie_at : ∀ {α : Type} {k : Nat} {P : α → World → Nat → Nat → Prop} {s : QSl} {S : List α}, QRow k P w s S → ∀ (i : Nat) (y : α), S[i]? = some y → ∃ g o, P y w g o := fun h i y hy => by
    obtain ⟨g, off, _, hp⟩ := h.2 i y hy
    exact ⟨g, _, hp⟩
  refine ⟨by simp [PlanD.p, hl.hs.1]; omega, by simp [PlanD.p, hl.ms.1]; omega, by simp [PlanD.p, hl.ss.1]; omega, by simp [PlanD.p, hl.al.1]; omega, by simp [PlanD.p, hl.ts.1]; omega, by simp [PlanD.p, hl.ns.1]; omega, by simp [PlanD.p, hl.os.1]; omega, ?_, ?_, ?_, ?_, ?_, ?_⟩
  · refine all_mem' hl.hs.1 fun i y hi hy => ?_
    obtain ⟨g, o, hp⟩ := lie_at hl.hs i y hy
    have := h3 i y hi hy
    have e := hp.2.1
    omega
  · refine all_mem' hl.ss.1 fun i y hi hy => ?_
    obtain ⟨g, o, hp⟩ := lie_at hl.ss i y hy
    have := h4 i y hi hy
    have e := hp.2.2.2.2.2.1
    show y.cs.length ≤ 500
    omega
  · refine all_mem' hl.al.1 fun i y hi hy => ?_
    obtain ⟨g, o, hp⟩ := lie_at hl.al i y hy
    have := (h5 i y hi hy).1
    have e := hp.2.2.1.1
    have e2 := hp.2.2.2.1
    show y.ws.length ≤ 500 ∧ (y.os.map OpD.p).length ≤ 50
    rw [List.length_map]
    omega
  · refine all_mem' hl.al.1 fun i y hi hy => ?_
    obtain ⟨g, o, hp⟩ := lie_at hl.al i y hy
    have h6 := (h5 i y hi hy).2
    refine all_mem' hp.2.2.2.1 fun j z hj hz => ?_
    obtain ⟨g', o', hp'⟩ := lie_at hp.2.2.2 j z hz
    have := h6 j z hj hz
    have e := hp'.2.2.2.2.2.1
    show z.es.length ≤ 500
    omega
  · refine all_mem' hl.ts.1 fun i y hi hy => ?_
    obtain ⟨g, o, hp⟩ := lie_at hl.ts i y hy
    have := h7 i y hi hy
    have e := hp.2.2.2.2.2.2.1.1
    have e2 := hp.2.2.2.2.2.2.2.1.1
    have e3 := hp.2.2.2.2.2.2.2.2.1
    show y.ks.length ≤ 500 ∧ y.al.length ≤ 500 ∧ y.zs.length ≤ 500
    omega
  · refine all_mem' hl.ns.1 fun i y hi hy => ?_
    obtain ⟨g, o, hp⟩ := lie_at hl.ns i y hy
    have := h8 i y hi hy
    have e := hp.2.2.2.2.2.1
    show y.es.length ≤ 500
    omega
set_option maxHeartbeats 4000000 in
set_option maxRecDepth 20000 in
theorem great_told (d : PlanD) (w : World) (hl : d.lie w) : Calls Tryz.prog 6 #[d.v] w (GTold d w) := by
  obtain ⟨W1, hW1⟩ : ∃ W1, W1 = w.alloc d.box := ⟨_, rfl⟩
  have B : Hid (Below w.heap.size w W1) := by rw [hW1]; exact bl_alloc (Below.refl _ _)
  have HL := hid (hl.step B.out)
  obtain ⟨b0, hb0⟩ : ∃ b0, b0 = w.heap.size := ⟨_, rfl⟩
  have c0 : W1.cell? ⟨b0, 0, none⟩ = some (.slice d.heads.a d.heads.n d.heads.c) := by rw [hW1, hb0]; simp
  have c2 : W1.cell? ⟨b0, 2, none⟩ = some (.slice d.states.a d.states.n d.states.c) := by rw [hW1, hb0]; simp
  have c3 : W1.cell? ⟨b0, 3, none⟩ = some (.slice d.acts.a d.acts.n d.acts.c) := by rw [hW1, hb0]; simp
  have c4 : W1.cell? ⟨b0, 4, none⟩ = some (.slice d.tabs.a d.tabs.n d.tabs.c) := by rw [hW1, hb0]; simp
  have c5 : W1.cell? ⟨b0, 5, none⟩ = some (.slice d.nodes.a d.nodes.n d.nodes.c) := by rw [hW1, hb0]; simp
  have HT : Hid (∀ b : Bool, (b = false → d.p.little) → GTold d w (.returned (.bool b)) W1) := fun b h => ⟨b, rfl, h, B.out⟩
  have HT0 : Hid (∀ b : Bool, (b = false → d.p.little) → GTold d w (.returned (.bool b)) (w.alloc d.box)) := by rw [← hW1]; exact HT
  have HW := hid hW1
  have HB0 := hid hb0
  clear hl hW1 hb0 B
  by_cases hbig : (50 : Int) < (d.heads.n : Int) ∨ (500 : Int) < (d.mta.n : Int) ∨ (50 : Int) < (d.states.n : Int) ∨ (50 : Int) < (d.acts.n : Int) ∨ (50 : Int) < (d.tabs.n : Int) ∨ (50 : Int) < (d.nodes.n : Int) ∨ (500 : Int) < (d.out.n : Int)
  · clear c0 c2 c3 c4 c5 HL
    go_enter Tryz.func6, Tryz.ntmps6
    go_wp2
    all_goals (first | (exfalso; omega) | (go_ret; exact HT0.out true (fun h => by cases h)))
  obtain ⟨n0, n1, n2, n3, n4, n5, n6⟩ : (d.heads.n : Int) ≤ 50 ∧ (d.mta.n : Int) ≤ 500 ∧ (d.states.n : Int) ≤ 50 ∧ (d.acts.n : Int) ≤ 50 ∧ (d.tabs.n : Int) ≤ 50 ∧ (d.nodes.n : Int) ≤ 50 ∧ (d.out.n : Int) ≤ 500 := by omega
  have HN : Hid ((d.heads.n : Int) ≤ 50 ∧ (d.mta.n : Int) ≤ 500 ∧ (d.states.n : Int) ≤ 50 ∧ (d.acts.n : Int) ≤ 50 ∧ (d.tabs.n : Int) ≤ 50 ∧ (d.nodes.n : Int) ≤ 50 ∧ (d.out.n : Int) ≤ 500) := ⟨n0, n1, n2, n3, n4, n5, n6⟩
  clear hbig
  have e0 : decide ((50 : Int) < (d.heads.n : Int)) = false := decide_eq_false (by omega)
  have e1 : decide ((500 : Int) < (d.mta.n : Int)) = false := decide_eq_false (by omega)
  have e2 : decide ((50 : Int) < (d.states.n : Int)) = false := decide_eq_false (by omega)
  have e3 : decide ((50 : Int) < (d.acts.n : Int)) = false := decide_eq_false (by omega)
  have e4 : decide ((50 : Int) < (d.tabs.n : Int)) = false := decide_eq_false (by omega)
  have e5 : decide ((50 : Int) < (d.nodes.n : Int)) = false := decide_eq_false (by omega)
  have e6 : decide ((500 : Int) < (d.out.n : Int)) = false := decide_eq_false (by omega)
  go_enter Tryz.func6, Tryz.ntmps6
  go_wp2
  rw [← HW.out]
  rw [← HB0.out]
  clear HW HB0 n1 n6 HT0 e0 e1 e2 e3 e4 e5 e6
  go_loopw [3] (fun q wr => ∃ k : Nat, k ≤ d.heads.n ∧ q = .int .i64 k ∧ Hid (∀ (i : Nat) (y : HeadD), i < k → d.hs[i]? = some y → y.w.n ≤ 500) ∧ Hid (W1 = wr)) (fun q _ => d.heads.n - (intOf q).toNat)
  case atStart => exact ⟨0, Nat.zero_le _, rfl, fun i _ hi => absurd hi (Nat.not_lt_zero _), rfl⟩
  case round =>
    obtain ⟨k3, hk, rfl, hP3, hW⟩ := hrel
    obtain rfl := hW.out
    clear hW
    by_cases hlt : k3 < d.heads.n
    · have hki : (k3 : Int) < (d.heads.n : Int) := by omega
      obtain ⟨g, off, x, ea, hxx, hx⟩ := row_at HL.out.hs hlt
      have HXX := hid hxx
      clear hxx
      have q0 := Eq.mp (by rw [Nat.mul_one]) hx.1.1
      clear hx
      by_cases g0 : (500 : Int) < (x.w.n : Int)
      · have f0 := decide_eq_true g0
        go_wp2
        go_ret
        exact HT.out true (fun h => by cases h)
      have f0 := decide_eq_false g0
      go_wp2
      go_roundw
      case rel => exact ⟨k3 + 1, by omega, by go_num, all_next hP3.out HXX.out (by omega), trivial⟩
      case measure => simp [intOf]; omega
    · have hki : ¬ (k3 : Int) < (d.heads.n : Int) := by omega
      go_wp2
      go_loopw [4] (fun q wr => ∃ k : Nat, k ≤ d.states.n ∧ q = .int .i64 k ∧ Hid (∀ (i : Nat) (y : StateD), i < k → d.ss[i]? = some y → y.cases.n ≤ 500) ∧ Hid (W1 = wr)) (fun q _ => d.states.n - (intOf q).toNat)
      case atStart => exact ⟨0, Nat.zero_le _, rfl, fun i _ hi => absurd hi (Nat.not_lt_zero _), rfl⟩
      case round =>
        obtain ⟨k4, hk, rfl, hP4, hW⟩ := hrel
        obtain rfl := hW.out
        clear hW
        by_cases hlt : k4 < d.states.n
        · have hki : (k4 : Int) < (d.states.n : Int) := by omega
          obtain ⟨g, off, x, ea, hxx, hx⟩ := row_at HL.out.ss hlt
          have HXX := hid hxx
          clear hxx
          have q0 := hx.2.2.2.1.1
          clear hx
          by_cases g0 : (500 : Int) < (x.cases.n : Int)
          · have f0 := decide_eq_true g0
            go_wp2
            go_ret
            exact HT.out true (fun h => by cases h)
          have f0 := decide_eq_false g0
          go_wp2
          go_roundw
          case rel => exact ⟨k4 + 1, by omega, by go_num, all_next hP4.out HXX.out (by omega), trivial⟩
          case measure => simp [intOf]; omega
        · have hki : ¬ (k4 : Int) < (d.states.n : Int) := by omega
          go_wp2
          go_loopw [5] (fun q wr => ∃ k : Nat, k ≤ d.acts.n ∧ q = .int .i64 k ∧ Hid (∀ (i : Nat) (y : ActD), i < k → d.al[i]? = some y → (y.w.n ≤ 500 ∧ y.ops.n ≤ 50) ∧ ∀ (i : Nat) (z : OpD), i < y.ops.n → y.os[i]? = some z → z.e.n ≤ 500) ∧ Hid (W1 = wr)) (fun q _ => d.acts.n - (intOf q).toNat)
          case atStart => exact ⟨0, Nat.zero_le _, rfl, fun i _ hi => absurd hi (Nat.not_lt_zero _), rfl⟩
          case round =>
            obtain ⟨k5, hk, rfl, hP5, hW⟩ := hrel
            obtain rfl := hW.out
            clear hW
            by_cases hlt : k5 < d.acts.n
            · have hki : (k5 : Int) < (d.acts.n : Int) := by omega
              obtain ⟨g, off, x, ea, hxx, hx⟩ := row_at HL.out.al hlt
              have HXX := hid hxx
              clear hxx
              have q0 := hx.1.1
              have q1 := hx.2.1.1
              have HX := hid hx.2.2.2
              clear hx
              by_cases g0 : (500 : Int) < (x.w.n : Int)
              · have f0 := decide_eq_true g0
                go_wp2
                go_ret
                exact HT.out true (fun h => by cases h)
              have f0 := decide_eq_false g0
              by_cases g1 : (50 : Int) < (x.ops.n : Int)
              · have f1 := decide_eq_true g1
                go_wp2
                go_ret
                exact HT.out true (fun h => by cases h)
              have f1 := decide_eq_false g1
              go_wp2
              go_loopw [6] (fun q wr => ∃ k : Nat, k ≤ x.ops.n ∧ q = .int .i64 k ∧ Hid (∀ (i : Nat) (y : OpD), i < k → x.os[i]? = some y → y.e.n ≤ 500) ∧ Hid (W1 = wr)) (fun q _ => x.ops.n - (intOf q).toNat)
              case atStart => exact ⟨0, Nat.zero_le _, rfl, fun i _ hi => absurd hi (Nat.not_lt_zero _), rfl⟩
              case round =>
                obtain ⟨k6, hk, rfl, hP6, hW⟩ := hrel
                obtain rfl := hW.out
                clear hW
                by_cases hlt : k6 < x.ops.n
                · have hki : (k6 : Int) < (x.ops.n : Int) := by omega
                  obtain ⟨g2, off2, x2, ea2, hxx2, hx2⟩ := row_at HX.out hlt
                  have HXX2 := hid hxx2
                  clear hxx2
                  have q2 := hx2.2.2.2.2.1.1
                  clear hx2
                  by_cases g0 : (500 : Int) < (x2.e.n : Int)
                  · have f0 := decide_eq_true g0
                    go_wp2
                    go_ret
                    exact HT.out true (fun h => by cases h)
                  have f0 := decide_eq_false g0
                  go_wp2
                  go_roundw
                  case rel => exact ⟨k6 + 1, by omega, by go_num, all_next hP6.out HXX2.out (by omega), trivial⟩
                  case measure => simp [intOf]; omega
                · have hki : ¬ (k6 : Int) < (x.ops.n : Int) := by omega
                  go_wp2
                  go_roundw
                  case rel => exact ⟨k5 + 1, by omega, by go_num, all_next hP5.out HXX.out ⟨⟨by omega, by omega⟩, fun i z hi hz => hP6.out i z (by omega) hz⟩, trivial⟩
                  case measure => simp [intOf]; omega
            · have hki : ¬ (k5 : Int) < (d.acts.n : Int) := by omega
              go_wp2
              go_loopw [7] (fun q wr => ∃ k : Nat, k ≤ d.tabs.n ∧ q = .int .i64 k ∧ Hid (∀ (i : Nat) (y : TabD), i < k → d.ts[i]? = some y → y.keys.n ≤ 500 ∧ y.acts.n ≤ 500 ∧ y.args.n ≤ 500) ∧ Hid (W1 = wr)) (fun q _ => d.tabs.n - (intOf q).toNat)
              case atStart => exact ⟨0, Nat.zero_le _, rfl, fun i _ hi => absurd hi (Nat.not_lt_zero _), rfl⟩
              case round =>
                obtain ⟨k7, hk, rfl, hP7, hW⟩ := hrel
                obtain rfl := hW.out
                clear hW
                by_cases hlt : k7 < d.tabs.n
                · have hki : (k7 : Int) < (d.tabs.n : Int) := by omega
                  obtain ⟨g, off, x, ea, hxx, hx⟩ := row_at HL.out.ts hlt
                  have HXX := hid hxx
                  clear hxx
                  have q0 := hx.2.1.1
                  have q1 := hx.2.2.1.1
                  have q2 := hx.2.2.2.2.2.1.1
                  clear hx
                  by_cases g0 : (500 : Int) < (x.keys.n : Int)
                  · have f0 := decide_eq_true g0
                    go_wp2
                    go_ret
                    exact HT.out true (fun h => by cases h)
                  have f0 := decide_eq_false g0
                  by_cases g1 : (500 : Int) < (x.acts.n : Int)
                  · have f1 := decide_eq_true g1
                    go_wp2
                    go_ret
                    exact HT.out true (fun h => by cases h)
                  have f1 := decide_eq_false g1
                  by_cases g2 : (500 : Int) < (x.args.n : Int)
                  · have f2 := decide_eq_true g2
                    go_wp2
                    go_ret
                    exact HT.out true (fun h => by cases h)
                  have f2 := decide_eq_false g2
                  go_wp2
                  go_roundw
                  case rel => exact ⟨k7 + 1, by omega, by go_num, all_next hP7.out HXX.out ⟨by omega, by omega, by omega⟩, trivial⟩
                  case measure => simp [intOf]; omega
                · have hki : ¬ (k7 : Int) < (d.tabs.n : Int) := by omega
                  go_wp2
                  go_loopw [8] (fun q wr => ∃ k : Nat, k ≤ d.nodes.n ∧ q = .int .i64 k ∧ Hid (∀ (i : Nat) (y : NodeD), i < k → d.ns[i]? = some y → y.e.n ≤ 500) ∧ Hid (W1 = wr)) (fun q _ => d.nodes.n - (intOf q).toNat)
                  case atStart => exact ⟨0, Nat.zero_le _, rfl, fun i _ hi => absurd hi (Nat.not_lt_zero _), rfl⟩
                  case round =>
                    obtain ⟨k8, hk, rfl, hP8, hW⟩ := hrel
                    obtain rfl := hW.out
                    clear hW
                    by_cases hlt : k8 < d.nodes.n
                    · have hki : (k8 : Int) < (d.nodes.n : Int) := by omega
                      obtain ⟨g, off, x, ea, hxx, hx⟩ := row_at HL.out.ns hlt
                      have HXX := hid hxx
                      clear hxx
                      have q0 := hx.2.2.1.1
                      clear hx
                      by_cases g0 : (500 : Int) < (x.e.n : Int)
                      · have f0 := decide_eq_true g0
                        go_wp2
                        go_ret
                        exact HT.out true (fun h => by cases h)
                      have f0 := decide_eq_false g0
                      go_wp2
                      go_roundw
                      case rel => exact ⟨k8 + 1, by omega, by go_num, all_next hP8.out HXX.out (by omega), trivial⟩
                      case measure => simp [intOf]; omega
                    · have hki : ¬ (k8 : Int) < (d.nodes.n : Int) := by omega
                      go_wp2
                      go_ret
                      exact HT.out false fun _ => little_of HL.out HN.out (fun i y hi hy => hP3.out i y (by omega) hy) (fun i y hi hy => hP4.out i y (by omega) hy) (fun i y hi hy => hP5.out i y (by omega) hy) (fun i y hi hy => hP7.out i y (by omega) hy) (fun i y hi hy => hP8.out i y (by omega) hy)
theorem small_of {d : PlanD} {w : World} (hl : d.lie w) (h : d.p.little) : d.small := by
  have mem : ∀ {α β : Type} {L : List α} {f : α → β} {x : α}, x ∈ L → f x ∈ L.map f := fun hx => List.mem_map.2 ⟨_, hx, rfl⟩
  refine ⟨?_, fun x hx => ?_, fun t ht => ?_, ?_⟩
  · have := h.al
    simp [PlanD.p, hl.al.1] at this
    omega
  · obtain ⟨i, hi, rfl⟩ := List.getElem_of_mem hx
    obtain ⟨g, o, _, hp⟩ := hl.al.2 i _ (List.getElem?_eq_getElem hi)
    have := (h.aw _ (mem hx)).1
    have e := hp.2.2.1.1
    have : (d.al[i].p.ws).length = d.al[i].ws.length := rfl
    omega
  · obtain ⟨i, hi, rfl⟩ := List.getElem_of_mem ht
    obtain ⟨g, o, _, hp⟩ := hl.ts.2 i _ (List.getElem?_eq_getElem hi)
    have h1 := h.tl _ (mem ht)
    have e := hp.2.2.2.2.2.2.1.1
    have e2 := hp.2.2.2.2.2.2.2.1.1
    have e3 := hp.2.2.2.2.2.2.2.2.1
    have f1 : (d.ts[i].p.ks).length = d.ts[i].ks.length := rfl
    have f2 : (d.ts[i].p.al).length = d.ts[i].al.length := rfl
    have f3 : (d.ts[i].p.zs).length = d.ts[i].zs.length := rfl
    omega
  · have := h.os
    simp [PlanD.p, hl.os.1] at this
    omega
end Go.Proofs.YtedeiaokohdhpaaGreat
