/- Texts of one chain, joined: QHead. -/
import Derived.Test.YtedeiaokohdhpaaGreatG17
import Derived.Test.YtedeiaokohdhpaaGreatG19
import Derived.Test.YtedeiaokohdhpaaGreatG31
import Derived.Test.YtedeiaokohdhpaaGreatG1
namespace Go.Proofs.YtedeiaokohdhpaaGreat
open Go.RowKit
def sizeC (ws : List Int) : Int :=
  if ws.length < 1 ∨ 8 < ws.length then 2 else if ∀ j, j < ws.length → Mth.Fit ws j then (if Mth.off ws ws.length % 8 = 0 ∧ Mth.off ws ws.length ≤ 256 then 0 else 6) else 6
theorem size_code (a : Option Addr) (m c : Nat) (ws : List Int) (w : World) (hw : Has .i64 w a m ws) :
    Calls Tryz.prog 85 #[HD a m c] w fun e w' => ∃ x y, e = .returned (.tuple #[.int .i64 x, .agg #[.int .i64 (sizeC ws), .int .i64 y]]) ∧ Below w.heap.size w w' := by
  have hl := hw.1
  by_cases h1 : (m : Int) < 1 ∨ 8 < (m : Int)
  · have e : sizeC ws = 2 := by unfold sizeC; rw [if_pos (by omega)]
    rw [e]
    exact (size_many a m c w h1).mono fun _ _ ⟨h2, h3⟩ => ⟨0, -1, h2, h3⟩
  have hn : ¬ (ws.length < 1 ∨ 8 < ws.length) := by omega
  rcases first_of (Mth.Fit ws) m with hall | ⟨i, hi, hbad, hgood⟩
  · have e : sizeC ws = if Mth.off ws m % 8 = 0 ∧ Mth.off ws m ≤ 256 then 0 else 6 := by
      unfold sizeC
      rw [if_neg hn, hl, if_pos hall]
    rw [e]
    refine (size_end a m c ws w (by omega) (by omega) hw hall).mono fun q w' ⟨x, h2, h3, h4⟩ => ?_
    by_cases h5 : Mth.off ws m % 8 = 0 ∧ Mth.off ws m ≤ 256
    · rw [if_pos h5]
      exact ⟨_, _, by rw [h2, h3.1 h5], h4⟩
    · rw [if_neg h5]
      exact ⟨_, _, by rw [h2, h3.2 h5], h4⟩
  · have e : sizeC ws = 6 := by
      unfold sizeC
      rw [if_neg hn, if_neg (fun h => hbad (h i (by omega)))]
    rw [e]
    exact (size_width a m c i ws w (by omega) (by omega) hw hi hgood hbad).mono fun _ _ ⟨h2, h3⟩ => ⟨0, i, h2, h3⟩
set_option maxHeartbeats 2000000 in
set_option maxRecDepth 20000 in
theorem head_any (d : PlanD) (w : World) (hl : d.lie w) (k : Nat) (hk : k < d.heads.n) :
    Calls Tryz.prog 46 #[d.v, .int .i64 k] w fun e w' => e = .returned (.int .i64 (sizeC (d.p.hs.getD k []))) ∧ Below w.heap.size w w' := by
  obtain ⟨g, off, x, ea, hx, hp⟩ := row_at hl.hs hk
  rw [Nat.mul_one] at hp
  have e1 : d.p.hs.getD k [] = x.ws := by simp only [PlanD.p, List.getD_eq_getElem?_getD, List.getElem?_map, hx]; rfl
  rw [e1]
  have bw : ∀ o, Below w.heap.size w (w.alloc o) := fun o => bl_alloc (Below.refl _ _)
  have k0 : ∀ o, (w.alloc o).cell? ⟨g, off + k, none⟩ = some (.slice x.w.a x.w.n x.w.c) := fun o => cell_keep hp.1.1 (bw o)
  have HS : Hid (∀ o, Calls Tryz.prog 85 #[.agg #[.slice x.w.a x.w.n x.w.c]] (w.alloc o) fun e w' => ∃ u v, e = .returned (.tuple #[.int .i64 u, .agg #[.int .i64 (sizeC x.ws), .int .i64 v]]) ∧ Below (w.alloc o).heap.size (w.alloc o) w') := fun o => size_code x.w.a x.w.n x.w.c x.ws (w.alloc o) (hp.2.step (bw o))
  have hki : (k : Int) < (d.heads.n : Int) := by omega
  generalize sizeC x.ws = C at *
  clear hl hx hp e1
  go_enter Tryz.func46, Tryz.ntmps46
  go_wp2_with fail
  refine (HS.out _).mono ?_
  rintro e w1 ⟨u, v, rfl, hb1⟩
  have HB := hid (bl_step (bw _) hb1)
  clear HS hb1 bw k0
  go_wp2
  go_ret
  exact ⟨rfl, bl_alloc HB.out⟩
set_option maxHeartbeats 2000000 in
set_option maxRecDepth 20000 in
theorem meta_any (d : PlanD) (w : World) (hl : d.lie w) (k : Nat) (hk : k < d.mta.n) :
    Calls Tryz.prog 47 #[d.v, .int .i64 k] w fun e w' => e = .returned (.int .i64 (widC (d.p.ms.getD k 0))) ∧ Below w.heap.size w w' := by
  obtain ⟨g, off, x, ea, hx, c0⟩ := int_at hl.ms hk
  have e1 : d.p.ms.getD k 0 = x := by simp only [PlanD.p, List.getD_eq_getElem?_getD, hx, Option.getD_some]
  rw [e1]
  have bw : ∀ o, Below w.heap.size w (w.alloc o) := fun o => bl_alloc (Below.refl _ _)
  have k0 : ∀ o, (w.alloc o).cell? ⟨g, off + k, none⟩ = some (.int .i64 x) := fun o => cell_keep c0 (bw o)
  have HS : Hid (∀ w', Calls Tryz.prog 86 #[.int .i64 x] w' fun e w'' => e = .returned (.int .i64 (widC x)) ∧ w'' = w') := fun w' => wid_any x w'
  have hki : (k : Int) < (d.mta.n : Int) := by omega
  generalize widC x = C at *
  clear hl hx c0 e1
  go_enter Tryz.func47, Tryz.ntmps47
  go_wp2_with fail
  refine (HS.out _).mono ?_
  rintro e w1 ⟨rfl, rfl⟩
  clear HS k0
  go_wp2
  go_ret
  exact ⟨rfl, bw _⟩
end Go.Proofs.YtedeiaokohdhpaaGreat
