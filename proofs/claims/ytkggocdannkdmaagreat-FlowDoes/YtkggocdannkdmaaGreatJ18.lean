/- Texts of one chain, joined: QForm1, QForm. -/
import Derived.Test.YtkggocdannkdmaaGreatVQR7
import Derived.Test.YtkggocdannkdmaaGreatJ3
import Derived.Test.YtkggocdannkdmaaGreatVSizeRef
import Derived.Test.YtkggocdannkdmaaGreatVQGreat2
namespace Go.Proofs.YtkggocdannkdmaaGreat
open Go.RowKit

/-- what SizeOf tells: its code -/
theorem rsize_code (a : Option Addr) (m c : Nat) (ws : List Int) (w : World) (hw : Has .i64 w a m ws) :
    Calls Tryz.prog 64 #[HD a m c] w fun e w' => ∃ x y, e = .returned (.tuple #[.int .i64 x, .agg #[.int .i64 (sizeC ws), .int .i64 y]]) ∧ Below w.heap.size w w' := by
  have hl := hw.1
  by_cases h1 : (m : Int) < 1 ∨ 8 < (m : Int)
  · have e : sizeC ws = 2 := by unfold sizeC; rw [if_pos (by omega)]
    rw [e]
    exact (rsize_many a m c w h1).mono fun _ _ ⟨h2, h3⟩ => ⟨0, -1, h2, h3⟩
  have hn : ¬ (ws.length < 1 ∨ 8 < ws.length) := by omega
  rcases first_of (Mth.Fit ws) m with hall | ⟨i, hi, hbad, hgood⟩
  · have e : sizeC ws = if Mth.off ws m % 8 = 0 ∧ Mth.off ws m ≤ 256 then 0 else 6 := by
      unfold sizeC
      rw [if_neg hn, hl, if_pos hall]
    rw [e]
    refine (rsize_end a m c ws w (by omega) (by omega) hw hall).mono fun q w' ⟨x, h2, h3, h4⟩ => ?_
    by_cases h5 : Mth.off ws m % 8 = 0 ∧ Mth.off ws m ≤ 256
    · rw [if_pos h5]
      exact ⟨_, _, by rw [h2, h3.1 h5], h4⟩
    · rw [if_neg h5]
      exact ⟨_, _, by rw [h2, h3.2 h5], h4⟩
  · have e : sizeC ws = 6 := by
      unfold sizeC
      rw [if_neg hn, if_neg (fun h => hbad (h i (by omega)))]
    rw [e]
    exact (rsize_width a m c i ws w (by omega) (by omega) hw hi hgood hbad).mono fun _ _ ⟨h2, h3⟩ => ⟨0, i, h2, h3⟩

theorem nofault_all {d : PlanD} {cs : Nat → Nat → Int} {k : Nat} (h : NoFault d cs k) : ∀ j, j < manyOf d k → cs k j = 0 := by
  obtain ⟨A, h⟩ := h
  rcases h with ⟨_, h, _⟩ | ⟨_, ⟨n, _, hc, _, h, _⟩ | ⟨h, _, _⟩⟩
  · cases h
  · exact absurd h.symm hc
  · exact h

theorem ex_many {d : PlanD} {cs : Nat → Nat → Int} {k : Nat} (hk : k < 7) (hp : ∀ j, j < k → NoFault d cs j) (h : (manyOf d k : Int) < leastOf k ∨ mostOf k < (manyOf d k : Int)) : CheckIs d cs 2 (-((k : Int) + 1)) :=
  .inl ⟨k, hk, .inl ⟨h, rfl, rfl⟩, by decide, hp⟩

theorem ex_at {d : PlanD} {cs : Nat → Nat → Int} {k n : Nat} {C : Int} (hk : k < 7) (hp : ∀ j, j < k → NoFault d cs j) (h : ¬ ((manyOf d k : Int) < leastOf k ∨ mostOf k < (manyOf d k : Int))) (hn : n < manyOf d k) (hz : ∀ j, j < n → cs k j = 0) (hC : cs k n = C) (h0 : C ≠ 0) : CheckIs d cs C (1000 * ((k : Int) + 1) + n) :=
  .inl ⟨k, hk, .inr ⟨h, .inl ⟨n, hn, by rw [hC]; exact h0, hz, hC.symm, rfl⟩⟩, h0, hp⟩

theorem ex_next {d : PlanD} {cs : Nat → Nat → Int} {k : Nat} (hp : ∀ j, j < k → NoFault d cs j) (h : ¬ ((manyOf d k : Int) < leastOf k ∨ mostOf k < (manyOf d k : Int))) (hz : ∀ j, j < manyOf d k → cs k j = 0) : ∀ j, j < k + 1 → NoFault d cs j := by
  intro j hj
  by_cases e : j = k
  · subst e
    exact ⟨0, .inr ⟨h, .inr ⟨hz, rfl, rfl⟩⟩⟩
  · exact hp j (by omega)

theorem next_zero {c : Nat → Int} {k : Nat} (h : ∀ j, j < k → c j = 0) (hk : c k = 0) : ∀ j, j < k + 1 → c j = 0 := by
  intro j hj
  by_cases e : j = k
  · rw [e]; exact hk
  · exact h j (by omega)

theorem wid_of {x : Int} (h : widC x = 0) : 1 ≤ x ∧ x ≤ 48 := by
  unfold widC at h
  split at h
  · cases h
  · omega

theorem size_wid {ws : List Int} (h : sizeC ws = 0) : ∀ x ∈ ws, 1 ≤ x ∧ x ≤ 48 := by
  intro x hx
  unfold sizeC at h
  split at h
  · cases h
  split at h
  · rename_i _ hf
    obtain ⟨i, hi, rfl⟩ := List.getElem_of_mem hx
    have := hf i hi
    unfold Mth.Fit at this
    rw [List.getD_eq_getElem?_getD, List.getElem?_eq_getElem hi, Option.getD_some] at this
    omega
  · cases h

theorem first_zero {l : List Int} (h : firstC l = 0) : ∀ x ∈ l, x = 0 := by
  induction l with
  | nil => intro x hx; cases hx
  | cons y l ih =>
    unfold firstC at h
    split at h
    · rename_i hy
      exact absurd h hy
    · rename_i hy
      intro x hx
      rcases List.mem_cons.1 hx with rfl | hx
      · omega
      · exact ih h x hx

/-- widths of fields, if headers and Meta have no fault -/
theorem width_ok {d : PlanD} {w : World} (hl : d.lie w) (h : ∀ j, j < 2 → NoFault d (codeP d.p) j) (r : RefD) : 0 ≤ d.p.width r [] ∧ d.p.width r [] ≤ 48 := by
  have h0 := nofault_all (h 0 (by decide))
  have h1 := nofault_all (h 1 (by decide))
  have key : ∀ x ∈ d.p.fields r.h [], 0 ≤ x ∧ x ≤ 48 := by
    intro x hx
    unfold PPlan.fields at hx
    split at hx
    · obtain ⟨i, hi, rfl⟩ := List.getElem_of_mem hx
      have hi' : i < d.ms.length := hi
      have := h1 i (by show i < d.mta.n; rw [← hl.ms.1]; exact hi')
      have e : codeP d.p 1 i = widC (d.p.ms.getD i 0) := rfl
      rw [e, List.getD_eq_getElem?_getD, List.getElem?_eq_getElem hi, Option.getD_some] at this
      have := wid_of this
      omega
    split at hx
    · cases hx
    split at hx
    · simp only [List.mem_cons, List.not_mem_nil, or_false] at hx
      omega
    split at hx
    · cases hx
    · rename_i hh
      have hn : r.h.toNat < d.heads.n := by
        have : d.p.hs.length = d.heads.n := by simp [PlanD.p, hl.hs.1]
        omega
      have := h0 r.h.toNat hn
      have e : codeP d.p 0 r.h.toNat = sizeC (d.p.hs.getD r.h.toNat []) := rfl
      rw [e] at this
      have := size_wid this x hx
      omega
  unfold PPlan.width
  split
  · omega
  · rename_i hh
    have hf : r.f.toNat < (d.p.fields r.h []).length := by omega
    rw [List.getD_eq_getElem?_getD, List.getElem?_eq_getElem hf, Option.getD_some]
    exact key _ (List.getElem_mem hf)

/-- widths of parameters, if actions have no fault -/
theorem param_ok {d : PlanD} {w : World} (hl : d.lie w) (h : NoFault d (codeP d.p) 3) : ∀ x ∈ d.al, ∀ y ∈ x.ws, 1 ≤ y ∧ y ≤ 64 := by
  intro x hx y hy
  obtain ⟨i, hi, rfl⟩ := List.getElem_of_mem hx
  have hi' : i < d.acts.n := by rw [← hl.al.1]; exact hi
  have := nofault_all h i hi'
  have e : codeP d.p 3 i = actC d.p (d.al[i]).p := by
    show actC d.p (d.p.al.getD i PAct.z) = _
    rw [show d.p.al.getD i PAct.z = (d.al[i]).p from map_getD (List.getElem?_eq_getElem hi) _]
  rw [e] at this
  unfold actC at this
  split at this
  · cases this
  · unfold or2 at this
    split at this
    · rename_i hne
      exact absurd this hne
    · rename_i hz
      have h0 : firstC ((d.al[i]).p.ws.map widC) = 0 := by omega
      have := wid_of (first_zero h0 (widC y) (List.mem_map.2 ⟨y, hy, rfl⟩))
      omega
end Go.Proofs.YtkggocdannkdmaaGreat

namespace Go.Proofs.YtkggocdannkdmaaGreat
open Go.RowKit

theorem ex_at' {d : PlanD} {cs : Nat → Nat → Int} {k n : Nat} {C A : Int} (hk : k < 7) (hp : ∀ j, j < k → NoFault d cs j) (h : ¬ ((manyOf d k : Int) < leastOf k ∨ mostOf k < (manyOf d k : Int))) (hn : n < manyOf d k) (hz : ∀ j, j < n → cs k j = 0) (hC : cs k n = C) (h0 : C ≠ 0) (hA : A = 1000 * ((k : Int) + 1) + n) : CheckIs d cs C A := by
  rw [hA]
  exact ex_at hk hp h hn hz hC h0

set_option maxHeartbeats 64000000 in
set_option maxRecDepth 20000 in
theorem form_any (d : PlanD) (w : World) (hl : d.lie w) (hm : d.p.little) : Calls Tryz.prog 48 #[d.v] w (CheckDone d (codeP d.p) w) := by
  obtain ⟨W2, hW⟩ : ∃ W2, W2 = (w.alloc d.box).alloc FZ := ⟨_, rfl⟩
  obtain ⟨b0, h0⟩ : ∃ b0, b0 = w.heap.size := ⟨_, rfl⟩
  obtain ⟨b1, h1⟩ : ∃ b1, b1 = w.heap.size + 1 := ⟨_, rfl⟩
  have hsz : W2.heap.size = w.heap.size + 2 := by rw [hW]; simp
  have zc : W2.cell? ⟨b0, 0, none⟩ = some (.slice d.heads.a d.heads.n d.heads.c) ∧ W2.cell? ⟨b0, 1, none⟩ = some (.slice d.mta.a d.mta.n d.mta.c) ∧ W2.cell? ⟨b0, 2, none⟩ = some (.slice d.states.a d.states.n d.states.c) ∧ W2.cell? ⟨b0, 3, none⟩ = some (.slice d.acts.a d.acts.n d.acts.c) ∧ W2.cell? ⟨b0, 4, none⟩ = some (.slice d.tabs.a d.tabs.n d.tabs.c) ∧ W2.cell? ⟨b0, 5, none⟩ = some (.slice d.nodes.a d.nodes.n d.nodes.c) ∧ W2.cell? ⟨b0, 6, none⟩ = some (.slice d.out.a d.out.n d.out.c) := by rw [hW, h0]; refine ⟨?_, ?_, ?_, ?_, ?_, ?_, ?_⟩ <;> exact (World.cell?_alloc_past _ _ _ (by simp)).trans ((World.cell?_alloc_at _ _ _ _ rfl).trans rfl)
  have HB : Hid (Below w.heap.size w W2) := by rw [hW]; exact bl_alloc (bl_alloc (Below.refl _ _))
  have HBX : Hid (∀ w', Below W2.heap.size W2 w' → w'.cell? ⟨b1, 0, none⟩ = some (.int .i64 0) ∧ w'.cell? ⟨b1, 1, none⟩ = some (.int .i64 0) ∧ w'.frozen? ⟨b1, 0, none⟩ = false ∧ w'.frozen? ⟨b1, 1, none⟩ = false ∧ b1 < w'.heap.size) := fun w' h => by
    have hb : b1 < W2.heap.size := by rw [hsz, h1]; omega
    have hc : ∀ i v, (#[.int .i64 0, .int .i64 0] : Array Value)[i]? = some v → w'.cell? ⟨b1, i, none⟩ = some v := fun i v hv => cell_keep (by rw [hW, h1]; exact (World.cell?_alloc_at _ _ _ _ (by simp)).trans hv) h
    have hf : ∀ i, w'.frozen? ⟨b1, i, none⟩ = false := fun i => (h.frozen (p := ⟨b1, i, none⟩) hb).trans (by rw [hW, h1]; exact World.frozen?_alloc_at _ _ _ _ (by simp))
    exact ⟨hc 0 _ rfl, hc 1 _ rfl, hf 0, hf 1, Nat.lt_of_lt_of_le hb h.size⟩
  have HBE : Hid (∀ w' x y, Below W2.heap.size W2 w' → Below w.heap.size w ((w'.setCell ⟨b1, 0, none⟩ x).setCell ⟨b1, 1, none⟩ y)) := fun w' x y h => (Below.setCell (Below.setCell (bl_step HB.out h) (by show w.heap.size ≤ b1; omega) _) (by show w.heap.size ≤ b1; omega) _)
  have EW := hid hW
  have E0 := hid h0
  have E1 := hid h1
  have ZC := hid zc
  have HL := hid hl
  have HM := hid hm
  have HSM := hid (small_of hl hm)
  have CUR := hid (Below.refl W2.heap.size W2)
  obtain ⟨z0, z1, z2, z3, z4, z5, z6⟩ := zc
  have P0 : Hid (∀ j, j < 0 → NoFault d (codeP d.p) j) := fun j hj => absurd hj (Nat.not_lt_zero _)
  have ln0 : d.heads.n ≤ 50 := by have := hm.hs; simp [PlanD.p, hl.hs.1] at this; exact this
  have ln1 : d.mta.n ≤ 500 := by have := hm.ms; simp [PlanD.p, hl.ms.1] at this; exact this
  have ln2 : d.states.n ≤ 50 := by have := hm.ss; simp [PlanD.p, hl.ss.1] at this; exact this
  have ln3 : d.acts.n ≤ 50 := by have := hm.al; simp [PlanD.p, hl.al.1] at this; exact this
  have ln4 : d.tabs.n ≤ 50 := by have := hm.ts; simp [PlanD.p, hl.ts.1] at this; exact this
  have ln5 : d.nodes.n ≤ 50 := by have := hm.ns; simp [PlanD.p, hl.ns.1] at this; exact this
  have ln6 : d.out.n ≤ 500 := by have := hm.os; simp [PlanD.p, hl.os.1] at this; exact this
  clear hW h0 h1 hl hm hsz
  by_cases hm0 : (6 : Int) < (d.heads.n : Int)
  · have g := decide_eq_true hm0
    have HE : Hid (∀ w', Below w.heap.size w w' → CheckDone d (codeP d.p) w (.returned (.agg #[.int .i64 (2), .int .i64 (-1)])) w') := fun w' h => ⟨_, _, ex_many (k := 0) (by decide) P0.out (.inr hm0), rfl, h⟩
    go_enter Tryz.func48, Tryz.ntmps48
    go_wp2_with fail
    rw [← EW.out, ← E1.out, ← E0.out]
    refine (fault_any _ _ _).mono ?_
    rintro e w1 ⟨rfl, hb1⟩
    obtain ⟨t0, t1, r0, r1, hs1⟩ := HBX.out w1 (bl_step CUR.out hb1)
    have HEB := hid (HBE.out w1 (.int .i64 (2)) (.int .i64 (-1)) (bl_step CUR.out hb1))
    clear hb1
    go_wp2
    exact bodyPost_ret (v := .agg #[.int .i64 (2), .int .i64 (-1)]) (by simp [results, Tryz.results48, go_sem, *]) rfl (HE.out _ HEB.out)
  have g0 := decide_eq_false hm0
  have NM0 : Hid (¬ ((manyOf d 0 : Int) < leastOf 0 ∨ mostOf 0 < (manyOf d 0 : Int))) := fun h => h.elim (fun h => absurd h (by show ¬ (d.heads.n : Int) < 0; omega)) hm0
  go_enter Tryz.func48, Tryz.ntmps48
  go_wp2
  rw [← EW.out, ← E1.out, ← E0.out]
  clear EW E0 E1
  go_loopw [3, 4, 5] (fun q _ _ wr => ∃ i : Nat, i ≤ d.heads.n ∧ q = .int .i64 i ∧ Hid (∀ j, j < i → codeP d.p 0 j = 0) ∧ Hid (Below W2.heap.size W2 wr)) (fun q _ _ _ => d.heads.n - (intOf q).toNat)
  case atStart => exact ⟨0, Nat.zero_le _, rfl, fun j hj => absurd hj (Nat.not_lt_zero _), CUR⟩
  case round =>
    obtain ⟨i, hi, rfl, HZ0, CU0⟩ := hrel
    have z0 := cell_keep ZC.out.1 CU0.out
    by_cases hlt : i < d.heads.n
    · have hii : (i : Int) < (d.heads.n : Int) := by omega
      obtain ⟨g, off, x, ea, hx, hp⟩ := row_at (HL.out.hs.step HeadD.keeps (bl_step HB.out CU0.out)) hlt
      obtain ⟨a0, ea0⟩ : ∃ a, d.heads.a = a := ⟨_, rfl⟩
      rw [ea0] at z0
      obtain rfl : a0 = some ⟨g, off, none⟩ := by rw [← ea0]; exact ea
      have c0 := Eq.mp (by rw [Nat.mul_one]) hp.1.1
      have HSZ := hid (rsize_code x.w.a x.w.n x.w.c x.ws wr hp.2)
      have HCD : Hid (codeP d.p 0 i = sizeC x.ws) := by
        show sizeC (d.p.hs.getD i []) = _
        rw [show d.p.hs.getD i [] = x.ws from map_getD hx _]
      generalize sizeC x.ws = CC at *
      clear ea ea0 hx hp
      go_wp2_with fail
      refine HSZ.out.mono ?_
      rintro e w3 ⟨xx, yy, rfl, hb3⟩
      have HC : Hid (Below W2.heap.size W2 (w3.alloc (.cells #[.int .i64 CC, .int .i64 yy] 35))) := bl_alloc (bl_step CU0.out hb3)
      clear hb3 HSZ
      by_cases hc : CC = 0
      · have hcn : (CC != 0) = false := by simpa using hc
        have HN := hid (next_zero HZ0.out (by rw [HCD.out]; exact hc))
        clear hc
        go_wp2
        go_roundw
        case rel => exact ⟨i + 1, by omega, by go_num, HN, HC⟩
        case measure => simp [intOf]; omega
      · have hcn : (CC != 0) = true := by simpa using hc
        have HE : Hid (∀ w', Below w.heap.size w w' → CheckDone d (codeP d.p) w (.returned (.agg #[.int .i64 (CC), .int .i64 (1000 + (i : Int))])) w') := fun w' h => ⟨_, _, ex_at' (k := 0) (n := i) (by decide) P0.out NM0.out hlt HZ0.out HCD.out hc (by omega), rfl, h⟩
        go_wp2_with fail
        refine (fault_any _ _ _).mono ?_
        rintro e w1 ⟨rfl, hb1⟩
        obtain ⟨t0, t1, r0, r1, hs1⟩ := HBX.out w1 (bl_step HC.out hb1)
        have HEB := hid (HBE.out w1 (.int .i64 (CC)) (.int .i64 (1000 + (i : Int))) (bl_step HC.out hb1))
        clear hb1
        go_wp2
        exact bodyPost_ret (v := .agg #[.int .i64 (CC), .int .i64 (1000 + (i : Int))]) (by simp [results, Tryz.results48, go_sem, *]) rfl (HE.out _ HEB.out)
    · have hii : ¬ (i : Int) < (d.heads.n : Int) := by omega
      have P1 : Hid (∀ j, j < 1 → NoFault d (codeP d.p) j) := ex_next (k := 0) P0.out NM0.out (fun j hj => HZ0.out j (by have hj' : j < d.heads.n := hj; omega))
      clear HZ0
      have z1 := cell_keep ZC.out.2.1 CU0.out
      by_cases hm1 : (4 : Int) < (d.mta.n : Int)
      · have g := decide_eq_true hm1
        have HE : Hid (∀ w', Below w.heap.size w w' → CheckDone d (codeP d.p) w (.returned (.agg #[.int .i64 (2), .int .i64 (-2)])) w') := fun w' h => ⟨_, _, ex_many (k := 1) (by decide) P1.out (.inr hm1), rfl, h⟩
        go_wp2_with fail
        refine (fault_any _ _ _).mono ?_
        rintro e w1 ⟨rfl, hb1⟩
        obtain ⟨t0, t1, r0, r1, hs1⟩ := HBX.out w1 (bl_step CU0.out hb1)
        have HEB := hid (HBE.out w1 (.int .i64 (2)) (.int .i64 (-2)) (bl_step CU0.out hb1))
        clear hb1
        go_wp2
        exact bodyPost_ret (v := .agg #[.int .i64 (2), .int .i64 (-2)]) (by simp [results, Tryz.results48, go_sem, *]) rfl (HE.out _ HEB.out)
      have g1 := decide_eq_false hm1
      have NM1 : Hid (¬ ((manyOf d 1 : Int) < leastOf 1 ∨ mostOf 1 < (manyOf d 1 : Int))) := fun h => h.elim (fun h => absurd h (by show ¬ (d.mta.n : Int) < 0; omega)) hm1
      go_wp2
      go_loopw [6] (fun q  wr => ∃ i : Nat, i ≤ d.mta.n ∧ q = .int .i64 i ∧ Hid (∀ j, j < i → codeP d.p 1 j = 0) ∧ Hid (Below W2.heap.size W2 wr)) (fun q  _ => d.mta.n - (intOf q).toNat)
      case atStart => exact ⟨0, Nat.zero_le _, rfl, fun j hj => absurd hj (Nat.not_lt_zero _), CU0⟩
      case round =>
        obtain ⟨i, hi, rfl, HZ1, CU1⟩ := hrel
        have z1 := cell_keep ZC.out.2.1 CU1.out
        by_cases hlt : i < d.mta.n
        · have hii : (i : Int) < (d.mta.n : Int) := by omega
          obtain ⟨g, off, u, ea, hu, r0⟩ := int_at' (HL.out.ms.step (bl_step HB.out CU1.out)) hlt
          obtain ⟨a0, ea0⟩ : ∃ a, d.mta.a = a := ⟨_, rfl⟩
          rw [ea0] at z1
          obtain rfl : a0 = some ⟨g, off, none⟩ := by rw [← ea0]; exact ea
          have HCD : Hid (codeP d.p 1 i = widC u) := by
            show widC (d.p.ms.getD i 0) = _
            rw [show d.p.ms.getD i 0 = u from by rw [List.getD_eq_getElem?_getD]; show d.ms[i]?.getD 0 = u; rw [hu]; rfl]
          clear ea ea0 hu
          by_cases q1 : u < 1
          · have f1 := decide_eq_true q1
            have HE : Hid (∀ w', Below w.heap.size w w' → CheckDone d (codeP d.p) w (.returned (.agg #[.int .i64 (6), .int .i64 (2000 + (i : Int))])) w') := fun w' h => ⟨_, _, ex_at' (k := 1) (n := i) (by decide) P1.out NM1.out hlt HZ1.out (by rw [HCD.out]; exact if_pos (.inl q1)) (by decide) (by omega), rfl, h⟩
            go_wp2_with fail
            refine (fault_any _ _ _).mono ?_
            rintro e w1 ⟨rfl, hb1⟩
            obtain ⟨t0, t1, r0, r1, hs1⟩ := HBX.out w1 (bl_step CU1.out hb1)
            have HEB := hid (HBE.out w1 (.int .i64 (6)) (.int .i64 (2000 + (i : Int))) (bl_step CU1.out hb1))
            clear hb1
            go_wp2
            exact bodyPost_ret (v := .agg #[.int .i64 (6), .int .i64 (2000 + (i : Int))]) (by simp [results, Tryz.results48, go_sem, *]) rfl (HE.out _ HEB.out)
          have f1 := decide_eq_false q1
          by_cases q2 : 48 < u
          · have f2 := decide_eq_true q2
            have HE : Hid (∀ w', Below w.heap.size w w' → CheckDone d (codeP d.p) w (.returned (.agg #[.int .i64 (6), .int .i64 (2000 + (i : Int))])) w') := fun w' h => ⟨_, _, ex_at' (k := 1) (n := i) (by decide) P1.out NM1.out hlt HZ1.out (by rw [HCD.out]; exact if_pos (.inr q2)) (by decide) (by omega), rfl, h⟩
            go_wp2_with fail
            refine (fault_any _ _ _).mono ?_
            rintro e w1 ⟨rfl, hb1⟩
            obtain ⟨t0, t1, r0, r1, hs1⟩ := HBX.out w1 (bl_step CU1.out hb1)
            have HEB := hid (HBE.out w1 (.int .i64 (6)) (.int .i64 (2000 + (i : Int))) (bl_step CU1.out hb1))
            clear hb1
            go_wp2
            exact bodyPost_ret (v := .agg #[.int .i64 (6), .int .i64 (2000 + (i : Int))]) (by simp [results, Tryz.results48, go_sem, *]) rfl (HE.out _ HEB.out)
          · have f2 := decide_eq_false q2
            have HN := hid (next_zero HZ1.out (by rw [HCD.out]; exact if_neg (by omega)))
            have HC := CU1
            go_wp2
            go_roundw
            case rel => exact ⟨i + 1, by omega, by go_num, HN, HC⟩
            case measure => simp [intOf]; omega
        · have hii : ¬ (i : Int) < (d.mta.n : Int) := by omega
          have P2 : Hid (∀ j, j < 2 → NoFault d (codeP d.p) j) := ex_next (k := 1) P1.out NM1.out (fun j hj => HZ1.out j (by have hj' : j < d.mta.n := hj; omega))
          clear HZ1
          have z2 := cell_keep ZC.out.2.2.1 CU1.out
          by_cases hk2 : (d.states.n : Int) < 1
          · have g := decide_eq_true hk2
            have HE : Hid (∀ w', Below w.heap.size w w' → CheckDone d (codeP d.p) w (.returned (.agg #[.int .i64 (2), .int .i64 (-3)])) w') := fun w' h => ⟨_, _, ex_many (k := 2) (by decide) P2.out (.inl hk2), rfl, h⟩
            go_wp2_with fail
            refine (fault_any _ _ _).mono ?_
            rintro e w1 ⟨rfl, hb1⟩
            obtain ⟨t0, t1, r0, r1, hs1⟩ := HBX.out w1 (bl_step CU1.out hb1)
            have HEB := hid (HBE.out w1 (.int .i64 (2)) (.int .i64 (-3)) (bl_step CU1.out hb1))
            clear hb1
            go_wp2
            exact bodyPost_ret (v := .agg #[.int .i64 (2), .int .i64 (-3)]) (by simp [results, Tryz.results48, go_sem, *]) rfl (HE.out _ HEB.out)
          have gk2 := decide_eq_false hk2
          by_cases hm2 : (8 : Int) < (d.states.n : Int)
          · have g := decide_eq_true hm2
            have HE : Hid (∀ w', Below w.heap.size w w' → CheckDone d (codeP d.p) w (.returned (.agg #[.int .i64 (2), .int .i64 (-3)])) w') := fun w' h => ⟨_, _, ex_many (k := 2) (by decide) P2.out (.inr hm2), rfl, h⟩
            go_wp2_with fail
            refine (fault_any _ _ _).mono ?_
            rintro e w1 ⟨rfl, hb1⟩
            obtain ⟨t0, t1, r0, r1, hs1⟩ := HBX.out w1 (bl_step CU1.out hb1)
            have HEB := hid (HBE.out w1 (.int .i64 (2)) (.int .i64 (-3)) (bl_step CU1.out hb1))
            clear hb1
            go_wp2
            exact bodyPost_ret (v := .agg #[.int .i64 (2), .int .i64 (-3)]) (by simp [results, Tryz.results48, go_sem, *]) rfl (HE.out _ HEB.out)
          have g2 := decide_eq_false hm2
          have NM2 : Hid (¬ ((manyOf d 2 : Int) < leastOf 2 ∨ mostOf 2 < (manyOf d 2 : Int))) := fun h => h.elim hk2 hm2
          go_wp2
          go_loopw [7, 8] (fun q _ wr => ∃ i : Nat, i ≤ d.states.n ∧ q = .int .i64 i ∧ Hid (∀ j, j < i → codeP d.p 2 j = 0) ∧ Hid (Below W2.heap.size W2 wr)) (fun q _ _ => d.states.n - (intOf q).toNat)
          case atStart => exact ⟨0, Nat.zero_le _, rfl, fun j hj => absurd hj (Nat.not_lt_zero _), CU1⟩
          case round =>
            obtain ⟨i, hi, rfl, HZ2, CU2⟩ := hrel
            have z2 := cell_keep ZC.out.2.2.1 CU2.out
            by_cases hlt : i < d.states.n
            · have hii : (i : Int) < (d.states.n : Int) := by omega
              have y0 := cell_keep ZC.out.1 CU2.out
              have y1 := cell_keep ZC.out.2.1 CU2.out
              have y2 := cell_keep ZC.out.2.2.1 CU2.out
              have y3 := cell_keep ZC.out.2.2.2.1 CU2.out
              have y4 := cell_keep ZC.out.2.2.2.2.1 CU2.out
              have y5 := cell_keep ZC.out.2.2.2.2.2.1 CU2.out
              have y6 := cell_keep ZC.out.2.2.2.2.2.2 CU2.out
              obtain ⟨g, off, x, ea, hx, hp⟩ := row_at (HL.out.ss.step StateD.keeps (bl_step HB.out CU2.out)) hlt
              have HLW := HL.out.step (bl_step HB.out CU2.out)
              have HST := hid (rstate_any d wr HLW (width_ok HL.out P2.out) i hlt x hx)
              have HCD : Hid (codeP d.p 2 i = stateC d.p i x.p) := by
                show stateC d.p i (d.p.ss.getD i PState.z) = _
                rw [show d.p.ss.getD i PState.z = x.p from map_getD hx _]
              generalize stateC d.p i x.p = CC at *
              clear ea hx hp HLW
              go_wp2_with fail
              refine HST.out.mono ?_
              rintro e w3 ⟨rfl, hb3⟩
              have HC := hid (bl_step CU2.out hb3)
              clear hb3 HST
              by_cases hc : CC = 0
              · have hcn : (CC != 0) = false := by simpa using hc
                have HN := hid (next_zero HZ2.out (by rw [HCD.out]; exact hc))
                clear hc
                go_wp2
                go_roundw
                case rel => exact ⟨i + 1, by omega, by go_num, HN, HC⟩
                case measure => simp [intOf]; omega
              · have hcn : (CC != 0) = true := by simpa using hc
                have HE : Hid (∀ w', Below w.heap.size w w' → CheckDone d (codeP d.p) w (.returned (.agg #[.int .i64 (CC), .int .i64 (3000 + (i : Int))])) w') := fun w' h => ⟨_, _, ex_at' (k := 2) (n := i) (by decide) P2.out NM2.out hlt HZ2.out HCD.out hc (by omega), rfl, h⟩
                go_wp2_with fail
                refine (fault_any _ _ _).mono ?_
                rintro e w1 ⟨rfl, hb1⟩
                obtain ⟨t0, t1, r0, r1, hs1⟩ := HBX.out w1 (bl_step HC.out hb1)
                have HEB := hid (HBE.out w1 (.int .i64 (CC)) (.int .i64 (3000 + (i : Int))) (bl_step HC.out hb1))
                clear hb1
                go_wp2
                exact bodyPost_ret (v := .agg #[.int .i64 (CC), .int .i64 (3000 + (i : Int))]) (by simp [results, Tryz.results48, go_sem, *]) rfl (HE.out _ HEB.out)
            · have hii : ¬ (i : Int) < (d.states.n : Int) := by omega
              have P3 : Hid (∀ j, j < 3 → NoFault d (codeP d.p) j) := ex_next (k := 2) P2.out NM2.out (fun j hj => HZ2.out j (by have hj' : j < d.states.n := hj; omega))
              clear HZ2
              have z3 := cell_keep ZC.out.2.2.2.1 CU2.out
              by_cases hm3 : (8 : Int) < (d.acts.n : Int)
              · have g := decide_eq_true hm3
                have HE : Hid (∀ w', Below w.heap.size w w' → CheckDone d (codeP d.p) w (.returned (.agg #[.int .i64 (2), .int .i64 (-4)])) w') := fun w' h => ⟨_, _, ex_many (k := 3) (by decide) P3.out (.inr hm3), rfl, h⟩
                go_wp2_with fail
                refine (fault_any _ _ _).mono ?_
                rintro e w1 ⟨rfl, hb1⟩
                obtain ⟨t0, t1, r0, r1, hs1⟩ := HBX.out w1 (bl_step CU2.out hb1)
                have HEB := hid (HBE.out w1 (.int .i64 (2)) (.int .i64 (-4)) (bl_step CU2.out hb1))
                clear hb1
                go_wp2
                exact bodyPost_ret (v := .agg #[.int .i64 (2), .int .i64 (-4)]) (by simp [results, Tryz.results48, go_sem, *]) rfl (HE.out _ HEB.out)
              have g3 := decide_eq_false hm3
              have NM3 : Hid (¬ ((manyOf d 3 : Int) < leastOf 3 ∨ mostOf 3 < (manyOf d 3 : Int))) := fun h => h.elim (fun h => absurd h (by show ¬ (d.acts.n : Int) < 0; omega)) hm3
              go_wp2
              go_loopw [9, 10] (fun q _ wr => ∃ i : Nat, i ≤ d.acts.n ∧ q = .int .i64 i ∧ Hid (∀ j, j < i → codeP d.p 3 j = 0) ∧ Hid (Below W2.heap.size W2 wr)) (fun q _ _ => d.acts.n - (intOf q).toNat)
              case atStart => exact ⟨0, Nat.zero_le _, rfl, fun j hj => absurd hj (Nat.not_lt_zero _), CU2⟩
              case round =>
                obtain ⟨i, hi, rfl, HZ3, CU3⟩ := hrel
                have z3 := cell_keep ZC.out.2.2.2.1 CU3.out
                by_cases hlt : i < d.acts.n
                · have hii : (i : Int) < (d.acts.n : Int) := by omega
                  have y0 := cell_keep ZC.out.1 CU3.out
                  have y1 := cell_keep ZC.out.2.1 CU3.out
                  have y2 := cell_keep ZC.out.2.2.1 CU3.out
                  have y3 := cell_keep ZC.out.2.2.2.1 CU3.out
                  have y4 := cell_keep ZC.out.2.2.2.2.1 CU3.out
                  have y5 := cell_keep ZC.out.2.2.2.2.2.1 CU3.out
                  have y6 := cell_keep ZC.out.2.2.2.2.2.2 CU3.out
                  obtain ⟨g, off, x, ea, hx, hp⟩ := row_at (HL.out.al.step ActD.keeps (bl_step HB.out CU3.out)) hlt
                  have HACT : Hid (∀ p : BelowBy wr, Calls Tryz.prog 90 #[d.v, .agg #[.slice x.w.a x.w.n x.w.c, .slice x.ops.a x.ops.n x.ops.c]] p.to fun e w' => e = .returned (.int .i64 (actC d.p x.p)) ∧ Below p.to.heap.size p.to w') := fun p => ract_any d x p.to (HL.out.step (bl_step (bl_step HB.out CU3.out) p.h)) (hp.2.2.1.step p.h) (hp.2.2.2.step OpD.keeps p.h) (fun r => (width_ok HL.out (fun j hj => P3.out j (by omega)) r).1)
                  have HCD : Hid (codeP d.p 3 i = actC d.p x.p) := by
                    show actC d.p (d.p.al.getD i PAct.z) = _
                    rw [show d.p.al.getD i PAct.z = x.p from map_getD hx _]
                  have c0 := cell_by hp.1.1
                  have c1 := cell_by hp.2.1.1
                  unfold PlanD.v at HACT
                  rw [ea] at HACT y3 z3
                  have y0' := cell_by y0
                  have y1' := cell_by y1
                  have y2' := cell_by y2
                  have y3' := cell_by y3
                  have y4' := cell_by y4
                  have y5' := cell_by y5
                  have y6' := cell_by y6
                  generalize actC d.p x.p = CC at *
                  clear ea hx hp
                  go_wp2_with fail
                  haveI inhB : ∀ w : World, Inhabited (BelowBy w) := fun w => ⟨⟨w, Below.refl _ _⟩⟩
                  refine wp_region_quiet_below (by kernel_rfl) (by kernel_rfl) ?_
                  repeat (go_big_quiet_step (first | (go_at_call 90; exact calls_below _ (HACT.out _))))
                  refine wpQuiet_nil ?_
                  intro wq hw'
                  obtain ⟨⟨_, hwq⟩, hw''⟩ := hw'
                  subst hw''
                  have HC := hid (bl_step CU3.out hwq)
                  clear hwq HACT c0 c1 y0' y1' y2' y3' y4' y5' y6'
                  by_cases hc : CC = 0
                  · have hcn : (CC != 0) = false := by simpa using hc
                    have HN := hid (next_zero HZ3.out (by rw [HCD.out]; exact hc))
                    clear hc
                    go_wp2
                    go_roundw
                    case rel => exact ⟨i + 1, by omega, by go_num, HN, HC⟩
                    case measure => simp [intOf]; omega
                  · have hcn : (CC != 0) = true := by simpa using hc
                    have HE : Hid (∀ w', Below w.heap.size w w' → CheckDone d (codeP d.p) w (.returned (.agg #[.int .i64 (CC), .int .i64 (4000 + (i : Int))])) w') := fun w' h => ⟨_, _, ex_at' (k := 3) (n := i) (by decide) P3.out NM3.out hlt HZ3.out HCD.out hc (by omega), rfl, h⟩
                    go_wp2_with fail
                    refine (fault_any _ _ _).mono ?_
                    rintro e w1 ⟨rfl, hb1⟩
                    obtain ⟨t0, t1, r0, r1, hs1⟩ := HBX.out w1 (bl_step HC.out hb1)
                    have HEB := hid (HBE.out w1 (.int .i64 (CC)) (.int .i64 (4000 + (i : Int))) (bl_step HC.out hb1))
                    clear hb1
                    go_wp2
                    exact bodyPost_ret (v := .agg #[.int .i64 (CC), .int .i64 (4000 + (i : Int))]) (by simp [results, Tryz.results48, go_sem, *]) rfl (HE.out _ HEB.out)
                · have hii : ¬ (i : Int) < (d.acts.n : Int) := by omega
                  have P4 : Hid (∀ j, j < 4 → NoFault d (codeP d.p) j) := ex_next (k := 3) P3.out NM3.out (fun j hj => HZ3.out j (by have hj' : j < d.acts.n := hj; omega))
                  clear HZ3
                  have z4 := cell_keep ZC.out.2.2.2.2.1 CU3.out
                  by_cases hm4 : (5 : Int) < (d.tabs.n : Int)
                  · have g := decide_eq_true hm4
                    have HE : Hid (∀ w', Below w.heap.size w w' → CheckDone d (codeP d.p) w (.returned (.agg #[.int .i64 (2), .int .i64 (-5)])) w') := fun w' h => ⟨_, _, ex_many (k := 4) (by decide) P4.out (.inr hm4), rfl, h⟩
                    go_wp2_with fail
                    refine (fault_any _ _ _).mono ?_
                    rintro e w1 ⟨rfl, hb1⟩
                    obtain ⟨t0, t1, r0, r1, hs1⟩ := HBX.out w1 (bl_step CU3.out hb1)
                    have HEB := hid (HBE.out w1 (.int .i64 (2)) (.int .i64 (-5)) (bl_step CU3.out hb1))
                    clear hb1
                    go_wp2
                    exact bodyPost_ret (v := .agg #[.int .i64 (2), .int .i64 (-5)]) (by simp [results, Tryz.results48, go_sem, *]) rfl (HE.out _ HEB.out)
                  have g4 := decide_eq_false hm4
                  have NM4 : Hid (¬ ((manyOf d 4 : Int) < leastOf 4 ∨ mostOf 4 < (manyOf d 4 : Int))) := fun h => h.elim (fun h => absurd h (by show ¬ (d.tabs.n : Int) < 0; omega)) hm4
                  go_wp2
                  go_loopw [11, 12, 13, 14] (fun q _ _ _ wr => ∃ i : Nat, i ≤ d.tabs.n ∧ q = .int .i64 i ∧ Hid (∀ j, j < i → codeP d.p 4 j = 0) ∧ Hid (Below W2.heap.size W2 wr)) (fun q _ _ _ _ => d.tabs.n - (intOf q).toNat)
                  case atStart => exact ⟨0, Nat.zero_le _, rfl, fun j hj => absurd hj (Nat.not_lt_zero _), CU3⟩
                  case round =>
                    obtain ⟨i, hi, rfl, HZ4, CU4⟩ := hrel
                    have z4 := cell_keep ZC.out.2.2.2.2.1 CU4.out
                    by_cases hlt : i < d.tabs.n
                    · have hii : (i : Int) < (d.tabs.n : Int) := by omega
                      have y0 := cell_keep ZC.out.1 CU4.out
                      have y1 := cell_keep ZC.out.2.1 CU4.out
                      have y2 := cell_keep ZC.out.2.2.1 CU4.out
                      have y3 := cell_keep ZC.out.2.2.2.1 CU4.out
                      have y4 := cell_keep ZC.out.2.2.2.2.1 CU4.out
                      have y5 := cell_keep ZC.out.2.2.2.2.2.1 CU4.out
                      have y6 := cell_keep ZC.out.2.2.2.2.2.2 CU4.out
                      obtain ⟨g, off, x, ea, hx, hp⟩ := row_at (HL.out.ts.step TabD.keeps (bl_step HB.out CU4.out)) hlt
                      obtain ⟨⟨c0, _⟩, ⟨c1, _⟩, ⟨c2, _⟩, ⟨c3, _⟩, ⟨c4, _⟩, ⟨c5, _⟩, hks, has, hzs⟩ := hp
                      have hl4 := HSM.out.ts x (List.mem_of_getElem? hx)
                      have hb0l : b0 < wr.heap.size := World.block_lt_of_cell? wr _ y0
                      have HWI : Hid (∀ w', Below wr.heap.size wr w' → Calls Tryz.prog 36 #[d.v, x.v] w' (WidthsDone w' (x.ks.map (fun r => d.p.width r [])))) := fun w' h => by
                        rw [← widths_p HL.out]
                        exact widthsOf_any d x w' (HL.out.step (bl_step (bl_step HB.out CU4.out) h)) (hks.step RefD.keeps h) hl4.1
                      generalize hLL : x.ks.map (fun r => d.p.width r []) = LL at *
                      have hLn : LL.length = x.keys.n := by rw [← hLL, List.length_map, hks.1]
                      have HCD : Hid (codeP d.p 4 i = if 3 < x.keys.n then 2 else if (0 : Int) ∈ LL then 1 else storeC x.p LL d.p.al) := by
                        show tabC d.p (d.p.ts.getD i PTab.z) = _
                        rw [show d.p.ts.getD i PTab.z = x.p from map_getD hx _]
                        unfold tabC
                        rw [show x.p.ks.length = x.keys.n from hks.1, show x.p.ks.map (fun r => d.p.width r []) = LL from hLL]
                      have HTF : Hid (∀ w' a c, Below wr.heap.size wr w' → Has .i64 w' a LL.length LL → Calls Tryz.prog 92 #[x.v', .slice a LL.length c, .slice d.acts.a d.acts.n d.acts.c] w' fun e w'' => e = .returned (.int .i64 (storeC x.p LL d.p.al)) ∧ Below w'.heap.size w' w'') := fun w' a c h hh =>
                        rtab_any x ⟨a, LL.length, c⟩ LL d.acts d.al w' hh (has.step h) (hzs.step h) (HL.out.al.step ActD.keeps (bl_step (bl_step HB.out CU4.out) h)) (param_ok HL.out (P4.out 3 (by decide))) (fun y hy => by have := HSM.out.aw y hy; omega) (by omega)
                      have HLN : Hid (LL.length ≤ 100000) := by show LL.length ≤ 100000; omega
                      unfold PlanD.v at HWI
                      rw [ea] at HWI y4 z4
                      generalize storeC x.p LL d.p.al = CC at *
                      have BX : Hid (Below W2.heap.size W2 (wr.alloc (.cells #[.int .i64 x.kind, .slice x.keys.a x.keys.n x.keys.c, .slice x.acts.a x.acts.n x.acts.c, .int .i64 x.cap, .int .i64 x.dflt, .slice x.args.a x.args.n x.args.c] 84))) := bl_alloc CU4.out
                      clear ea hx hks has hzs hl4 hLL hLn
                      by_cases q1 : (3 : Int) < (x.keys.n : Int)
                      · have f1 := decide_eq_true q1
                        have HE : Hid (∀ w', Below w.heap.size w w' → CheckDone d (codeP d.p) w (.returned (.agg #[.int .i64 (2), .int .i64 (5000 + (i : Int))])) w') := fun w' h => ⟨_, _, ex_at' (k := 4) (n := i) (by decide) P4.out NM4.out hlt HZ4.out (by rw [HCD.out]; exact if_pos (by omega)) (by decide) (by omega), rfl, h⟩
                        go_wp2_with fail
                        refine (fault_any _ _ _).mono ?_
                        rintro e w1 ⟨rfl, hb1⟩
                        obtain ⟨t0, t1, r0, r1, hs1⟩ := HBX.out w1 (bl_step BX.out hb1)
                        have HEB := hid (HBE.out w1 (.int .i64 (2)) (.int .i64 (5000 + (i : Int))) (bl_step BX.out hb1))
                        clear hb1
                        go_wp2
                        exact bodyPost_ret (v := .agg #[.int .i64 (2), .int .i64 (5000 + (i : Int))]) (by simp [results, Tryz.results48, go_sem, *]) rfl (HE.out _ HEB.out)
                      have f1 := decide_eq_false q1
                      rw [if_neg (by omega)] at HCD
                      obtain ⟨W5, hW5⟩ : ∃ W5, W5 = wr.alloc (.cells #[.int .i64 x.kind, .slice x.keys.a x.keys.n x.keys.c, .slice x.acts.a x.acts.n x.acts.c, .int .i64 x.cap, .int .i64 x.dflt, .slice x.args.a x.args.n x.args.c] 84) := ⟨_, rfl⟩
                      obtain ⟨p6, hp6⟩ : ∃ p, p = wr.heap.size := ⟨_, rfl⟩
                      have hcb : ∀ j v, (#[.int .i64 x.kind, .slice x.keys.a x.keys.n x.keys.c, .slice x.acts.a x.acts.n x.acts.c, .int .i64 x.cap, .int .i64 x.dflt, .slice x.args.a x.args.n x.args.c] : Array Value)[j]? = some v → W5.cell? ⟨p6, j, none⟩ = some v := fun j v hv => by rw [hW5, hp6]; exact (World.cell?_alloc_at _ _ _ _ rfl).trans hv
                      have B5 : Hid (Below wr.heap.size wr W5) := by rw [hW5]; exact bl_alloc (Below.refl _ _)
                      have v0 := hcb 0 _ rfl
                      have v1 := hcb 1 _ rfl
                      have v2 := hcb 2 _ rfl
                      have v3 := hcb 3 _ rfl
                      have v4 := hcb 4 _ rfl
                      have v5 := hcb 5 _ rfl
                      have EW5 := hid hW5
                      have EP6 := hid hp6
                      have HW1 := hid (HWI.out W5 B5.out)
                      clear hcb hW5 hp6 q1 BX HWI
                      go_wp2_with fail
                      rw [← EW5.out, ← EP6.out]
                      clear EW5 EP6 c0 c1 c2 c3 c4 c5
                      refine HW1.out.mono ?_
                      rintro e w3 ⟨a3, c3, rfl, _, hL3, hb3⟩
                      have B3 := hid (bl_step B5.out hb3)
                      have HC := hid (bl_step CU4.out B3.out)
                      have v0 := cell_keep v0 hb3
                      have v1 := cell_keep v1 hb3
                      have v2 := cell_keep v2 hb3
                      have v3 := cell_keep v3 hb3
                      have v4 := cell_keep v4 hb3
                      have v5 := cell_keep v5 hb3
                      have HIN := hid (in_any a3 LL.length c3 LL 0 w3 HLN.out hL3)
                      have HT3 := hid (HTF.out w3 a3 c3 B3.out hL3)
                      have y3 := cell_keep ZC.out.2.2.2.1 HC.out
                      clear hb3 hL3 HW1 B5 HTF
                      by_cases q2 : (0 : Int) ∈ LL
                      · rw [decide_eq_true q2] at HIN
                        rw [if_pos q2] at HCD
                        clear q2
                        go_wp2_with fail
                        refine HIN.out.mono ?_
                        rintro e w4 ⟨rfl, rfl⟩
                        clear HIN
                        have HE : Hid (∀ w', Below w.heap.size w w' → CheckDone d (codeP d.p) w (.returned (.agg #[.int .i64 (1), .int .i64 (5000 + (i : Int))])) w') := fun w' h => ⟨_, _, ex_at' (k := 4) (n := i) (by decide) P4.out NM4.out hlt HZ4.out HCD.out (by decide) (by omega), rfl, h⟩
                        go_wp2_with fail
                        refine (fault_any _ _ _).mono ?_
                        rintro e w1 ⟨rfl, hb1⟩
                        obtain ⟨t0, t1, r0, r1, hs1⟩ := HBX.out w1 (bl_step HC.out hb1)
                        have HEB := hid (HBE.out w1 (.int .i64 (1)) (.int .i64 (5000 + (i : Int))) (bl_step HC.out hb1))
                        clear hb1
                        go_wp2
                        exact bodyPost_ret (v := .agg #[.int .i64 (1), .int .i64 (5000 + (i : Int))]) (by simp [results, Tryz.results48, go_sem, *]) rfl (HE.out _ HEB.out)
                      rw [decide_eq_false q2] at HIN
                      rw [if_neg q2] at HCD
                      clear q2
                      go_wp2_with fail
                      refine HIN.out.mono ?_
                      rintro e w4 ⟨rfl, rfl⟩
                      clear HIN
                      go_wp2_with fail
                      refine HT3.out.mono ?_
                      rintro e w5 ⟨rfl, hb5⟩
                      have HC := hid (bl_step HC.out hb5)
                      clear hb5 HT3
                      by_cases hc : CC = 0
                      · have hcn : (CC != 0) = false := by simpa using hc
                        have HN := hid (next_zero HZ4.out (by rw [HCD.out]; exact hc))
                        clear hc
                        go_wp2
                        go_roundw
                        case rel => exact ⟨i + 1, by omega, by go_num, HN, HC⟩
                        case measure => simp [intOf]; omega
                      · have hcn : (CC != 0) = true := by simpa using hc
                        have HE : Hid (∀ w', Below w.heap.size w w' → CheckDone d (codeP d.p) w (.returned (.agg #[.int .i64 (CC), .int .i64 (5000 + (i : Int))])) w') := fun w' h => ⟨_, _, ex_at' (k := 4) (n := i) (by decide) P4.out NM4.out hlt HZ4.out HCD.out hc (by omega), rfl, h⟩
                        go_wp2_with fail
                        refine (fault_any _ _ _).mono ?_
                        rintro e w1 ⟨rfl, hb1⟩
                        obtain ⟨t0, t1, r0, r1, hs1⟩ := HBX.out w1 (bl_step HC.out hb1)
                        have HEB := hid (HBE.out w1 (.int .i64 (CC)) (.int .i64 (5000 + (i : Int))) (bl_step HC.out hb1))
                        clear hb1
                        go_wp2
                        exact bodyPost_ret (v := .agg #[.int .i64 (CC), .int .i64 (5000 + (i : Int))]) (by simp [results, Tryz.results48, go_sem, *]) rfl (HE.out _ HEB.out)
                    · have hii : ¬ (i : Int) < (d.tabs.n : Int) := by omega
                      have P5 : Hid (∀ j, j < 5 → NoFault d (codeP d.p) j) := ex_next (k := 4) P4.out NM4.out (fun j hj => HZ4.out j (by have hj' : j < d.tabs.n := hj; omega))
                      clear HZ4
                      have z5 := cell_keep ZC.out.2.2.2.2.2.1 CU4.out
                      by_cases hm5 : (10 : Int) < (d.nodes.n : Int)
                      · have g := decide_eq_true hm5
                        have HE : Hid (∀ w', Below w.heap.size w w' → CheckDone d (codeP d.p) w (.returned (.agg #[.int .i64 (2), .int .i64 (-6)])) w') := fun w' h => ⟨_, _, ex_many (k := 5) (by decide) P5.out (.inr hm5), rfl, h⟩
                        go_wp2_with fail
                        refine (fault_any _ _ _).mono ?_
                        rintro e w1 ⟨rfl, hb1⟩
                        obtain ⟨t0, t1, r0, r1, hs1⟩ := HBX.out w1 (bl_step CU4.out hb1)
                        have HEB := hid (HBE.out w1 (.int .i64 (2)) (.int .i64 (-6)) (bl_step CU4.out hb1))
                        clear hb1
                        go_wp2
                        exact bodyPost_ret (v := .agg #[.int .i64 (2), .int .i64 (-6)]) (by simp [results, Tryz.results48, go_sem, *]) rfl (HE.out _ HEB.out)
                      have g5 := decide_eq_false hm5
                      have NM5 : Hid (¬ ((manyOf d 5 : Int) < leastOf 5 ∨ mostOf 5 < (manyOf d 5 : Int))) := fun h => h.elim (fun h => absurd h (by show ¬ (d.nodes.n : Int) < 0; omega)) hm5
                      go_wp2
                      go_loopw [15, 16] (fun q _ wr => ∃ i : Nat, i ≤ d.nodes.n ∧ q = .int .i64 i ∧ Hid (∀ j, j < i → codeP d.p 5 j = 0) ∧ Hid (Below W2.heap.size W2 wr)) (fun q _ _ => d.nodes.n - (intOf q).toNat)
                      case atStart => exact ⟨0, Nat.zero_le _, rfl, fun j hj => absurd hj (Nat.not_lt_zero _), CU4⟩
                      case round =>
                        obtain ⟨i, hi, rfl, HZ5, CU5⟩ := hrel
                        have z5 := cell_keep ZC.out.2.2.2.2.2.1 CU5.out
                        by_cases hlt : i < d.nodes.n
                        · have hii : (i : Int) < (d.nodes.n : Int) := by omega
                          have y0 := cell_keep ZC.out.1 CU5.out
                          have y1 := cell_keep ZC.out.2.1 CU5.out
                          have y2 := cell_keep ZC.out.2.2.1 CU5.out
                          have y3 := cell_keep ZC.out.2.2.2.1 CU5.out
                          have y4 := cell_keep ZC.out.2.2.2.2.1 CU5.out
                          have y5 := cell_keep ZC.out.2.2.2.2.2.1 CU5.out
                          have y6 := cell_keep ZC.out.2.2.2.2.2.2 CU5.out
                          obtain ⟨g, off, x, ea, hx, hp⟩ := row_at (HL.out.ns.step NodeD.keeps (bl_step HB.out CU5.out)) hlt
                          have HLW := HL.out.step (bl_step HB.out CU5.out)
                          have HST := hid (rnode_any d wr HLW i hlt x hx)
                          have HCD : Hid (codeP d.p 5 i = nodeC d.p i x.p) := by
                            show nodeC d.p i (d.p.ns.getD i PNode.z) = _
                            rw [show d.p.ns.getD i PNode.z = x.p from map_getD hx _]
                          generalize nodeC d.p i x.p = CC at *
                          clear ea hx hp HLW
                          go_wp2_with fail
                          refine HST.out.mono ?_
                          rintro e w3 ⟨rfl, hb3⟩
                          have HC := hid (bl_step CU5.out hb3)
                          clear hb3 HST
                          by_cases hc : CC = 0
                          · have hcn : (CC != 0) = false := by simpa using hc
                            have HN := hid (next_zero HZ5.out (by rw [HCD.out]; exact hc))
                            clear hc
                            go_wp2
                            go_roundw
                            case rel => exact ⟨i + 1, by omega, by go_num, HN, HC⟩
                            case measure => simp [intOf]; omega
                          · have hcn : (CC != 0) = true := by simpa using hc
                            have HE : Hid (∀ w', Below w.heap.size w w' → CheckDone d (codeP d.p) w (.returned (.agg #[.int .i64 (CC), .int .i64 (6000 + (i : Int))])) w') := fun w' h => ⟨_, _, ex_at' (k := 5) (n := i) (by decide) P5.out NM5.out hlt HZ5.out HCD.out hc (by omega), rfl, h⟩
                            go_wp2_with fail
                            refine (fault_any _ _ _).mono ?_
                            rintro e w1 ⟨rfl, hb1⟩
                            obtain ⟨t0, t1, r0, r1, hs1⟩ := HBX.out w1 (bl_step HC.out hb1)
                            have HEB := hid (HBE.out w1 (.int .i64 (CC)) (.int .i64 (6000 + (i : Int))) (bl_step HC.out hb1))
                            clear hb1
                            go_wp2
                            exact bodyPost_ret (v := .agg #[.int .i64 (CC), .int .i64 (6000 + (i : Int))]) (by simp [results, Tryz.results48, go_sem, *]) rfl (HE.out _ HEB.out)
                        · have hii : ¬ (i : Int) < (d.nodes.n : Int) := by omega
                          have P6 : Hid (∀ j, j < 6 → NoFault d (codeP d.p) j) := ex_next (k := 5) P5.out NM5.out (fun j hj => HZ5.out j (by have hj' : j < d.nodes.n := hj; omega))
                          clear HZ5
                          have z6 := cell_keep ZC.out.2.2.2.2.2.2 CU5.out
                          by_cases hm6 : (6 : Int) < (d.out.n : Int)
                          · have g := decide_eq_true hm6
                            have HE : Hid (∀ w', Below w.heap.size w w' → CheckDone d (codeP d.p) w (.returned (.agg #[.int .i64 (2), .int .i64 (-7)])) w') := fun w' h => ⟨_, _, ex_many (k := 6) (by decide) P6.out (.inr hm6), rfl, h⟩
                            go_wp2_with fail
                            refine (fault_any _ _ _).mono ?_
                            rintro e w1 ⟨rfl, hb1⟩
                            obtain ⟨t0, t1, r0, r1, hs1⟩ := HBX.out w1 (bl_step CU5.out hb1)
                            have HEB := hid (HBE.out w1 (.int .i64 (2)) (.int .i64 (-7)) (bl_step CU5.out hb1))
                            clear hb1
                            go_wp2
                            exact bodyPost_ret (v := .agg #[.int .i64 (2), .int .i64 (-7)]) (by simp [results, Tryz.results48, go_sem, *]) rfl (HE.out _ HEB.out)
                          have g6 := decide_eq_false hm6
                          have NM6 : Hid (¬ ((manyOf d 6 : Int) < leastOf 6 ∨ mostOf 6 < (manyOf d 6 : Int))) := fun h => h.elim (fun h => absurd h (by show ¬ (d.out.n : Int) < 0; omega)) hm6
                          go_wp2
                          go_loopw [17] (fun q  wr => ∃ i : Nat, i ≤ d.out.n ∧ q = .int .i64 i ∧ Hid (∀ j, j < i → codeP d.p 6 j = 0) ∧ Hid (Below W2.heap.size W2 wr)) (fun q  _ => d.out.n - (intOf q).toNat)
                          case atStart => exact ⟨0, Nat.zero_le _, rfl, fun j hj => absurd hj (Nat.not_lt_zero _), CU5⟩
                          case round =>
                            obtain ⟨i, hi, rfl, HZ6, CU6⟩ := hrel
                            have z6 := cell_keep ZC.out.2.2.2.2.2.2 CU6.out
                            by_cases hlt : i < d.out.n
                            · have hii : (i : Int) < (d.out.n : Int) := by omega
                              have y0 := cell_keep ZC.out.1 CU6.out
                              have y1 := cell_keep ZC.out.2.1 CU6.out
                              have y2 := cell_keep ZC.out.2.2.1 CU6.out
                              have y3 := cell_keep ZC.out.2.2.2.1 CU6.out
                              have y4 := cell_keep ZC.out.2.2.2.2.1 CU6.out
                              have y5 := cell_keep ZC.out.2.2.2.2.2.1 CU6.out
                              have y6 := cell_keep ZC.out.2.2.2.2.2.2 CU6.out
                              obtain ⟨g, off, u, ea, hu, r0⟩ := int_at' (HL.out.os.step (bl_step HB.out CU6.out)) hlt
                              have HIH : Hid (∀ p : BelowBy wr, Calls Tryz.prog 94 #[d.v, .int .i64 u] p.to fun e w' => e = .returned (.bool (decide (0 ≤ u ∧ u < (d.heads.n : Int)))) ∧ Below p.to.heap.size p.to w') := fun p => isHead_any d u p.to
                              have HII : Hid (∀ w', Below wr.heap.size wr w' → ∀ p : BelowBy w', Calls Tryz.prog 91 #[.slice d.out.a i d.out.c, .int .i64 u] p.to fun e w'' => e = .returned (.bool (decide (u ∈ d.os.take i))) ∧ w'' = p.to) := fun w' h p => in_any d.out.a i d.out.c (d.os.take i) u p.to (by omega) (has_take ((HL.out.os.step (bl_step HB.out CU6.out)).step (bl_step h p.h)) (by omega))
                              have HCD : Hid (codeP d.p 6 i = if 0 ≤ u ∧ u < (d.heads.n : Int) then (if u ∈ d.os.take i then 7 else 0) else 1) := by
                                show outC d.p i = _
                                unfold outC
                                rw [show d.p.os.getD i 0 = u from by rw [List.getD_eq_getElem?_getD]; show d.os[i]?.getD 0 = u; rw [hu]; rfl, show d.p.hs.length = d.heads.n by simp [PlanD.p, HL.out.hs.1]]
                                rfl
                              have hcap : (d.out.n : Int) ≤ (d.out.c : Int) := by have := HL.out.oc; omega
                              have hil : (i : Int) ≤ (d.out.n : Int) := by omega
                              unfold PlanD.v at HIH
                              rw [ea] at HIH y6 z6 HII
                              have y0' := cell_by y0
                              have y1' := cell_by y1
                              have y2' := cell_by y2
                              have y3' := cell_by y3
                              have y4' := cell_by y4
                              have y5' := cell_by y5
                              have y6' := cell_by y6
                              have r0' := cell_by r0
                              clear ea hu
                              by_cases q1 : 0 ≤ u ∧ u < (d.heads.n : Int)
                              · rw [decide_eq_true q1] at HIH
                                rw [if_pos q1] at HCD
                                clear q1
                                go_wp2_with fail
                                haveI inhB : ∀ w : World, Inhabited (BelowBy w) := fun w => ⟨⟨w, Below.refl _ _⟩⟩
                                refine wp_region_quiet_below (by kernel_rfl) (by kernel_rfl) ?_
                                repeat (go_big_quiet_step (first | (go_at_call 94; exact calls_below _ (HIH.out _))))
                                refine wpQuiet_nil ?_
                                intro wq hw'
                                obtain ⟨⟨_, hwq⟩, hw''⟩ := hw'
                                subst hw''
                                have HC := hid (bl_step CU6.out hwq)
                                have y6 := cell_keep y6 hwq
                                have r0 := cell_keep r0 hwq
                                have HI2 := hid (HII.out wq hwq)
                                have y6' := cell_by y6
                                have r0' := cell_by r0
                                clear hwq HIH y0' y1' y2' y3' y4' y5' HII
                                by_cases q2 : u ∈ d.os.take i
                                · rw [decide_eq_true q2] at HI2
                                  rw [if_pos q2] at HCD
                                  clear q2
                                  go_wp2_with fail
                                  haveI inhB : ∀ w : World, Inhabited (BelowBy w) := fun w => ⟨⟨w, Below.refl _ _⟩⟩
                                  refine wp_region_quiet_below (by kernel_rfl) (by kernel_rfl) ?_
                                  repeat (go_big_quiet_step (first | (go_at_call 91; exact calls_same _ (HI2.out _))))
                                  refine wpQuiet_nil ?_
                                  intro wq hw'
                                  obtain ⟨⟨_, hwq⟩, hw''⟩ := hw'
                                  subst hw''
                                  have HC := hid (bl_step HC.out hwq)
                                  clear hwq HI2 y6' r0'
                                  have HE : Hid (∀ w', Below w.heap.size w w' → CheckDone d (codeP d.p) w (.returned (.agg #[.int .i64 (7), .int .i64 (7000 + (i : Int))])) w') := fun w' h => ⟨_, _, ex_at' (k := 6) (n := i) (by decide) P6.out NM6.out hlt HZ6.out HCD.out (by decide) (by omega), rfl, h⟩
                                  go_wp2_with fail
                                  refine (fault_any _ _ _).mono ?_
                                  rintro e w1 ⟨rfl, hb1⟩
                                  obtain ⟨t0, t1, r0, r1, hs1⟩ := HBX.out w1 (bl_step HC.out hb1)
                                  have HEB := hid (HBE.out w1 (.int .i64 (7)) (.int .i64 (7000 + (i : Int))) (bl_step HC.out hb1))
                                  clear hb1
                                  go_wp2
                                  exact bodyPost_ret (v := .agg #[.int .i64 (7), .int .i64 (7000 + (i : Int))]) (by simp [results, Tryz.results48, go_sem, *]) rfl (HE.out _ HEB.out)
                                · rw [decide_eq_false q2] at HI2
                                  rw [if_neg q2] at HCD
                                  clear q2
                                  go_wp2_with fail
                                  haveI inhB : ∀ w : World, Inhabited (BelowBy w) := fun w => ⟨⟨w, Below.refl _ _⟩⟩
                                  refine wp_region_quiet_below (by kernel_rfl) (by kernel_rfl) ?_
                                  repeat (go_big_quiet_step (first | (go_at_call 91; exact calls_same _ (HI2.out _))))
                                  refine wpQuiet_nil ?_
                                  intro wq hw'
                                  obtain ⟨⟨_, hwq⟩, hw''⟩ := hw'
                                  subst hw''
                                  have HC := hid (bl_step HC.out hwq)
                                  have HN := hid (next_zero HZ6.out HCD.out)
                                  clear hwq HI2 y6' r0'
                                  go_wp2
                                  go_roundw
                                  case rel => exact ⟨i + 1, by omega, by go_num, HN, HC⟩
                                  case measure => simp [intOf]; omega
                              · rw [decide_eq_false q1] at HIH
                                rw [if_neg q1] at HCD
                                clear q1
                                go_wp2_with fail
                                haveI inhB : ∀ w : World, Inhabited (BelowBy w) := fun w => ⟨⟨w, Below.refl _ _⟩⟩
                                refine wp_region_quiet_below (by kernel_rfl) (by kernel_rfl) ?_
                                repeat (go_big_quiet_step (first | (go_at_call 94; exact calls_below _ (HIH.out _))))
                                refine wpQuiet_nil ?_
                                intro wq hw'
                                obtain ⟨⟨_, hwq⟩, hw''⟩ := hw'
                                subst hw''
                                have HC := hid (bl_step CU6.out hwq)
                                clear hwq HIH y0' y1' y2' y3' y4' y5' HII
                                have HE : Hid (∀ w', Below w.heap.size w w' → CheckDone d (codeP d.p) w (.returned (.agg #[.int .i64 (1), .int .i64 (7000 + (i : Int))])) w') := fun w' h => ⟨_, _, ex_at' (k := 6) (n := i) (by decide) P6.out NM6.out hlt HZ6.out HCD.out (by decide) (by omega), rfl, h⟩
                                go_wp2_with fail
                                refine (fault_any _ _ _).mono ?_
                                rintro e w1 ⟨rfl, hb1⟩
                                obtain ⟨t0, t1, r0, r1, hs1⟩ := HBX.out w1 (bl_step HC.out hb1)
                                have HEB := hid (HBE.out w1 (.int .i64 (1)) (.int .i64 (7000 + (i : Int))) (bl_step HC.out hb1))
                                clear hb1
                                go_wp2
                                exact bodyPost_ret (v := .agg #[.int .i64 (1), .int .i64 (7000 + (i : Int))]) (by simp [results, Tryz.results48, go_sem, *]) rfl (HE.out _ HEB.out)
                            · have hii : ¬ (i : Int) < (d.out.n : Int) := by omega
                              have P7 : Hid (∀ j, j < 7 → NoFault d (codeP d.p) j) := ex_next (k := 6) P6.out NM6.out (fun j hj => HZ6.out j (by have hj' : j < d.out.n := hj; omega))
                              clear HZ6
                              have HE : Hid (∀ w', Below w.heap.size w w' → CheckDone d (codeP d.p) w (.returned (.agg #[.int .i64 0, .int .i64 0])) w') := fun w' h => ⟨0, 0, .inr ⟨P7.out, rfl, rfl⟩, rfl, h⟩
                              obtain ⟨t0, t1, r0, r1, hs1⟩ := HBX.out wr CU6.out
                              have HEB := hid (HBE.out wr (.int .i64 0) (.int .i64 0) CU6.out)
                              go_wp2
                              exact bodyPost_ret (v := .agg #[.int .i64 0, .int .i64 0]) (by simp [results, Tryz.results48, go_sem, *]) rfl (HE.out _ HEB.out)
end Go.Proofs.YtkggocdannkdmaaGreat
