/- Nodes of a plan: what they ask for, where they lead. -/
import Derived.Test.YtlnkfgdepddmladGreatVQTree
import Derived.Test.YtlnkfgdepddmladGreatVQFirst
namespace Go.Proofs.YtlnkfgdepddmladGreat
open Go.RowKit

set_option maxHeartbeats 2000000 in
set_option maxRecDepth 20000 in
theorem do_any (d : PlanD) (n : Int) (w : World) (hl : d.lie w) :
    Calls Tryz.prog 167 #[d.v, .int .i64 n] w fun e w' => e = .returned (.int .i64 (doC d.p n)) ∧ Below w.heap.size w w' := by
  have eal : d.p.al.length = d.acts.n := by simp [PlanD.p, hl.al.1]
  have bw : ∀ o, Below w.heap.size w (w.alloc o) := fun o => bl_alloc (Below.refl _ _)
  have HI : Hid (∀ w', Calls Tryz.prog 199 #[.slice d.acts.a d.acts.n d.acts.c, .int .i64 n] w' fun e w'' => e = .returned (.bool (decide (0 ≤ n ∧ n < (d.acts.n : Int)))) ∧ w'' = w') := fun w' => isOfA_any _ _ _ _ w'
  by_cases h : 0 ≤ n ∧ n < (d.acts.n : Int)
  · obtain ⟨k, rfl⟩ : ∃ k : Nat, n = k := ⟨n.toNat, by omega⟩
    have hk : k < d.acts.n := by omega
    obtain ⟨g, off, x, ea, hx, ⟨c0, _⟩, _, hws, _⟩ := row_at hl.al hk
    have hr : doC d.p k = if 0 < x.w.n then 2 else 0 := by
      unfold doC
      rw [eal, if_pos h, Int.toNat_natCast]
      have e2 : d.p.al.getD k ⟨[], []⟩ = x.p := by
        simp only [PlanD.p, List.getD_eq_getElem?_getD, List.getElem?_map, hx]
        rfl
      rw [e2]
      show (if 0 < x.ws.length then 2 else 0) = _
      rw [hws.1]
    have k0 : ∀ o, (w.alloc o).cell? ⟨g, off + k * 2, none⟩ = some (.slice x.w.a x.w.n x.w.c) := fun o => cell_keep c0 (bw o)
    rw [decide_eq_true h] at HI
    have hki : (k : Int) < (d.acts.n : Int) := by omega
    have HR := hid hr
    rw [ea] at HI
    clear hl hx c0 hws hr eal h
    by_cases hz : 0 < x.w.n
    · have d1 := decide_eq_true hz
      have d2 : decide ((0 : Int) < (x.w.n : Int)) = true := decide_eq_true (by omega)
      rw [if_pos hz] at HR
      go_enter Tryz.func167, Tryz.ntmps167
      go_wp2_with fail
      refine (HI.out _).mono ?_
      rintro e w1 ⟨rfl, rfl⟩
      clear HI
      go_wp2
      go_ret
      exact ⟨by rw [HR.out]; rfl, bw _⟩
    · have d1 := decide_eq_false hz
      have d2 : decide ((0 : Int) < (x.w.n : Int)) = false := decide_eq_false (by omega)
      rw [if_neg hz] at HR
      go_enter Tryz.func167, Tryz.ntmps167
      go_wp2_with fail
      refine (HI.out _).mono ?_
      rintro e w1 ⟨rfl, rfl⟩
      clear HI
      go_wp2
      go_ret
      exact ⟨by rw [HR.out]; rfl, bw _⟩
  · have HR : Hid (doC d.p n = 1) := by show doC d.p n = 1; unfold doC; rw [eal, if_neg h]
    rw [decide_eq_false h] at HI
    clear hl eal h
    go_enter Tryz.func167, Tryz.ntmps167
    go_wp2_with fail
    refine (HI.out _).mono ?_
    rintro e w1 ⟨rfl, rfl⟩
    clear HI
    go_wp2
    go_ret
    exact ⟨by rw [HR.out]; rfl, bw _⟩

set_option maxHeartbeats 2000000 in
set_option maxRecDepth 20000 in
theorem step_any (d : PlanD) (n : Nat) (to : Int) (w : World) :
    Calls Tryz.prog 115 #[d.v, .int .i64 n, .int .i64 to] w fun e w' => e = .returned (.int .i64 (stepC d.nodes.n n to)) ∧ Below w.heap.size w w' := by
  have bw : ∀ o, Below w.heap.size w (w.alloc o) := fun o => bl_alloc (Below.refl _ _)
  by_cases h0 : to < 0
  · have d0 := decide_eq_true h0
    have HR : Hid (stepC d.nodes.n n to = 1) := by show stepC _ _ _ = 1; unfold stepC; rw [if_pos (.inl h0)]
    go_enter Tryz.func115, Tryz.ntmps115
    go_wp2
    go_ret
    exact ⟨by rw [HR.out]; rfl, bw _⟩
  have d0 := decide_eq_false h0
  by_cases h1 : (d.nodes.n : Int) < to
  · have d1 := decide_eq_true h1
    have HR : Hid (stepC d.nodes.n n to = 1) := by show stepC _ _ _ = 1; unfold stepC; rw [if_pos (.inr h1)]
    go_enter Tryz.func115, Tryz.ntmps115
    go_wp2
    go_ret
    exact ⟨by rw [HR.out]; rfl, bw _⟩
  have d1 := decide_eq_false h1
  have hn : ¬ (to < 0 ∨ (d.nodes.n : Int) < to) := by omega
  by_cases h2 : to ≤ (n : Int)
  · have d2 := decide_eq_true h2
    have HR : Hid (stepC d.nodes.n n to = 11) := by show stepC _ _ _ = 11; unfold stepC; rw [if_neg hn, if_pos h2]
    go_enter Tryz.func115, Tryz.ntmps115
    go_wp2
    go_ret
    exact ⟨by rw [HR.out]; rfl, bw _⟩
  · have d2 := decide_eq_false h2
    have HR : Hid (stepC d.nodes.n n to = 0) := by show stepC _ _ _ = 0; unfold stepC; rw [if_neg hn, if_neg h2]
    go_enter Tryz.func115, Tryz.ntmps115
    go_wp2
    go_ret
    exact ⟨by rw [HR.out]; rfl, bw _⟩

/-- a node, as it is handed over -/
@[reducible] def NodeD.v (x : NodeD) : Value := .agg #[.int .i64 x.kind, .int .i64 x.n, .slice x.e.a x.e.n x.e.c, .int .i64 x.yes, .int .i64 x.no]

set_option maxHeartbeats 4000000 in
set_option maxRecDepth 20000 in
theorem use_any (d : PlanD) (x : NodeD) (w : World) (hl : d.lie w) (he : QRow 4 PushD.lie w x.e x.es) :
    Calls Tryz.prog 116 #[d.v, x.v] w fun e w' => e = .returned (.int .i64 (useC d.p x.p)) ∧ Below w.heap.size w w' := by
  have bw : ∀ o o', Below w.heap.size w ((w.alloc o).alloc o') := fun o o' => bl_alloc (bl_alloc (Below.refl _ _))
  have ehs : d.p.hs.length = d.heads.n := by simp [PlanD.p, hl.hs.1]
  have ets : d.p.ts.length = d.tabs.n := by simp [PlanD.p, hl.ts.1]
  have HT : Hid (∀ w', Calls Tryz.prog 166 #[.slice d.tabs.a d.tabs.n d.tabs.c, .int .i64 x.n] w' fun e w'' => e = .returned (.int .i64 (numC d.p.ts.length x.n)) ∧ w'' = w') := fun w' => by rw [ets]; exact numT_any _ _ _ _ w'
  have HH : Hid (∀ w', Calls Tryz.prog 164 #[.slice d.heads.a d.heads.n d.heads.c, .int .i64 x.n] w' fun e w'' => e = .returned (.int .i64 (numC d.p.hs.length x.n)) ∧ w'' = w') := fun w' => by rw [ehs]; exact numH_any _ _ _ _ w'
  have HDO : Hid (∀ o o', Calls Tryz.prog 167 #[d.v, .int .i64 x.n] ((w.alloc o).alloc o') fun e w'' => e = .returned (.int .i64 (doC d.p x.n)) ∧ Below ((w.alloc o).alloc o').heap.size ((w.alloc o).alloc o') w'') := fun o o' => do_any d x.n _ (hl.step (bw o o'))
  have HTR : Hid (∀ o o', Calls Tryz.prog 163 #[d.v, .slice x.e.a x.e.n x.e.c, .slice none 0 0] ((w.alloc o).alloc o') fun e w'' => e = .returned (.int .i64 (treeC d.p x.es [])) ∧ Below ((w.alloc o).alloc o').heap.size ((w.alloc o).alloc o') w'') := fun o o' => tree_any d x.e x.es none 0 0 [] _ (hl.step (bw o o')) (he.step PushD.keeps (bw o o')) (has_nil _ _)
  have HBW := hid bw
  clear hl he ehs ets
  by_cases k1 : x.kind = 1
  · have e1 : (x.kind == 1) = true := by simpa using k1
    have HR : Hid (useC d.p x.p = numC d.p.ts.length x.n) := by show useC d.p x.p = _; unfold useC; rw [if_pos (show x.p.kind = 1 from k1)]; rfl
    clear k1 HH HDO HTR
    go_enter Tryz.func116, Tryz.ntmps116
    go_wp2_with fail
    refine (HT.out _).mono ?_
    rintro e w1 ⟨rfl, rfl⟩
    clear HT
    go_wp2
    go_ret
    exact ⟨by rw [HR.out]; rfl, bw _ _⟩
  have e1 : (x.kind == 1) = false := by simpa using k1
  by_cases k2 : x.kind = 2
  · have e2 : (x.kind == 2) = true := by simpa using k2
    have HR : Hid (useC d.p x.p = doC d.p x.n) := by show useC d.p x.p = _; unfold useC; rw [if_neg (show ¬ x.p.kind = 1 from k1), if_pos (show x.p.kind = 2 from k2)]; rfl
    clear k1 k2 HH HT HTR bw
    go_enter Tryz.func116, Tryz.ntmps116
    go_wp2_with fail
    refine (HDO.out _ _).mono ?_
    rintro e w1 ⟨rfl, hb1⟩
    have HE := hid (bl_step (HBW.out _ _) hb1)
    clear HDO hb1 HBW
    go_wp2
    go_ret
    exact ⟨by rw [HR.out]; rfl, HE.out⟩
  have e2 : (x.kind == 2) = false := by simpa using k2
  by_cases k3 : x.kind = 3
  · have e3 : (x.kind == 3) = true := by simpa using k3
    have HR : Hid (useC d.p x.p = treeC d.p x.es []) := by show useC d.p x.p = _; unfold useC; rw [if_neg (show ¬ x.p.kind = 1 from k1), if_neg (show ¬ x.p.kind = 2 from k2), if_pos (show x.p.kind = 3 from k3)]; rfl
    clear k1 k2 k3 HH HT HDO bw
    go_enter Tryz.func116, Tryz.ntmps116
    go_wp2_with fail
    refine (HTR.out _ _).mono ?_
    rintro e w1 ⟨rfl, hb1⟩
    have HE := hid (bl_step (HBW.out _ _) hb1)
    clear HTR hb1 HBW
    go_wp2
    go_ret
    exact ⟨by rw [HR.out]; rfl, HE.out⟩
  have e3 : (x.kind == 3) = false := by simpa using k3
  by_cases k4 : x.kind = 4
  · have e4 : (x.kind == 4) = true := by simpa using k4
    have HR : Hid (useC d.p x.p = numC d.p.hs.length x.n) := by show useC d.p x.p = _; unfold useC; rw [if_neg (show ¬ x.p.kind = 1 from k1), if_neg (show ¬ x.p.kind = 2 from k2), if_neg (show ¬ x.p.kind = 3 from k3), if_pos (show x.p.kind = 4 from k4)]; rfl
    clear k1 k2 k3 k4 HT HDO HTR
    go_enter Tryz.func116, Tryz.ntmps116
    go_wp2_with fail
    refine (HH.out _).mono ?_
    rintro e w1 ⟨rfl, rfl⟩
    clear HH
    go_wp2
    go_ret
    exact ⟨by rw [HR.out]; rfl, bw _ _⟩
  · have e4 : (x.kind == 4) = false := by simpa using k4
    have HR : Hid (useC d.p x.p = 5) := by show useC d.p x.p = _; unfold useC; rw [if_neg (show ¬ x.p.kind = 1 from k1), if_neg (show ¬ x.p.kind = 2 from k2), if_neg (show ¬ x.p.kind = 3 from k3), if_neg (show ¬ x.p.kind = 4 from k4)]
    clear k1 k2 k3 k4 HT HH HDO HTR
    go_enter Tryz.func116, Tryz.ntmps116
    go_wp2
    go_ret
    exact ⟨by rw [HR.out]; rfl, bw _ _⟩

/-- a judge in a box, and a number -/
def JIn (d : PlanD) (n : Int) (b0 b1 : Nat) (w : World) : Prop := (w.cell? ⟨b0, 0, none⟩ = some (.slice d.heads.a d.heads.n d.heads.c) ∧ w.cell? ⟨b0, 1, none⟩ = some (.slice d.mta.a d.mta.n d.mta.c) ∧ w.cell? ⟨b0, 2, none⟩ = some (.slice d.states.a d.states.n d.states.c) ∧ w.cell? ⟨b0, 3, none⟩ = some (.slice d.acts.a d.acts.n d.acts.c) ∧ w.cell? ⟨b0, 4, none⟩ = some (.slice d.tabs.a d.tabs.n d.tabs.c) ∧ w.cell? ⟨b0, 5, none⟩ = some (.slice d.nodes.a d.nodes.n d.nodes.c) ∧ w.cell? ⟨b0, 6, none⟩ = some (.slice d.out.a d.out.n d.out.c)) ∧ w.cell? ⟨b1, 0, none⟩ = some (.int .i64 n)

theorem JIn.step {d : PlanD} {n : Int} {b0 b1 : Nat} {w w' : World} (h : JIn d n b0 b1 w) (b : Below w.heap.size w w') : JIn d n b0 b1 w' := by
  obtain ⟨⟨h0, h1, h2, h3, h4, h5, h6⟩, h7⟩ := h
  exact ⟨⟨cell_keep h0 b, cell_keep h1 b, cell_keep h2 b, cell_keep h3 b, cell_keep h4 b, cell_keep h5 b, cell_keep h6 b⟩, cell_keep h7 b⟩

set_option maxHeartbeats 2000000 in
set_option maxRecDepth 20000 in
theorem node1_any (d : PlanD) (n : Nat) (b0 b1 : Nat) (to : Int) (w : World) (hj : JIn d n b0 b1 w) :
    Calls Tryz.prog 114 #[.int .i64 to, .pointer (some ⟨b0, 0, none⟩), .pointer (some ⟨b1, 0, none⟩)] w fun e w' => e = .returned (.int .i64 (stepC d.nodes.n n to)) ∧ Below w.heap.size w w' := by
  obtain ⟨⟨h0, h1, h2, h3, h4, h5, h6⟩, h7⟩ := hj
  have HC := hid (step_any d n to w)
  go_enter Tryz.func114, Tryz.ntmps114
  go_wp2_with fail
  refine HC.out.mono ?_
  rintro e w1 ⟨rfl, hb1⟩
  have HE := hid hb1
  clear HC hb1 h0 h1 h2 h3 h4 h5 h6 h7
  go_wp2
  go_ret
  exact ⟨rfl, HE.out⟩

set_option maxHeartbeats 4000000 in
set_option maxRecDepth 20000 in
theorem firstStep_any (pv qv : Value) (s : QSl) (L : List Int) (code : Int → Int) (w : World) (hs : s.n ≤ 100000) (hL : Has .i64 w s.a s.n L)
    (hC : ∀ w', Below w.heap.size w w' → ∀ c ∈ L, Calls Tryz.prog 114 #[.int .i64 c, pv, qv] w' fun e w'' => e = .returned (.int .i64 (code c)) ∧ Below w'.heap.size w' w'') :
    Calls Tryz.prog 109 #[.slice s.a s.n s.c, .func (.func 114) #[] #[pv, qv]] w (FirstDone (L.map code) w) := by
  have HD : Hid (∀ w' R, firstC (L.map code) = R → Below w.heap.size w w' → FirstDone (L.map code) w (.returned (.int .i64 R)) w') := fun w' R h hb => ⟨by rw [h], hb⟩
  obtain ⟨ea, ee⟩ : ∃ ea, s.a = ea := ⟨_, rfl⟩
  have HL := hid hL
  have HC := hid hC
  have HN := hid hL.1
  have HB0 : Hid (Below w.heap.size w w) := Below.refl _ _
  rw [ee]
  have EE := hid ee
  clear hL hC ee
  go_enter Tryz.func109, Tryz.ntmps109
  go_wp2
  go_loopw [10, 6, 7] (fun q _ _ wr => ∃ k : Nat, k ≤ s.n ∧ q = .int .i64 k ∧ Hid (firstC (L.map code) = firstC ((L.drop k).map code)) ∧ Hid (Below w.heap.size w wr)) (fun q _ _ _ => s.n - (intOf q).toNat)
  case atStart => exact ⟨0, Nat.zero_le _, rfl, rfl, HB0⟩
  case round =>
    obtain ⟨k, hk, rfl, hgo, hb⟩ := hrel
    clear HB0
    by_cases hlt : k < s.n
    · obtain ⟨g, off, x, ea', hx, r0⟩ := int_at (HL.out.step hb.out) hlt
      obtain rfl : ea = some ⟨g, off, none⟩ := by rw [← EE.out]; exact ea'
      have hki : (k : Int) < (s.n : Int) := by omega
      have hst : firstC ((L.drop k).map code) = if code x ≠ 0 then code x else firstC ((L.drop (k + 1)).map code) := by
        obtain ⟨hk', e⟩ := List.getElem?_eq_some_iff.1 hx
        rw [List.drop_eq_getElem_cons hk', e]
        rfl
      have hCx := hid (HC.out wr (hb.out) x (List.mem_of_getElem? hx))
      have BO := hid (Below.refl wr.heap.size wr)
      clear ea' hx
      generalize code x = C at *
      by_cases h0 : C = 0
      · have HG : Hid (firstC (L.map code) = firstC ((L.drop (k + 1)).map code)) := by show firstC (L.map code) = _; rw [hgo.out, hst, if_neg (by simp [h0])]
        subst h0
        clear hst hgo
        go_wp2_with fail
        refine hCx.out.mono ?_
        rintro e w1 ⟨rfl, hb1⟩
        have HE1 := hid (bl_step (bl_step hb.out BO.out) hb1)
        clear hCx hb1 hb BO
        go_wp2
        go_roundw
        case rel => exact ⟨k + 1, by omega, by go_num, HG, HE1⟩
        case measure => simp [intOf]; omega
      · have HG : Hid (firstC (L.map code) = C) := by show firstC (L.map code) = _; rw [hgo.out, hst, if_pos h0]
        have b0 : (C != 0) = true := by simpa using h0
        clear hst hgo
        go_wp2_with fail
        refine hCx.out.mono ?_
        rintro e w1 ⟨rfl, hb1⟩
        have HE1 := hid (bl_step (bl_step hb.out BO.out) hb1)
        clear hCx hb1 hb BO
        go_wp2
        go_ret
        exact HD.out _ _ HG.out HE1.out
    · have ek : k = s.n := by omega
      have HF : Hid (firstC (L.map code) = 0) := by
        show firstC (L.map code) = _
        rw [hgo.out, ek, ← HN.out, List.drop_length]
        rfl
      have HBE := hid hb.out
      clear hgo hb
      subst ek
      go_wp2
      go_ret
      exact HD.out _ _ HF.out HBE.out
end Go.Proofs.YtlnkfgdepddmladGreat
