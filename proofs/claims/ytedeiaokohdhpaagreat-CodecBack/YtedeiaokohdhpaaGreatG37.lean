/- Texts of one chain, joined: QNode, QNode2. -/
import Derived.Test.YtedeiaokohdhpaaGreatG20
import Derived.Test.YtedeiaokohdhpaaGreatG31
import Derived.Test.YtedeiaokohdhpaaGreatG32
import Derived.Test.YtedeiaokohdhpaaGreatG15
import Derived.Deep.RegionHeld3
import Derived.Laws.EntriesVeiled
namespace Go.Proofs.YtedeiaokohdhpaaGreat
open Go.RowKit
set_option maxHeartbeats 2000000 in
set_option maxRecDepth 20000 in
theorem do_any (d : PlanD) (n : Int) (w : World) (hl : d.lie w) :
    Calls Tryz.prog 143 #[d.v, .int .i64 n] w fun e w' => e = .returned (.int .i64 (doC d.p n)) ∧ Below w.heap.size w w' := by
  have eal : d.p.al.length = d.acts.n := by simp [PlanD.p, hl.al.1]
  have bw : ∀ o, Below w.heap.size w (w.alloc o) := fun o => bl_alloc (Below.refl _ _)
  have HI : Hid (∀ w', Calls Tryz.prog 161 #[.slice d.acts.a d.acts.n d.acts.c, .int .i64 n] w' fun e w'' => e = .returned (.bool (decide (0 ≤ n ∧ n < (d.acts.n : Int)))) ∧ w'' = w') := fun w' => isOfA_any _ _ _ _ w'
  by_cases h : 0 ≤ n ∧ n < (d.acts.n : Int)
  · obtain ⟨k, rfl⟩ : ∃ k : Nat, n = k := ⟨n.toNat, by omega⟩
    have hk : k < d.acts.n := by omega
    obtain ⟨g, off, x, ea, hx, ⟨c0, _⟩, _, hws, _⟩ := row_at hl.al hk
    have hr : doC d.p k = if 0 < x.w.n then 2 else 0 := by
      unfold doC
      rw [eal, if_pos h, Int.toNat_natCast]
      have e2 : d.p.al.getD k ⟨[], []⟩ = x.p := by
        simp only [PlanD.p, List.getD_eq_getElem?_getD, List.getElem?_map, hx]
        rfl
      rw [e2]
      show (if 0 < x.ws.length then 2 else 0) = _
      rw [hws.1]
    have k0 : ∀ o, (w.alloc o).cell? ⟨g, off + k * 2, none⟩ = some (.slice x.w.a x.w.n x.w.c) := fun o => cell_keep c0 (bw o)
    rw [decide_eq_true h] at HI
    have hki : (k : Int) < (d.acts.n : Int) := by omega
    have HR := hid hr
    rw [ea] at HI
    clear hl hx c0 hws hr eal h
    by_cases hz : 0 < x.w.n
    · have d1 := decide_eq_true hz
      have d2 : decide ((0 : Int) < (x.w.n : Int)) = true := decide_eq_true (by omega)
      rw [if_pos hz] at HR
      go_enter Tryz.func143, Tryz.ntmps143
      go_wp2_with fail
      refine (HI.out _).mono ?_
      rintro e w1 ⟨rfl, rfl⟩
      clear HI
      go_wp2
      go_ret
      exact ⟨by rw [HR.out]; rfl, bw _⟩
    · have d1 := decide_eq_false hz
      have d2 : decide ((0 : Int) < (x.w.n : Int)) = false := decide_eq_false (by omega)
      rw [if_neg hz] at HR
      go_enter Tryz.func143, Tryz.ntmps143
      go_wp2_with fail
      refine (HI.out _).mono ?_
      rintro e w1 ⟨rfl, rfl⟩
      clear HI
      go_wp2
      go_ret
      exact ⟨by rw [HR.out]; rfl, bw _⟩
  · have HR : Hid (doC d.p n = 1) := by show doC d.p n = 1; unfold doC; rw [eal, if_neg h]
    rw [decide_eq_false h] at HI
    clear hl eal h
    go_enter Tryz.func143, Tryz.ntmps143
    go_wp2_with fail
    refine (HI.out _).mono ?_
    rintro e w1 ⟨rfl, rfl⟩
    clear HI
    go_wp2
    go_ret
    exact ⟨by rw [HR.out]; rfl, bw _⟩
set_option maxHeartbeats 2000000 in
set_option maxRecDepth 20000 in
theorem step_any (d : PlanD) (n : Nat) (to : Int) (w : World) :
    Calls Tryz.prog 100 #[d.v, .int .i64 n, .int .i64 to] w fun e w' => e = .returned (.int .i64 (stepC d.nodes.n n to)) ∧ Below w.heap.size w w' := by
  have bw : ∀ o, Below w.heap.size w (w.alloc o) := fun o => bl_alloc (Below.refl _ _)
  by_cases h0 : to < 0
  · have d0 := decide_eq_true h0
    have HR : Hid (stepC d.nodes.n n to = 1) := by show stepC _ _ _ = 1; unfold stepC; rw [if_pos (.inl h0)]
    go_enter Tryz.func100, Tryz.ntmps100
    go_wp2
    go_ret
    exact ⟨by rw [HR.out]; rfl, bw _⟩
  have d0 := decide_eq_false h0
  by_cases h1 : (d.nodes.n : Int) < to
  · have d1 := decide_eq_true h1
    have HR : Hid (stepC d.nodes.n n to = 1) := by show stepC _ _ _ = 1; unfold stepC; rw [if_pos (.inr h1)]
    go_enter Tryz.func100, Tryz.ntmps100
    go_wp2
    go_ret
    exact ⟨by rw [HR.out]; rfl, bw _⟩
  have d1 := decide_eq_false h1
  have hn : ¬ (to < 0 ∨ (d.nodes.n : Int) < to) := by omega
  by_cases h2 : to ≤ (n : Int)
  · have d2 := decide_eq_true h2
    have HR : Hid (stepC d.nodes.n n to = 11) := by show stepC _ _ _ = 11; unfold stepC; rw [if_neg hn, if_pos h2]
    go_enter Tryz.func100, Tryz.ntmps100
    go_wp2
    go_ret
    exact ⟨by rw [HR.out]; rfl, bw _⟩
  · have d2 := decide_eq_false h2
    have HR : Hid (stepC d.nodes.n n to = 0) := by show stepC _ _ _ = 0; unfold stepC; rw [if_neg hn, if_neg h2]
    go_enter Tryz.func100, Tryz.ntmps100
    go_wp2
    go_ret
    exact ⟨by rw [HR.out]; rfl, bw _⟩
@[reducible] def NodeD.v (x : NodeD) : Value := .agg #[.int .i64 x.kind, .int .i64 x.n, .slice x.e.a x.e.n x.e.c, .int .i64 x.yes, .int .i64 x.no]
set_option maxHeartbeats 4000000 in
set_option maxRecDepth 20000 in
theorem use_any (d : PlanD) (x : NodeD) (w : World) (hl : d.lie w) (he : QRow 4 PushD.lie w x.e x.es) :
    Calls Tryz.prog 101 #[d.v, x.v] w fun e w' => e = .returned (.int .i64 (useC d.p x.p)) ∧ Below w.heap.size w w' := by
  have bw : ∀ o o', Below w.heap.size w ((w.alloc o).alloc o') := fun o o' => bl_alloc (bl_alloc (Below.refl _ _))
  have ehs : d.p.hs.length = d.heads.n := by simp [PlanD.p, hl.hs.1]
  have ets : d.p.ts.length = d.tabs.n := by simp [PlanD.p, hl.ts.1]
  have HT : Hid (∀ w', Calls Tryz.prog 142 #[.slice d.tabs.a d.tabs.n d.tabs.c, .int .i64 x.n] w' fun e w'' => e = .returned (.int .i64 (numC d.p.ts.length x.n)) ∧ w'' = w') := fun w' => by rw [ets]; exact numT_any _ _ _ _ w'
  have HH : Hid (∀ w', Calls Tryz.prog 135 #[.slice d.heads.a d.heads.n d.heads.c, .int .i64 x.n] w' fun e w'' => e = .returned (.int .i64 (numC d.p.hs.length x.n)) ∧ w'' = w') := fun w' => by rw [ehs]; exact numH_any _ _ _ _ w'
  have HDO : Hid (∀ o o', Calls Tryz.prog 143 #[d.v, .int .i64 x.n] ((w.alloc o).alloc o') fun e w'' => e = .returned (.int .i64 (doC d.p x.n)) ∧ Below ((w.alloc o).alloc o').heap.size ((w.alloc o).alloc o') w'') := fun o o' => do_any d x.n _ (hl.step (bw o o'))
  have HTR : Hid (∀ o o', Calls Tryz.prog 134 #[d.v, .slice x.e.a x.e.n x.e.c, .slice none 0 0] ((w.alloc o).alloc o') fun e w'' => e = .returned (.int .i64 (treeC d.p x.es [])) ∧ Below ((w.alloc o).alloc o').heap.size ((w.alloc o).alloc o') w'') := fun o o' => tree_any d x.e x.es none 0 0 [] _ (hl.step (bw o o')) (he.step PushD.keeps (bw o o')) (has_nil _ _)
  have HBW := hid bw
  clear hl he ehs ets
  by_cases k1 : x.kind = 1
  · have e1 : (x.kind == 1) = true := by simpa using k1
    have HR : Hid (useC d.p x.p = numC d.p.ts.length x.n) := by show useC d.p x.p = _; unfold useC; rw [if_pos (show x.p.kind = 1 from k1)]; rfl
    clear k1 HH HDO HTR
    go_enter Tryz.func101, Tryz.ntmps101
    go_wp2_with fail
    refine (HT.out _).mono ?_
    rintro e w1 ⟨rfl, rfl⟩
    clear HT
    go_wp2
    go_ret
    exact ⟨by rw [HR.out]; rfl, bw _ _⟩
  have e1 : (x.kind == 1) = false := by simpa using k1
  by_cases k2 : x.kind = 2
  · have e2 : (x.kind == 2) = true := by simpa using k2
    have HR : Hid (useC d.p x.p = doC d.p x.n) := by show useC d.p x.p = _; unfold useC; rw [if_neg (show ¬ x.p.kind = 1 from k1), if_pos (show x.p.kind = 2 from k2)]; rfl
    clear k1 k2 HH HT HTR bw
    go_enter Tryz.func101, Tryz.ntmps101
    go_wp2_with fail
    refine (HDO.out _ _).mono ?_
    rintro e w1 ⟨rfl, hb1⟩
    have HE := hid (bl_step (HBW.out _ _) hb1)
    clear HDO hb1 HBW
    go_wp2
    go_ret
    exact ⟨by rw [HR.out]; rfl, HE.out⟩
  have e2 : (x.kind == 2) = false := by simpa using k2
  by_cases k3 : x.kind = 3
  · have e3 : (x.kind == 3) = true := by simpa using k3
    have HR : Hid (useC d.p x.p = treeC d.p x.es []) := by show useC d.p x.p = _; unfold useC; rw [if_neg (show ¬ x.p.kind = 1 from k1), if_neg (show ¬ x.p.kind = 2 from k2), if_pos (show x.p.kind = 3 from k3)]; rfl
    clear k1 k2 k3 HH HT HDO bw
    go_enter Tryz.func101, Tryz.ntmps101
    go_wp2_with fail
    refine (HTR.out _ _).mono ?_
    rintro e w1 ⟨rfl, hb1⟩
    have HE := hid (bl_step (HBW.out _ _) hb1)
    clear HTR hb1 HBW
    go_wp2
    go_ret
    exact ⟨by rw [HR.out]; rfl, HE.out⟩
  have e3 : (x.kind == 3) = false := by simpa using k3
  by_cases k4 : x.kind = 4
  · have e4 : (x.kind == 4) = true := by simpa using k4
    have HR : Hid (useC d.p x.p = numC d.p.hs.length x.n) := by show useC d.p x.p = _; unfold useC; rw [if_neg (show ¬ x.p.kind = 1 from k1), if_neg (show ¬ x.p.kind = 2 from k2), if_neg (show ¬ x.p.kind = 3 from k3), if_pos (show x.p.kind = 4 from k4)]; rfl
    clear k1 k2 k3 k4 HT HDO HTR
    go_enter Tryz.func101, Tryz.ntmps101
    go_wp2_with fail
    refine (HH.out _).mono ?_
    rintro e w1 ⟨rfl, rfl⟩
    clear HH
    go_wp2
    go_ret
    exact ⟨by rw [HR.out]; rfl, bw _ _⟩
  · have e4 : (x.kind == 4) = false := by simpa using k4
    have HR : Hid (useC d.p x.p = 5) := by show useC d.p x.p = _; unfold useC; rw [if_neg (show ¬ x.p.kind = 1 from k1), if_neg (show ¬ x.p.kind = 2 from k2), if_neg (show ¬ x.p.kind = 3 from k3), if_neg (show ¬ x.p.kind = 4 from k4)]
    clear k1 k2 k3 k4 HT HH HDO HTR
    go_enter Tryz.func101, Tryz.ntmps101
    go_wp2
    go_ret
    exact ⟨by rw [HR.out]; rfl, bw _ _⟩
def JIn (d : PlanD) (n : Int) (b0 b1 : Nat) (w : World) : Prop := (w.cell? ⟨b0, 0, none⟩ = some (.slice d.heads.a d.heads.n d.heads.c) ∧ w.cell? ⟨b0, 1, none⟩ = some (.slice d.mta.a d.mta.n d.mta.c) ∧ w.cell? ⟨b0, 2, none⟩ = some (.slice d.states.a d.states.n d.states.c) ∧ w.cell? ⟨b0, 3, none⟩ = some (.slice d.acts.a d.acts.n d.acts.c) ∧ w.cell? ⟨b0, 4, none⟩ = some (.slice d.tabs.a d.tabs.n d.tabs.c) ∧ w.cell? ⟨b0, 5, none⟩ = some (.slice d.nodes.a d.nodes.n d.nodes.c) ∧ w.cell? ⟨b0, 6, none⟩ = some (.slice d.out.a d.out.n d.out.c)) ∧ w.cell? ⟨b1, 0, none⟩ = some (.int .i64 n)
theorem JIn.step {d : PlanD} {n : Int} {b0 b1 : Nat} {w w' : World} (h : JIn d n b0 b1 w) (b : Below w.heap.size w w') : JIn d n b0 b1 w' := by
  obtain ⟨⟨h0, h1, h2, h3, h4, h5, h6⟩, h7⟩ := h
  exact ⟨⟨cell_keep h0 b, cell_keep h1 b, cell_keep h2 b, cell_keep h3 b, cell_keep h4 b, cell_keep h5 b, cell_keep h6 b⟩, cell_keep h7 b⟩
set_option maxHeartbeats 2000000 in
set_option maxRecDepth 20000 in
theorem node1_any (d : PlanD) (n : Nat) (b0 b1 : Nat) (to : Int) (w : World) (hj : JIn d n b0 b1 w) :
    Calls Tryz.prog 99 #[.int .i64 to, .pointer (some ⟨b0, 0, none⟩), .pointer (some ⟨b1, 0, none⟩)] w fun e w' => e = .returned (.int .i64 (stepC d.nodes.n n to)) ∧ Below w.heap.size w w' := by
  obtain ⟨⟨h0, h1, h2, h3, h4, h5, h6⟩, h7⟩ := hj
  have HC := hid (step_any d n to w)
  go_enter Tryz.func99, Tryz.ntmps99
  go_wp2_with fail
  refine HC.out.mono ?_
  rintro e w1 ⟨rfl, hb1⟩
  have HE := hid hb1
  clear HC hb1 h0 h1 h2 h3 h4 h5 h6 h7
  go_wp2
  go_ret
  exact ⟨rfl, HE.out⟩
set_option maxHeartbeats 4000000 in
set_option maxRecDepth 20000 in
theorem firstStep_any (pv qv : Value) (s : QSl) (L : List Int) (code : Int → Int) (w : World) (hs : s.n ≤ 100000) (hL : Has .i64 w s.a s.n L)
    (hC : ∀ w', Below w.heap.size w w' → ∀ c ∈ L, Calls Tryz.prog 99 #[.int .i64 c, pv, qv] w' fun e w'' => e = .returned (.int .i64 (code c)) ∧ Below w'.heap.size w' w'') :
    Calls Tryz.prog 93 #[.slice s.a s.n s.c, .func (.func 99) #[] #[pv, qv]] w (FirstDone (L.map code) w) := by
  have HD : Hid (∀ w' R, firstC (L.map code) = R → Below w.heap.size w w' → FirstDone (L.map code) w (.returned (.int .i64 R)) w') := fun w' R h hb => ⟨by rw [h], hb⟩
  obtain ⟨ea, ee⟩ : ∃ ea, s.a = ea := ⟨_, rfl⟩
  have HL := hid hL
  have HC := hid hC
  have HN := hid hL.1
  have HB0 : Hid (Below w.heap.size w w) := Below.refl _ _
  rw [ee]
  have EE := hid ee
  clear hL hC ee
  go_enter Tryz.func93, Tryz.ntmps93
  go_wp2
  go_loopw [10, 6, 7] (fun q _ _ wr => ∃ k : Nat, k ≤ s.n ∧ q = .int .i64 k ∧ Hid (firstC (L.map code) = firstC ((L.drop k).map code)) ∧ Hid (Below w.heap.size w wr)) (fun q _ _ _ => s.n - (intOf q).toNat)
  case atStart => exact ⟨0, Nat.zero_le _, rfl, rfl, HB0⟩
  case round =>
    obtain ⟨k, hk, rfl, hgo, hb⟩ := hrel
    clear HB0
    by_cases hlt : k < s.n
    · obtain ⟨g, off, x, ea', hx, r0⟩ := int_at (HL.out.step hb.out) hlt
      obtain rfl : ea = some ⟨g, off, none⟩ := by rw [← EE.out]; exact ea'
      have hki : (k : Int) < (s.n : Int) := by omega
      have hst : firstC ((L.drop k).map code) = if code x ≠ 0 then code x else firstC ((L.drop (k + 1)).map code) := by
        obtain ⟨hk', e⟩ := List.getElem?_eq_some_iff.1 hx
        rw [List.drop_eq_getElem_cons hk', e]
        rfl
      have hCx := hid (HC.out wr (hb.out) x (List.mem_of_getElem? hx))
      have BO := hid (Below.refl wr.heap.size wr)
      clear ea' hx
      generalize code x = C at *
      by_cases h0 : C = 0
      · have HG : Hid (firstC (L.map code) = firstC ((L.drop (k + 1)).map code)) := by show firstC (L.map code) = _; rw [hgo.out, hst, if_neg (by simp [h0])]
        subst h0
        clear hst hgo
        go_wp2_with fail
        refine hCx.out.mono ?_
        rintro e w1 ⟨rfl, hb1⟩
        have HE1 := hid (bl_step (bl_step hb.out BO.out) hb1)
        clear hCx hb1 hb BO
        go_wp2
        go_roundw
        case rel => exact ⟨k + 1, by omega, by go_num, HG, HE1⟩
        case measure => simp [intOf]; omega
      · have HG : Hid (firstC (L.map code) = C) := by show firstC (L.map code) = _; rw [hgo.out, hst, if_pos h0]
        have b0 : (C != 0) = true := by simpa using h0
        clear hst hgo
        go_wp2_with fail
        refine hCx.out.mono ?_
        rintro e w1 ⟨rfl, hb1⟩
        have HE1 := hid (bl_step (bl_step hb.out BO.out) hb1)
        clear hCx hb1 hb BO
        go_wp2
        go_ret
        exact HD.out _ _ HG.out HE1.out
    · have ek : k = s.n := by omega
      have HF : Hid (firstC (L.map code) = 0) := by
        show firstC (L.map code) = _
        rw [hgo.out, ek, ← HN.out, List.drop_length]
        rfl
      have HBE := hid hb.out
      clear hgo hb
      subst ek
      go_wp2
      go_ret
      exact HD.out _ _ HF.out HBE.out
end Go.Proofs.YtedeiaokohdhpaaGreat

namespace Go.Proofs.YtedeiaokohdhpaaGreat
open Go.RowKit
theorem moreI {w : World} {ops : Array Oper} {rest : List Oper} {o : Oper} {a : Act} {Q : Exit → Act → World → Prop} (hgd : o.guard = none) (s x : Operand)
    (ho : o.op = .call { callee := .builtin .append, args := #[s, x], argTypes := #[23, 23] }) (base : Nat) (vs : Value) (n : Nat) (ys : List Int) (hs : a.eval s = vs) (hown : w.ownsRow base 3 1 vs n (II ys)) (hbase : base ≤ w.heap.size)
    (ad : Addr) (m c : Nat) (zs : List Int) (hx : a.eval x = .slice (some ad) m c) (hz : Has .i64 w (some ad) m zs) (hsmall : n + m ≤ 10000000)
    (h : ∀ v' w', w'.ownsRow base 3 1 v' (n + m) (II (ys ++ zs)) → Below base w w' → wpList Tryz.prog ops Q rest (a.put o.dst v') w') : wpList Tryz.prog ops Q (o :: rest) a w := by
  obtain ⟨i0, hi, hz0, hz1, hz2⟩ := info_parts Tryz.infoInt
  refine wpList_append_own w hgd s x 23 ho base 3 i0 (.int .i64 0) 1 8 Tryz.underlying23 hi hz0 hz1 hz2 rfl (by decide) vs n (II ys) hs hown ad m c (II zs) hx (by have := hz.1; simp [II]; omega) (has_cellsI hz) (ii_one zs) (by unfold maxLen; omega) (by omega) hbase ?_
  intro v' w' h1 h2 _
  refine h v' w' (by simpa [II] using h1) ((Below.refl _ _).grown h2 hbase ?_)
  intro k hk
  exact (hown.lt k hk).1
set_option maxHeartbeats 16000000 in
set_option maxRecDepth 20000 in
theorem node_any (d : PlanD) (w : World) (hl : d.lie w) (k : Nat) (hk : k < d.nodes.n) (x : NodeD) (hx : d.ns[k]? = some x) :
    Calls Tryz.prog 51 #[d.v, .int .i64 k] w fun e w' => e = .returned (.int .i64 (nodeC d.p k x.p)) ∧ Below w.heap.size w w' := by
  have bw1 : ∀ o o', Below w.heap.size w ((w.alloc o).alloc o') := fun o o' => bl_alloc (bl_alloc (Below.refl _ _))
  obtain ⟨g, off, x', ea, hx', ⟨c0, _⟩, ⟨c1, _⟩, ⟨c2, _⟩, ⟨c3, w3⟩, ⟨c4, w4⟩, hrow⟩ := row_at hl.ns hk
  obtain rfl : x = x' := by rw [hx] at hx'; exact Option.some.inj hx'
  have ens : d.p.ns.length = d.nodes.n := by simp [PlanD.p, hl.ns.1]
  have HU : Hid (∀ w', Below w.heap.size w w' → Calls Tryz.prog 101 #[d.v, x.v] w' fun e w'' => e = .returned (.int .i64 (useC d.p x.p)) ∧ Below w'.heap.size w' w'') := fun w' h => use_any d x w' (hl.step h) (hrow.step PushD.keeps h)
  have HRES : Hid (nodeC d.p k x.p = or2 (useC d.p x.p) (firstC ((if x.kind = 3 ∨ x.kind = 4 then [x.yes, x.no] else [x.yes]).map (stepC d.nodes.n k)))) := by
    show nodeC d.p k x.p = _
    unfold nodeC
    rw [ens]
    rfl
  generalize useC d.p x.p = U at *
  generalize hFSq : firstC ((if x.kind = 3 ∨ x.kind = 4 then [x.yes, x.no] else [x.yes]).map (stepC d.nodes.n k)) = FSq at *
  have HOR : Hid (∀ (w' : World), Calls Tryz.prog 89 #[.slice (some ⟨w'.heap.size, 0, none⟩) 2 2] (w'.alloc (.cells #[.int .i64 U, .int .i64 FSq] 3)) fun e w'' => e = .returned (.int .i64 (or2 U FSq)) ∧ w'' = w'.alloc (.cells #[.int .i64 U, .int .i64 FSq] 3)) := fun w' => qor2_any (b := w'.heap.size) (x := U) (y := FSq) (or2 U FSq) rfl (by simp) (by simp)
  have hki : (k : Int) < (d.nodes.n : Int) := by omega
  have k0 : ∀ o o', ((w.alloc o).alloc o').cell? ⟨g, off + k * 5, none⟩ = some (.int .i64 x.kind) := fun o o' => cell_keep c0 (bw1 o o')
  have k1 : ∀ o o', ((w.alloc o).alloc o').cell? ⟨g, off + k * 5 + 1, none⟩ = some (.int .i64 x.n) := fun o o' => cell_keep c1 (bw1 o o')
  have k2 : ∀ o o', ((w.alloc o).alloc o').cell? ⟨g, off + k * 5 + 2, none⟩ = some (.slice x.e.a x.e.n x.e.c) := fun o o' => cell_keep c2 (bw1 o o')
  have k3 : ∀ o o', ((w.alloc o).alloc o').cell? ⟨g, off + k * 5 + 3, none⟩ = some (.int .i64 x.yes) := fun o o' => cell_keep c3 (bw1 o o')
  have k4 : ∀ o o', ((w.alloc o).alloc o').cell? ⟨g, off + k * 5 + 4, none⟩ = some (.int .i64 x.no) := fun o o' => cell_keep c4 (bw1 o o')
  obtain ⟨W4, hW⟩ : ∃ W4, W4 = ((((w.alloc (.cells #[.slice d.heads.a d.heads.n d.heads.c, .slice d.mta.a d.mta.n d.mta.c, .slice d.states.a d.states.n d.states.c, .slice d.acts.a d.acts.n d.acts.c, .slice d.tabs.a d.tabs.n d.tabs.c, .slice (some ⟨g, off, none⟩) d.nodes.n d.nodes.c, .slice d.out.a d.out.n d.out.c] 102)).alloc (.cells #[.int .i64 (k : Int)] 3)).alloc (.cells #[.int .i64 x.kind, .int .i64 x.n, .slice x.e.a x.e.n x.e.c, .int .i64 x.yes, .int .i64 x.no] 65)).alloc (.cells #[.int .i64 x.yes] 3)) := ⟨_, rfl⟩
  obtain ⟨b0, h0⟩ : ∃ b0, b0 = w.heap.size := ⟨_, rfl⟩
  obtain ⟨b1, h1⟩ : ∃ b1, b1 = w.heap.size + 1 := ⟨_, rfl⟩
  obtain ⟨b2, h2⟩ : ∃ b2, b2 = w.heap.size + 1 + 1 := ⟨_, rfl⟩
  obtain ⟨b3, h3⟩ : ∃ b3, b3 = w.heap.size + 1 + 1 + 1 := ⟨_, rfl⟩
  have z0 : W4.cell? ⟨b0, 0, none⟩ = some (.slice d.heads.a d.heads.n d.heads.c) := by rw [hW, h0]; exact (World.cell?_alloc_past _ _ _ (by simp; omega)).trans ((World.cell?_alloc_past _ _ _ (by simp; omega)).trans ((World.cell?_alloc_past _ _ _ (by simp)).trans ((World.cell?_alloc_at _ _ _ _ rfl).trans rfl)))
  have z1 : W4.cell? ⟨b0, 1, none⟩ = some (.slice d.mta.a d.mta.n d.mta.c) := by rw [hW, h0]; exact (World.cell?_alloc_past _ _ _ (by simp; omega)).trans ((World.cell?_alloc_past _ _ _ (by simp; omega)).trans ((World.cell?_alloc_past _ _ _ (by simp)).trans ((World.cell?_alloc_at _ _ _ _ rfl).trans rfl)))
  have z2 : W4.cell? ⟨b0, 2, none⟩ = some (.slice d.states.a d.states.n d.states.c) := by rw [hW, h0]; exact (World.cell?_alloc_past _ _ _ (by simp; omega)).trans ((World.cell?_alloc_past _ _ _ (by simp; omega)).trans ((World.cell?_alloc_past _ _ _ (by simp)).trans ((World.cell?_alloc_at _ _ _ _ rfl).trans rfl)))
  have z3 : W4.cell? ⟨b0, 3, none⟩ = some (.slice d.acts.a d.acts.n d.acts.c) := by rw [hW, h0]; exact (World.cell?_alloc_past _ _ _ (by simp; omega)).trans ((World.cell?_alloc_past _ _ _ (by simp; omega)).trans ((World.cell?_alloc_past _ _ _ (by simp)).trans ((World.cell?_alloc_at _ _ _ _ rfl).trans rfl)))
  have z4 : W4.cell? ⟨b0, 4, none⟩ = some (.slice d.tabs.a d.tabs.n d.tabs.c) := by rw [hW, h0]; exact (World.cell?_alloc_past _ _ _ (by simp; omega)).trans ((World.cell?_alloc_past _ _ _ (by simp; omega)).trans ((World.cell?_alloc_past _ _ _ (by simp)).trans ((World.cell?_alloc_at _ _ _ _ rfl).trans rfl)))
  have z5 : W4.cell? ⟨b0, 5, none⟩ = some (.slice (some ⟨g, off, none⟩) d.nodes.n d.nodes.c) := by rw [hW, h0]; exact (World.cell?_alloc_past _ _ _ (by simp; omega)).trans ((World.cell?_alloc_past _ _ _ (by simp; omega)).trans ((World.cell?_alloc_past _ _ _ (by simp)).trans ((World.cell?_alloc_at _ _ _ _ rfl).trans rfl)))
  have z6 : W4.cell? ⟨b0, 6, none⟩ = some (.slice d.out.a d.out.n d.out.c) := by rw [hW, h0]; exact (World.cell?_alloc_past _ _ _ (by simp; omega)).trans ((World.cell?_alloc_past _ _ _ (by simp; omega)).trans ((World.cell?_alloc_past _ _ _ (by simp)).trans ((World.cell?_alloc_at _ _ _ _ rfl).trans rfl)))
  have y0 : W4.cell? ⟨b1, 0, none⟩ = some (.int .i64 (k : Int)) := by rw [hW, h1]; exact (World.cell?_alloc_past _ _ _ (by simp)).trans ((World.cell?_alloc_past _ _ _ (by simp)).trans ((World.cell?_alloc_at _ _ _ _ (by simp)).trans rfl))
  have x0 : W4.cell? ⟨b2, 0, none⟩ = some (.int .i64 x.kind) := by rw [hW, h2]; exact (World.cell?_alloc_past _ _ _ (by simp)).trans ((World.cell?_alloc_at _ _ _ _ (by simp)).trans rfl)
  have x1 : W4.cell? ⟨b2, 1, none⟩ = some (.int .i64 x.n) := by rw [hW, h2]; exact (World.cell?_alloc_past _ _ _ (by simp)).trans ((World.cell?_alloc_at _ _ _ _ (by simp)).trans rfl)
  have x2 : W4.cell? ⟨b2, 2, none⟩ = some (.slice x.e.a x.e.n x.e.c) := by rw [hW, h2]; exact (World.cell?_alloc_past _ _ _ (by simp)).trans ((World.cell?_alloc_at _ _ _ _ (by simp)).trans rfl)
  have x3 : W4.cell? ⟨b2, 3, none⟩ = some (.int .i64 x.yes) := by rw [hW, h2]; exact (World.cell?_alloc_past _ _ _ (by simp)).trans ((World.cell?_alloc_at _ _ _ _ (by simp)).trans rfl)
  have x4 : W4.cell? ⟨b2, 4, none⟩ = some (.int .i64 x.no) := by rw [hW, h2]; exact (World.cell?_alloc_past _ _ _ (by simp)).trans ((World.cell?_alloc_at _ _ _ _ (by simp)).trans rfl)
  have HB : Hid (Below w.heap.size w W4) := by rw [hW]; exact bl_alloc (bl_alloc (bl_alloc (bl_alloc (Below.refl _ _))))
  have hWs : W4.heap.size = b3 + 1 := by rw [hW, h3]; simp
  have HYW := hid w3
  have HNW := hid w4
  have E4 := hid hW
  have E0 := hid h0
  have E1 := hid h1
  have E2 := hid h2
  have E3 := hid h3
  unfold PlanD.v at HU
  rw [ea] at HU
  clear hW h0 h1 h2 h3 hl hx hx' c0 c1 c2 c3 c4 hrow ens bw1
  have hmf : ∀ (fn : Fn) (first cap : Array Value) (w : World), (Instr.makeFunc fn first cap).run Tryz.prog w = .ok (.func fn first cap) w := fun _ _ _ _ => rfl
  by_cases q3 : x.kind = 3
  · have e3 : (x.kind == 3) = true := by simpa using q3
    have hk34 : x.kind = 3 ∨ x.kind = 4 := .inl q3
    clear q3
    have HFE : Hid (firstC ([x.yes, x.no].map (stepC d.nodes.n k)) = FSq) := by rw [if_pos hk34] at hFSq; exact hFSq
    clear hFSq hk34
    have HOWN : Hid ((W4.alloc (.cells #[.int .i64 x.no] 3)).ownsRow (w.heap.size + 3) 3 1 (.slice (some ⟨b3, 0, none⟩) 1 1) 1 (II [x.yes])) := by
      refine owns_below ?_ (bl_alloc (Below.refl _ _))
      rw [E4.out, E3.out]
      simpa [II] using World.ownsRow_lit (e := 3) (size := 1) (base := w.heap.size + 3) (((w.alloc (.cells #[.slice d.heads.a d.heads.n d.heads.c, .slice d.mta.a d.mta.n d.mta.c, .slice d.states.a d.states.n d.states.c, .slice d.acts.a d.acts.n d.acts.c, .slice d.tabs.a d.tabs.n d.tabs.c, .slice (some ⟨g, off, none⟩) d.nodes.n d.nodes.c, .slice d.out.a d.out.n d.out.c] 102)).alloc (.cells #[.int .i64 (k : Int)] 3)).alloc (.cells #[.int .i64 x.kind, .int .i64 x.n, .slice x.e.a x.e.n x.e.c, .int .i64 x.yes, .int .i64 x.no] 65)) #[.int .i64 x.yes] 1 (by simp) (by unfold maxLen; omega) (by simp)
    have HHAS : Hid (Has .i64 (W4.alloc (.cells #[.int .i64 x.no] 3)) (some ⟨b3 + 1, 0, none⟩) 1 [x.no]) := by
      show Has .i64 (W4.alloc (.cells #[.int .i64 x.no] 3)) (some ⟨b3 + 1, 0, none⟩) 1 [x.no]
      rw [← hWs]
      exact has_oneI W4 x.no HNW.out
    have hbs : w.heap.size + 3 ≤ (W4.alloc (.cells #[.int .i64 x.no] 3)).heap.size := by rw [World.size_alloc, hWs, E3.out]; omega
    have HBS := hid hbs
    clear hbs
    go_enter Tryz.func51, Tryz.ntmps51
    go_wp2_with (at_builtin; rw [← E4.out, ← E3.out, ← E2.out, ← E1.out, ← E0.out]; refine moreI rfl _ _ rfl (w.heap.size + 3) (.slice (some ⟨b3, 0, none⟩) 1 1) 1 [x.yes] ?a1 HOWN.out HBS.out ⟨b3 + 1, 0, none⟩ 1 1 [x.no] ?a2 HHAS.out (by omega) ?_)
    case a1 => rfl
    case a2 => rfl
    intro v5 w5 ho5 hb5
    obtain ⟨a5, c5, rfl, _, _⟩ := own_is ho5
    have HWAY : Hid (Has .i64 w5 a5 2 [x.yes, x.no]) := has_ownI ho5 (by
      intro n hn
      simp only [List.mem_cons, List.not_mem_nil, or_false] at hn
      rcases hn with rfl | rfl
      · exact HYW.out
      · exact HNW.out)
    have HB5 : Hid (Below (w.heap.size + 3) W4 w5) := ((Below.refl _ _).alloc (by rw [hWs, E3.out]; omega) _).trans hb5
    have HBC := hid (HB.out.trans (HB5.out.mono (by omega)))
    have HJC : Hid (JIn d k b0 b1 w5) := by
      rw [← ea] at z5
      have kp : ∀ {b o : Nat} {v : Value}, b < w.heap.size + 3 → W4.cell? ⟨b, o, none⟩ = some v → w5.cell? ⟨b, o, none⟩ = some v := fun hb h => (HB5.out.cell (p := ⟨_, _, none⟩) hb).trans h
      have l0 : b0 < w.heap.size + 3 := by rw [E0.out]; omega
      have l1 : b1 < w.heap.size + 3 := by rw [E1.out]; omega
      exact ⟨⟨kp l0 z0, kp l0 z1, kp l0 z2, kp l0 z3, kp l0 z4, kp l0 z5, kp l0 z6⟩, kp l1 y0⟩
    have l0 : b0 < w.heap.size + 3 := by rw [E0.out]; omega
    have l2 : b2 < w.heap.size + 3 := by rw [E2.out]; omega
    have z0 := (HB5.out.cell (p := ⟨b0, 0, none⟩) l0).trans z0
    have z1 := (HB5.out.cell (p := ⟨b0, 1, none⟩) l0).trans z1
    have z2 := (HB5.out.cell (p := ⟨b0, 2, none⟩) l0).trans z2
    have z3 := (HB5.out.cell (p := ⟨b0, 3, none⟩) l0).trans z3
    have z4 := (HB5.out.cell (p := ⟨b0, 4, none⟩) l0).trans z4
    have z5 := (HB5.out.cell (p := ⟨b0, 5, none⟩) l0).trans z5
    have z6 := (HB5.out.cell (p := ⟨b0, 6, none⟩) l0).trans z6
    have x0 := (HB5.out.cell (p := ⟨b2, 0, none⟩) l2).trans x0
    have x1 := (HB5.out.cell (p := ⟨b2, 1, none⟩) l2).trans x1
    have x2 := (HB5.out.cell (p := ⟨b2, 2, none⟩) l2).trans x2
    have x3 := (HB5.out.cell (p := ⟨b2, 3, none⟩) l2).trans x3
    have x4 := (HB5.out.cell (p := ⟨b2, 4, none⟩) l2).trans x4
    clear ho5 hb5 HB5 HOWN HHAS HBS HB E4 E3 E2 E1 E0 l0 l2 hWs
    go_wp2_with fail
    refine (HU.out _ HBC.out).mono ?_
    rintro e u1 ⟨rfl, hb1⟩
    have HBU := hid (bl_step HBC.out hb1)
    have HWA := hid (HWAY.out.step hb1)
    have HJ := hid (HJC.out.step hb1)
    have HFS : Hid (Calls Tryz.prog 93 #[.slice a5 2 c5, .func (.func 99) #[] #[.pointer (some ⟨b0, 0, none⟩), .pointer (some ⟨b1, 0, none⟩)]] u1 fun e w'' => e = .returned (.int .i64 (firstC ([x.yes, x.no].map (stepC d.nodes.n k)))) ∧ Below u1.heap.size u1 w'') :=
      firstStep_any (.pointer (some ⟨b0, 0, none⟩)) (.pointer (some ⟨b1, 0, none⟩)) ⟨a5, 2, c5⟩ [x.yes, x.no] (stepC d.nodes.n k) u1 (by simp) HWA.out (fun w' h c _ => node1_any d k b0 b1 c w' (HJ.out.step h))
    clear hb1 HU HBC HWAY HJC
    rw [HFE.out] at HFS
    go_wp2_with fail
    refine HFS.out.mono ?_
    rintro e u2 ⟨rfl, hb2⟩
    have HB2 := hid (bl_step HBU.out hb2)
    clear hb2 HFS HBU HWA HJ
    go_wp2_with fail
    refine (HOR.out _).mono ?_
    rintro e u3 ⟨rfl, rfl⟩
    have HE := hid (bl_alloc (o := .cells #[.int .i64 U, .int .i64 FSq] 3) HB2.out)
    clear HOR HB2
    go_wp2
    go_ret
    exact ⟨by rw [HRES.out]; rfl, HE.out⟩
  have e3 : (x.kind == 3) = false := by simpa using q3
  by_cases q4 : x.kind = 4
  · have e4 : (x.kind == 4) = true := by simpa using q4
    have hk34 : x.kind = 3 ∨ x.kind = 4 := .inr q4
    clear q3 q4
    have HFE : Hid (firstC ([x.yes, x.no].map (stepC d.nodes.n k)) = FSq) := by rw [if_pos hk34] at hFSq; exact hFSq
    clear hFSq hk34
    have HOWN : Hid ((W4.alloc (.cells #[.int .i64 x.no] 3)).ownsRow (w.heap.size + 3) 3 1 (.slice (some ⟨b3, 0, none⟩) 1 1) 1 (II [x.yes])) := by
      refine owns_below ?_ (bl_alloc (Below.refl _ _))
      rw [E4.out, E3.out]
      simpa [II] using World.ownsRow_lit (e := 3) (size := 1) (base := w.heap.size + 3) (((w.alloc (.cells #[.slice d.heads.a d.heads.n d.heads.c, .slice d.mta.a d.mta.n d.mta.c, .slice d.states.a d.states.n d.states.c, .slice d.acts.a d.acts.n d.acts.c, .slice d.tabs.a d.tabs.n d.tabs.c, .slice (some ⟨g, off, none⟩) d.nodes.n d.nodes.c, .slice d.out.a d.out.n d.out.c] 102)).alloc (.cells #[.int .i64 (k : Int)] 3)).alloc (.cells #[.int .i64 x.kind, .int .i64 x.n, .slice x.e.a x.e.n x.e.c, .int .i64 x.yes, .int .i64 x.no] 65)) #[.int .i64 x.yes] 1 (by simp) (by unfold maxLen; omega) (by simp)
    have HHAS : Hid (Has .i64 (W4.alloc (.cells #[.int .i64 x.no] 3)) (some ⟨b3 + 1, 0, none⟩) 1 [x.no]) := by
      show Has .i64 (W4.alloc (.cells #[.int .i64 x.no] 3)) (some ⟨b3 + 1, 0, none⟩) 1 [x.no]
      rw [← hWs]
      exact has_oneI W4 x.no HNW.out
    have hbs : w.heap.size + 3 ≤ (W4.alloc (.cells #[.int .i64 x.no] 3)).heap.size := by rw [World.size_alloc, hWs, E3.out]; omega
    have HBS := hid hbs
    clear hbs
    go_enter Tryz.func51, Tryz.ntmps51
    go_wp2_with (at_builtin; rw [← E4.out, ← E3.out, ← E2.out, ← E1.out, ← E0.out]; refine moreI rfl _ _ rfl (w.heap.size + 3) (.slice (some ⟨b3, 0, none⟩) 1 1) 1 [x.yes] ?a1 HOWN.out HBS.out ⟨b3 + 1, 0, none⟩ 1 1 [x.no] ?a2 HHAS.out (by omega) ?_)
    case a1 => rfl
    case a2 => rfl
    intro v5 w5 ho5 hb5
    obtain ⟨a5, c5, rfl, _, _⟩ := own_is ho5
    have HWAY : Hid (Has .i64 w5 a5 2 [x.yes, x.no]) := has_ownI ho5 (by
      intro n hn
      simp only [List.mem_cons, List.not_mem_nil, or_false] at hn
      rcases hn with rfl | rfl
      · exact HYW.out
      · exact HNW.out)
    have HB5 : Hid (Below (w.heap.size + 3) W4 w5) := ((Below.refl _ _).alloc (by rw [hWs, E3.out]; omega) _).trans hb5
    have HBC := hid (HB.out.trans (HB5.out.mono (by omega)))
    have HJC : Hid (JIn d k b0 b1 w5) := by
      rw [← ea] at z5
      have kp : ∀ {b o : Nat} {v : Value}, b < w.heap.size + 3 → W4.cell? ⟨b, o, none⟩ = some v → w5.cell? ⟨b, o, none⟩ = some v := fun hb h => (HB5.out.cell (p := ⟨_, _, none⟩) hb).trans h
      have l0 : b0 < w.heap.size + 3 := by rw [E0.out]; omega
      have l1 : b1 < w.heap.size + 3 := by rw [E1.out]; omega
      exact ⟨⟨kp l0 z0, kp l0 z1, kp l0 z2, kp l0 z3, kp l0 z4, kp l0 z5, kp l0 z6⟩, kp l1 y0⟩
    have l0 : b0 < w.heap.size + 3 := by rw [E0.out]; omega
    have l2 : b2 < w.heap.size + 3 := by rw [E2.out]; omega
    have z0 := (HB5.out.cell (p := ⟨b0, 0, none⟩) l0).trans z0
    have z1 := (HB5.out.cell (p := ⟨b0, 1, none⟩) l0).trans z1
    have z2 := (HB5.out.cell (p := ⟨b0, 2, none⟩) l0).trans z2
    have z3 := (HB5.out.cell (p := ⟨b0, 3, none⟩) l0).trans z3
    have z4 := (HB5.out.cell (p := ⟨b0, 4, none⟩) l0).trans z4
    have z5 := (HB5.out.cell (p := ⟨b0, 5, none⟩) l0).trans z5
    have z6 := (HB5.out.cell (p := ⟨b0, 6, none⟩) l0).trans z6
    have x0 := (HB5.out.cell (p := ⟨b2, 0, none⟩) l2).trans x0
    have x1 := (HB5.out.cell (p := ⟨b2, 1, none⟩) l2).trans x1
    have x2 := (HB5.out.cell (p := ⟨b2, 2, none⟩) l2).trans x2
    have x3 := (HB5.out.cell (p := ⟨b2, 3, none⟩) l2).trans x3
    have x4 := (HB5.out.cell (p := ⟨b2, 4, none⟩) l2).trans x4
    clear ho5 hb5 HB5 HOWN HHAS HBS HB E4 E3 E2 E1 E0 l0 l2 hWs
    go_wp2_with fail
    refine (HU.out _ HBC.out).mono ?_
    rintro e u1 ⟨rfl, hb1⟩
    have HBU := hid (bl_step HBC.out hb1)
    have HWA := hid (HWAY.out.step hb1)
    have HJ := hid (HJC.out.step hb1)
    have HFS : Hid (Calls Tryz.prog 93 #[.slice a5 2 c5, .func (.func 99) #[] #[.pointer (some ⟨b0, 0, none⟩), .pointer (some ⟨b1, 0, none⟩)]] u1 fun e w'' => e = .returned (.int .i64 (firstC ([x.yes, x.no].map (stepC d.nodes.n k)))) ∧ Below u1.heap.size u1 w'') :=
      firstStep_any (.pointer (some ⟨b0, 0, none⟩)) (.pointer (some ⟨b1, 0, none⟩)) ⟨a5, 2, c5⟩ [x.yes, x.no] (stepC d.nodes.n k) u1 (by simp) HWA.out (fun w' h c _ => node1_any d k b0 b1 c w' (HJ.out.step h))
    clear hb1 HU HBC HWAY HJC
    rw [HFE.out] at HFS
    go_wp2_with fail
    refine HFS.out.mono ?_
    rintro e u2 ⟨rfl, hb2⟩
    have HB2 := hid (bl_step HBU.out hb2)
    clear hb2 HFS HBU HWA HJ
    go_wp2_with fail
    refine (HOR.out _).mono ?_
    rintro e u3 ⟨rfl, rfl⟩
    have HE := hid (bl_alloc (o := .cells #[.int .i64 U, .int .i64 FSq] 3) HB2.out)
    clear HOR HB2
    go_wp2
    go_ret
    exact ⟨by rw [HRES.out]; rfl, HE.out⟩
  · have e4 : (x.kind == 4) = false := by simpa using q4
    have hk34 : ¬ (x.kind = 3 ∨ x.kind = 4) := fun h => h.elim q3 q4
    clear q3 q4
    skip
    have HFE : Hid (firstC ([x.yes].map (stepC d.nodes.n k)) = FSq) := by rw [if_neg hk34] at hFSq; exact hFSq
    clear hFSq hk34
    have HBC := hid HB.out
    have HWAY : Hid (Has .i64 W4 (some ⟨b3, 0, none⟩) 1 [x.yes]) := by show Has .i64 W4 (some ⟨b3, 0, none⟩) 1 [x.yes]; rw [E4.out, E3.out]; simpa using has_oneI (((w.alloc (.cells #[.slice d.heads.a d.heads.n d.heads.c, .slice d.mta.a d.mta.n d.mta.c, .slice d.states.a d.states.n d.states.c, .slice d.acts.a d.acts.n d.acts.c, .slice d.tabs.a d.tabs.n d.tabs.c, .slice (some ⟨g, off, none⟩) d.nodes.n d.nodes.c, .slice d.out.a d.out.n d.out.c] 102)).alloc (.cells #[.int .i64 (k : Int)] 3)).alloc (.cells #[.int .i64 x.kind, .int .i64 x.n, .slice x.e.a x.e.n x.e.c, .int .i64 x.yes, .int .i64 x.no] 65)) x.yes HYW.out
    have HJC : Hid (JIn d k b0 b1 W4) := by rw [← ea] at z5; exact ⟨⟨z0, z1, z2, z3, z4, z5, z6⟩, y0⟩
    go_enter Tryz.func51, Tryz.ntmps51
    go_wp2_with fail
    rw [← E4.out, ← E3.out, ← E2.out, ← E1.out, ← E0.out]
    clear E4 E3 E2 E1 E0 HB
    refine (HU.out _ HBC.out).mono ?_
    rintro e u1 ⟨rfl, hb1⟩
    have HBU := hid (bl_step HBC.out hb1)
    have HWA := hid (HWAY.out.step hb1)
    have HJ := hid (HJC.out.step hb1)
    have HFS : Hid (Calls Tryz.prog 93 #[.slice (some ⟨b3, 0, none⟩) 1 1, .func (.func 99) #[] #[.pointer (some ⟨b0, 0, none⟩), .pointer (some ⟨b1, 0, none⟩)]] u1 fun e w'' => e = .returned (.int .i64 (firstC ([x.yes].map (stepC d.nodes.n k)))) ∧ Below u1.heap.size u1 w'') :=
      firstStep_any (.pointer (some ⟨b0, 0, none⟩)) (.pointer (some ⟨b1, 0, none⟩)) ⟨(some ⟨b3, 0, none⟩), 1, 1⟩ [x.yes] (stepC d.nodes.n k) u1 (by simp) HWA.out (fun w' h c _ => node1_any d k b0 b1 c w' (HJ.out.step h))
    clear hb1 HU HBC HWAY HJC
    rw [HFE.out] at HFS
    go_wp2_with fail
    refine HFS.out.mono ?_
    rintro e u2 ⟨rfl, hb2⟩
    have HB2 := hid (bl_step HBU.out hb2)
    clear hb2 HFS HBU HWA HJ
    go_wp2_with fail
    refine (HOR.out _).mono ?_
    rintro e u3 ⟨rfl, rfl⟩
    have HE := hid (bl_alloc (o := .cells #[.int .i64 U, .int .i64 FSq] 3) HB2.out)
    clear HOR HB2
    go_wp2
    go_ret
    exact ⟨by rw [HRES.out]; rfl, HE.out⟩
end Go.Proofs.YtedeiaokohdhpaaGreat
