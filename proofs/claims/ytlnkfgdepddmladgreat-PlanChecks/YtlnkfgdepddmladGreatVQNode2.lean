/- What a node's judge says. -/
import Derived.Test.YtlnkfgdepddmladGreatVQNode
import Derived.Test.YtlnkfgdepddmladGreatJ5
import Derived.Laws.EntriesVeiled
namespace Go.Proofs.YtlnkfgdepddmladGreat
open Go.RowKit

/-- ints put behind ints of a row of the call's own -/
theorem moreI {w : World} {ops : Array Oper} {rest : List Oper} {o : Oper} {a : Act} {Q : Exit → Act → World → Prop} (hgd : o.guard = none) (s x : Operand)
    (ho : o.op = .call { callee := .builtin .append, args := #[s, x], argTypes := #[23, 23] }) (base : Nat) (vs : Value) (n : Nat) (ys : List Int) (hs : a.eval s = vs) (hown : w.ownsRow base 3 1 vs n (II ys)) (hbase : base ≤ w.heap.size)
    (ad : Addr) (m c : Nat) (zs : List Int) (hx : a.eval x = .slice (some ad) m c) (hz : Has .i64 w (some ad) m zs) (hsmall : n + m ≤ 10000000)
    (h : ∀ v' w', w'.ownsRow base 3 1 v' (n + m) (II (ys ++ zs)) → Below base w w' → wpList Tryz.prog ops Q rest (a.put o.dst v') w') : wpList Tryz.prog ops Q (o :: rest) a w := by
  obtain ⟨i0, hi, hz0, hz1, hz2⟩ := info_parts Tryz.infoInt
  refine wpList_append_own w hgd s x 23 ho base 3 i0 (.int .i64 0) 1 8 Tryz.underlying23 hi hz0 hz1 hz2 rfl (by decide) vs n (II ys) hs hown ad m c (II zs) hx (by have := hz.1; simp [II]; omega) (has_cellsI hz) (ii_one zs) (by unfold maxLen; omega) (by omega) hbase ?_
  intro v' w' h1 h2 _
  refine h v' w' (by simpa [II] using h1) ((Below.refl _ _).grown h2 hbase ?_)
  intro k hk
  exact (hown.lt k hk).1

set_option maxHeartbeats 16000000 in
set_option maxRecDepth 20000 in
theorem node_any (d : PlanD) (w : World) (hl : d.lie w) (k : Nat) (hk : k < d.nodes.n) (x : NodeD) (hx : d.ns[k]? = some x) :
    Calls Tryz.prog 51 #[d.v, .int .i64 k] w fun e w' => e = .returned (.int .i64 (nodeC d.p k x.p)) ∧ Below w.heap.size w w' := by
  have bw1 : ∀ o o', Below w.heap.size w ((w.alloc o).alloc o') := fun o o' => bl_alloc (bl_alloc (Below.refl _ _))
  obtain ⟨g, off, x', ea, hx', ⟨c0, _⟩, ⟨c1, _⟩, ⟨c2, _⟩, ⟨c3, w3⟩, ⟨c4, w4⟩, hrow⟩ := row_at hl.ns hk
  obtain rfl : x = x' := by rw [hx] at hx'; exact Option.some.inj hx'
  have ens : d.p.ns.length = d.nodes.n := by simp [PlanD.p, hl.ns.1]
  have HU : Hid (∀ w', Below w.heap.size w w' → Calls Tryz.prog 116 #[d.v, x.v] w' fun e w'' => e = .returned (.int .i64 (useC d.p x.p)) ∧ Below w'.heap.size w' w'') := fun w' h => use_any d x w' (hl.step h) (hrow.step PushD.keeps h)
  have HRES : Hid (nodeC d.p k x.p = or2 (useC d.p x.p) (firstC ((if x.kind = 3 ∨ x.kind = 4 then [x.yes, x.no] else [x.yes]).map (stepC d.nodes.n k)))) := by
    show nodeC d.p k x.p = _
    unfold nodeC
    rw [ens]
    rfl
  generalize useC d.p x.p = U at *
  generalize hFSq : firstC ((if x.kind = 3 ∨ x.kind = 4 then [x.yes, x.no] else [x.yes]).map (stepC d.nodes.n k)) = FSq at *
  have HOR : Hid (∀ (w' : World), Calls Tryz.prog 98 #[.slice (some ⟨w'.heap.size, 0, none⟩) 2 2] (w'.alloc (.cells #[.int .i64 U, .int .i64 FSq] 3)) fun e w'' => e = .returned (.int .i64 (or2 U FSq)) ∧ w'' = w'.alloc (.cells #[.int .i64 U, .int .i64 FSq] 3)) := fun w' => qor2_any (b := w'.heap.size) (x := U) (y := FSq) (or2 U FSq) rfl (by simp) (by simp)
  have hki : (k : Int) < (d.nodes.n : Int) := by omega
  have k0 : ∀ o o', ((w.alloc o).alloc o').cell? ⟨g, off + k * 5, none⟩ = some (.int .i64 x.kind) := fun o o' => cell_keep c0 (bw1 o o')
  have k1 : ∀ o o', ((w.alloc o).alloc o').cell? ⟨g, off + k * 5 + 1, none⟩ = some (.int .i64 x.n) := fun o o' => cell_keep c1 (bw1 o o')
  have k2 : ∀ o o', ((w.alloc o).alloc o').cell? ⟨g, off + k * 5 + 2, none⟩ = some (.slice x.e.a x.e.n x.e.c) := fun o o' => cell_keep c2 (bw1 o o')
  have k3 : ∀ o o', ((w.alloc o).alloc o').cell? ⟨g, off + k * 5 + 3, none⟩ = some (.int .i64 x.yes) := fun o o' => cell_keep c3 (bw1 o o')
  have k4 : ∀ o o', ((w.alloc o).alloc o').cell? ⟨g, off + k * 5 + 4, none⟩ = some (.int .i64 x.no) := fun o o' => cell_keep c4 (bw1 o o')
  obtain ⟨W4, hW⟩ : ∃ W4, W4 = ((((w.alloc (.cells #[.slice d.heads.a d.heads.n d.heads.c, .slice d.mta.a d.mta.n d.mta.c, .slice d.states.a d.states.n d.states.c, .slice d.acts.a d.acts.n d.acts.c, .slice d.tabs.a d.tabs.n d.tabs.c, .slice (some ⟨g, off, none⟩) d.nodes.n d.nodes.c, .slice d.out.a d.out.n d.out.c] 109)).alloc (.cells #[.int .i64 (k : Int)] 3)).alloc (.cells #[.int .i64 x.kind, .int .i64 x.n, .slice x.e.a x.e.n x.e.c, .int .i64 x.yes, .int .i64 x.no] 105)).alloc (.cells #[.int .i64 x.yes] 3)) := ⟨_, rfl⟩
  obtain ⟨b0, h0⟩ : ∃ b0, b0 = w.heap.size := ⟨_, rfl⟩
  obtain ⟨b1, h1⟩ : ∃ b1, b1 = w.heap.size + 1 := ⟨_, rfl⟩
  obtain ⟨b2, h2⟩ : ∃ b2, b2 = w.heap.size + 1 + 1 := ⟨_, rfl⟩
  obtain ⟨b3, h3⟩ : ∃ b3, b3 = w.heap.size + 1 + 1 + 1 := ⟨_, rfl⟩
  have z0 : W4.cell? ⟨b0, 0, none⟩ = some (.slice d.heads.a d.heads.n d.heads.c) := by rw [hW, h0]; exact (World.cell?_alloc_past _ _ _ (by simp; omega)).trans ((World.cell?_alloc_past _ _ _ (by simp; omega)).trans ((World.cell?_alloc_past _ _ _ (by simp)).trans ((World.cell?_alloc_at _ _ _ _ rfl).trans rfl)))
  have z1 : W4.cell? ⟨b0, 1, none⟩ = some (.slice d.mta.a d.mta.n d.mta.c) := by rw [hW, h0]; exact (World.cell?_alloc_past _ _ _ (by simp; omega)).trans ((World.cell?_alloc_past _ _ _ (by simp; omega)).trans ((World.cell?_alloc_past _ _ _ (by simp)).trans ((World.cell?_alloc_at _ _ _ _ rfl).trans rfl)))
  have z2 : W4.cell? ⟨b0, 2, none⟩ = some (.slice d.states.a d.states.n d.states.c) := by rw [hW, h0]; exact (World.cell?_alloc_past _ _ _ (by simp; omega)).trans ((World.cell?_alloc_past _ _ _ (by simp; omega)).trans ((World.cell?_alloc_past _ _ _ (by simp)).trans ((World.cell?_alloc_at _ _ _ _ rfl).trans rfl)))
  have z3 : W4.cell? ⟨b0, 3, none⟩ = some (.slice d.acts.a d.acts.n d.acts.c) := by rw [hW, h0]; exact (World.cell?_alloc_past _ _ _ (by simp; omega)).trans ((World.cell?_alloc_past _ _ _ (by simp; omega)).trans ((World.cell?_alloc_past _ _ _ (by simp)).trans ((World.cell?_alloc_at _ _ _ _ rfl).trans rfl)))
  have z4 : W4.cell? ⟨b0, 4, none⟩ = some (.slice d.tabs.a d.tabs.n d.tabs.c) := by rw [hW, h0]; exact (World.cell?_alloc_past _ _ _ (by simp; omega)).trans ((World.cell?_alloc_past _ _ _ (by simp; omega)).trans ((World.cell?_alloc_past _ _ _ (by simp)).trans ((World.cell?_alloc_at _ _ _ _ rfl).trans rfl)))
  have z5 : W4.cell? ⟨b0, 5, none⟩ = some (.slice (some ⟨g, off, none⟩) d.nodes.n d.nodes.c) := by rw [hW, h0]; exact (World.cell?_alloc_past _ _ _ (by simp; omega)).trans ((World.cell?_alloc_past _ _ _ (by simp; omega)).trans ((World.cell?_alloc_past _ _ _ (by simp)).trans ((World.cell?_alloc_at _ _ _ _ rfl).trans rfl)))
  have z6 : W4.cell? ⟨b0, 6, none⟩ = some (.slice d.out.a d.out.n d.out.c) := by rw [hW, h0]; exact (World.cell?_alloc_past _ _ _ (by simp; omega)).trans ((World.cell?_alloc_past _ _ _ (by simp; omega)).trans ((World.cell?_alloc_past _ _ _ (by simp)).trans ((World.cell?_alloc_at _ _ _ _ rfl).trans rfl)))
  have y0 : W4.cell? ⟨b1, 0, none⟩ = some (.int .i64 (k : Int)) := by rw [hW, h1]; exact (World.cell?_alloc_past _ _ _ (by simp)).trans ((World.cell?_alloc_past _ _ _ (by simp)).trans ((World.cell?_alloc_at _ _ _ _ (by simp)).trans rfl))
  have x0 : W4.cell? ⟨b2, 0, none⟩ = some (.int .i64 x.kind) := by rw [hW, h2]; exact (World.cell?_alloc_past _ _ _ (by simp)).trans ((World.cell?_alloc_at _ _ _ _ (by simp)).trans rfl)
  have x1 : W4.cell? ⟨b2, 1, none⟩ = some (.int .i64 x.n) := by rw [hW, h2]; exact (World.cell?_alloc_past _ _ _ (by simp)).trans ((World.cell?_alloc_at _ _ _ _ (by simp)).trans rfl)
  have x2 : W4.cell? ⟨b2, 2, none⟩ = some (.slice x.e.a x.e.n x.e.c) := by rw [hW, h2]; exact (World.cell?_alloc_past _ _ _ (by simp)).trans ((World.cell?_alloc_at _ _ _ _ (by simp)).trans rfl)
  have x3 : W4.cell? ⟨b2, 3, none⟩ = some (.int .i64 x.yes) := by rw [hW, h2]; exact (World.cell?_alloc_past _ _ _ (by simp)).trans ((World.cell?_alloc_at _ _ _ _ (by simp)).trans rfl)
  have x4 : W4.cell? ⟨b2, 4, none⟩ = some (.int .i64 x.no) := by rw [hW, h2]; exact (World.cell?_alloc_past _ _ _ (by simp)).trans ((World.cell?_alloc_at _ _ _ _ (by simp)).trans rfl)
  have HB : Hid (Below w.heap.size w W4) := by rw [hW]; exact bl_alloc (bl_alloc (bl_alloc (bl_alloc (Below.refl _ _))))
  have hWs : W4.heap.size = b3 + 1 := by rw [hW, h3]; simp
  have HYW := hid w3
  have HNW := hid w4
  have E4 := hid hW
  have E0 := hid h0
  have E1 := hid h1
  have E2 := hid h2
  have E3 := hid h3
  unfold PlanD.v at HU
  rw [ea] at HU
  clear hW h0 h1 h2 h3 hl hx hx' c0 c1 c2 c3 c4 hrow ens bw1
  have hmf : ∀ (fn : Fn) (first cap : Array Value) (w : World), (Instr.makeFunc fn first cap).run Tryz.prog w = .ok (.func fn first cap) w := fun _ _ _ _ => rfl
  by_cases q3 : x.kind = 3
  · have e3 : (x.kind == 3) = true := by simpa using q3
    have hk34 : x.kind = 3 ∨ x.kind = 4 := .inl q3
    clear q3
    have HFE : Hid (firstC ([x.yes, x.no].map (stepC d.nodes.n k)) = FSq) := by rw [if_pos hk34] at hFSq; exact hFSq
    clear hFSq hk34
    have HOWN : Hid ((W4.alloc (.cells #[.int .i64 x.no] 3)).ownsRow (w.heap.size + 3) 3 1 (.slice (some ⟨b3, 0, none⟩) 1 1) 1 (II [x.yes])) := by
      refine owns_below ?_ (bl_alloc (Below.refl _ _))
      rw [E4.out, E3.out]
      simpa [II] using World.ownsRow_lit (e := 3) (size := 1) (base := w.heap.size + 3) (((w.alloc (.cells #[.slice d.heads.a d.heads.n d.heads.c, .slice d.mta.a d.mta.n d.mta.c, .slice d.states.a d.states.n d.states.c, .slice d.acts.a d.acts.n d.acts.c, .slice d.tabs.a d.tabs.n d.tabs.c, .slice (some ⟨g, off, none⟩) d.nodes.n d.nodes.c, .slice d.out.a d.out.n d.out.c] 109)).alloc (.cells #[.int .i64 (k : Int)] 3)).alloc (.cells #[.int .i64 x.kind, .int .i64 x.n, .slice x.e.a x.e.n x.e.c, .int .i64 x.yes, .int .i64 x.no] 105)) #[.int .i64 x.yes] 1 (by simp) (by unfold maxLen; omega) (by simp)
    have HHAS : Hid (Has .i64 (W4.alloc (.cells #[.int .i64 x.no] 3)) (some ⟨b3 + 1, 0, none⟩) 1 [x.no]) := by
      show Has .i64 (W4.alloc (.cells #[.int .i64 x.no] 3)) (some ⟨b3 + 1, 0, none⟩) 1 [x.no]
      rw [← hWs]
      exact has_oneI W4 x.no HNW.out
    have hbs : w.heap.size + 3 ≤ (W4.alloc (.cells #[.int .i64 x.no] 3)).heap.size := by rw [World.size_alloc, hWs, E3.out]; omega
    have HBS := hid hbs
    clear hbs
    go_enter Tryz.func51, Tryz.ntmps51
    go_wp2_with (at_builtin; rw [← E4.out, ← E3.out, ← E2.out, ← E1.out, ← E0.out]; refine moreI rfl _ _ rfl (w.heap.size + 3) (.slice (some ⟨b3, 0, none⟩) 1 1) 1 [x.yes] ?a1 HOWN.out HBS.out ⟨b3 + 1, 0, none⟩ 1 1 [x.no] ?a2 HHAS.out (by omega) ?_)
    case a1 => rfl
    case a2 => rfl
    intro v5 w5 ho5 hb5
    obtain ⟨a5, c5, rfl, _, _⟩ := own_is ho5
    have HWAY : Hid (Has .i64 w5 a5 2 [x.yes, x.no]) := has_ownI ho5 (by
      intro n hn
      simp only [List.mem_cons, List.not_mem_nil, or_false] at hn
      rcases hn with rfl | rfl
      · exact HYW.out
      · exact HNW.out)
    have HB5 : Hid (Below (w.heap.size + 3) W4 w5) := ((Below.refl _ _).alloc (by rw [hWs, E3.out]; omega) _).trans hb5
    have HBC := hid (HB.out.trans (HB5.out.mono (by omega)))
    have HJC : Hid (JIn d k b0 b1 w5) := by
      rw [← ea] at z5
      have kp : ∀ {b o : Nat} {v : Value}, b < w.heap.size + 3 → W4.cell? ⟨b, o, none⟩ = some v → w5.cell? ⟨b, o, none⟩ = some v := fun hb h => (HB5.out.cell (p := ⟨_, _, none⟩) hb).trans h
      have l0 : b0 < w.heap.size + 3 := by rw [E0.out]; omega
      have l1 : b1 < w.heap.size + 3 := by rw [E1.out]; omega
      exact ⟨⟨kp l0 z0, kp l0 z1, kp l0 z2, kp l0 z3, kp l0 z4, kp l0 z5, kp l0 z6⟩, kp l1 y0⟩
    have l0 : b0 < w.heap.size + 3 := by rw [E0.out]; omega
    have l2 : b2 < w.heap.size + 3 := by rw [E2.out]; omega
    have z0 := (HB5.out.cell (p := ⟨b0, 0, none⟩) l0).trans z0
    have z1 := (HB5.out.cell (p := ⟨b0, 1, none⟩) l0).trans z1
    have z2 := (HB5.out.cell (p := ⟨b0, 2, none⟩) l0).trans z2
    have z3 := (HB5.out.cell (p := ⟨b0, 3, none⟩) l0).trans z3
    have z4 := (HB5.out.cell (p := ⟨b0, 4, none⟩) l0).trans z4
    have z5 := (HB5.out.cell (p := ⟨b0, 5, none⟩) l0).trans z5
    have z6 := (HB5.out.cell (p := ⟨b0, 6, none⟩) l0).trans z6
    have x0 := (HB5.out.cell (p := ⟨b2, 0, none⟩) l2).trans x0
    have x1 := (HB5.out.cell (p := ⟨b2, 1, none⟩) l2).trans x1
    have x2 := (HB5.out.cell (p := ⟨b2, 2, none⟩) l2).trans x2
    have x3 := (HB5.out.cell (p := ⟨b2, 3, none⟩) l2).trans x3
    have x4 := (HB5.out.cell (p := ⟨b2, 4, none⟩) l2).trans x4
    clear ho5 hb5 HB5 HOWN HHAS HBS HB E4 E3 E2 E1 E0 l0 l2 hWs
    go_wp2_with fail
    refine (HU.out _ HBC.out).mono ?_
    rintro e u1 ⟨rfl, hb1⟩
    have HBU := hid (bl_step HBC.out hb1)
    have HWA := hid (HWAY.out.step hb1)
    have HJ := hid (HJC.out.step hb1)
    have HFS : Hid (Calls Tryz.prog 109 #[.slice a5 2 c5, .func (.func 114) #[] #[.pointer (some ⟨b0, 0, none⟩), .pointer (some ⟨b1, 0, none⟩)]] u1 fun e w'' => e = .returned (.int .i64 (firstC ([x.yes, x.no].map (stepC d.nodes.n k)))) ∧ Below u1.heap.size u1 w'') :=
      firstStep_any (.pointer (some ⟨b0, 0, none⟩)) (.pointer (some ⟨b1, 0, none⟩)) ⟨a5, 2, c5⟩ [x.yes, x.no] (stepC d.nodes.n k) u1 (by simp) HWA.out (fun w' h c _ => node1_any d k b0 b1 c w' (HJ.out.step h))
    clear hb1 HU HBC HWAY HJC
    rw [HFE.out] at HFS
    go_wp2_with fail
    refine HFS.out.mono ?_
    rintro e u2 ⟨rfl, hb2⟩
    have HB2 := hid (bl_step HBU.out hb2)
    clear hb2 HFS HBU HWA HJ
    go_wp2_with fail
    refine (HOR.out _).mono ?_
    rintro e u3 ⟨rfl, rfl⟩
    have HE := hid (bl_alloc (o := .cells #[.int .i64 U, .int .i64 FSq] 3) HB2.out)
    clear HOR HB2
    go_wp2
    go_ret
    exact ⟨by rw [HRES.out]; rfl, HE.out⟩
  have e3 : (x.kind == 3) = false := by simpa using q3
  by_cases q4 : x.kind = 4
  · have e4 : (x.kind == 4) = true := by simpa using q4
    have hk34 : x.kind = 3 ∨ x.kind = 4 := .inr q4
    clear q3 q4
    have HFE : Hid (firstC ([x.yes, x.no].map (stepC d.nodes.n k)) = FSq) := by rw [if_pos hk34] at hFSq; exact hFSq
    clear hFSq hk34
    have HOWN : Hid ((W4.alloc (.cells #[.int .i64 x.no] 3)).ownsRow (w.heap.size + 3) 3 1 (.slice (some ⟨b3, 0, none⟩) 1 1) 1 (II [x.yes])) := by
      refine owns_below ?_ (bl_alloc (Below.refl _ _))
      rw [E4.out, E3.out]
      simpa [II] using World.ownsRow_lit (e := 3) (size := 1) (base := w.heap.size + 3) (((w.alloc (.cells #[.slice d.heads.a d.heads.n d.heads.c, .slice d.mta.a d.mta.n d.mta.c, .slice d.states.a d.states.n d.states.c, .slice d.acts.a d.acts.n d.acts.c, .slice d.tabs.a d.tabs.n d.tabs.c, .slice (some ⟨g, off, none⟩) d.nodes.n d.nodes.c, .slice d.out.a d.out.n d.out.c] 109)).alloc (.cells #[.int .i64 (k : Int)] 3)).alloc (.cells #[.int .i64 x.kind, .int .i64 x.n, .slice x.e.a x.e.n x.e.c, .int .i64 x.yes, .int .i64 x.no] 105)) #[.int .i64 x.yes] 1 (by simp) (by unfold maxLen; omega) (by simp)
    have HHAS : Hid (Has .i64 (W4.alloc (.cells #[.int .i64 x.no] 3)) (some ⟨b3 + 1, 0, none⟩) 1 [x.no]) := by
      show Has .i64 (W4.alloc (.cells #[.int .i64 x.no] 3)) (some ⟨b3 + 1, 0, none⟩) 1 [x.no]
      rw [← hWs]
      exact has_oneI W4 x.no HNW.out
    have hbs : w.heap.size + 3 ≤ (W4.alloc (.cells #[.int .i64 x.no] 3)).heap.size := by rw [World.size_alloc, hWs, E3.out]; omega
    have HBS := hid hbs
    clear hbs
    go_enter Tryz.func51, Tryz.ntmps51
    go_wp2_with (at_builtin; rw [← E4.out, ← E3.out, ← E2.out, ← E1.out, ← E0.out]; refine moreI rfl _ _ rfl (w.heap.size + 3) (.slice (some ⟨b3, 0, none⟩) 1 1) 1 [x.yes] ?a1 HOWN.out HBS.out ⟨b3 + 1, 0, none⟩ 1 1 [x.no] ?a2 HHAS.out (by omega) ?_)
    case a1 => rfl
    case a2 => rfl
    intro v5 w5 ho5 hb5
    obtain ⟨a5, c5, rfl, _, _⟩ := own_is ho5
    have HWAY : Hid (Has .i64 w5 a5 2 [x.yes, x.no]) := has_ownI ho5 (by
      intro n hn
      simp only [List.mem_cons, List.not_mem_nil, or_false] at hn
      rcases hn with rfl | rfl
      · exact HYW.out
      · exact HNW.out)
    have HB5 : Hid (Below (w.heap.size + 3) W4 w5) := ((Below.refl _ _).alloc (by rw [hWs, E3.out]; omega) _).trans hb5
    have HBC := hid (HB.out.trans (HB5.out.mono (by omega)))
    have HJC : Hid (JIn d k b0 b1 w5) := by
      rw [← ea] at z5
      have kp : ∀ {b o : Nat} {v : Value}, b < w.heap.size + 3 → W4.cell? ⟨b, o, none⟩ = some v → w5.cell? ⟨b, o, none⟩ = some v := fun hb h => (HB5.out.cell (p := ⟨_, _, none⟩) hb).trans h
      have l0 : b0 < w.heap.size + 3 := by rw [E0.out]; omega
      have l1 : b1 < w.heap.size + 3 := by rw [E1.out]; omega
      exact ⟨⟨kp l0 z0, kp l0 z1, kp l0 z2, kp l0 z3, kp l0 z4, kp l0 z5, kp l0 z6⟩, kp l1 y0⟩
    have l0 : b0 < w.heap.size + 3 := by rw [E0.out]; omega
    have l2 : b2 < w.heap.size + 3 := by rw [E2.out]; omega
    have z0 := (HB5.out.cell (p := ⟨b0, 0, none⟩) l0).trans z0
    have z1 := (HB5.out.cell (p := ⟨b0, 1, none⟩) l0).trans z1
    have z2 := (HB5.out.cell (p := ⟨b0, 2, none⟩) l0).trans z2
    have z3 := (HB5.out.cell (p := ⟨b0, 3, none⟩) l0).trans z3
    have z4 := (HB5.out.cell (p := ⟨b0, 4, none⟩) l0).trans z4
    have z5 := (HB5.out.cell (p := ⟨b0, 5, none⟩) l0).trans z5
    have z6 := (HB5.out.cell (p := ⟨b0, 6, none⟩) l0).trans z6
    have x0 := (HB5.out.cell (p := ⟨b2, 0, none⟩) l2).trans x0
    have x1 := (HB5.out.cell (p := ⟨b2, 1, none⟩) l2).trans x1
    have x2 := (HB5.out.cell (p := ⟨b2, 2, none⟩) l2).trans x2
    have x3 := (HB5.out.cell (p := ⟨b2, 3, none⟩) l2).trans x3
    have x4 := (HB5.out.cell (p := ⟨b2, 4, none⟩) l2).trans x4
    clear ho5 hb5 HB5 HOWN HHAS HBS HB E4 E3 E2 E1 E0 l0 l2 hWs
    go_wp2_with fail
    refine (HU.out _ HBC.out).mono ?_
    rintro e u1 ⟨rfl, hb1⟩
    have HBU := hid (bl_step HBC.out hb1)
    have HWA := hid (HWAY.out.step hb1)
    have HJ := hid (HJC.out.step hb1)
    have HFS : Hid (Calls Tryz.prog 109 #[.slice a5 2 c5, .func (.func 114) #[] #[.pointer (some ⟨b0, 0, none⟩), .pointer (some ⟨b1, 0, none⟩)]] u1 fun e w'' => e = .returned (.int .i64 (firstC ([x.yes, x.no].map (stepC d.nodes.n k)))) ∧ Below u1.heap.size u1 w'') :=
      firstStep_any (.pointer (some ⟨b0, 0, none⟩)) (.pointer (some ⟨b1, 0, none⟩)) ⟨a5, 2, c5⟩ [x.yes, x.no] (stepC d.nodes.n k) u1 (by simp) HWA.out (fun w' h c _ => node1_any d k b0 b1 c w' (HJ.out.step h))
    clear hb1 HU HBC HWAY HJC
    rw [HFE.out] at HFS
    go_wp2_with fail
    refine HFS.out.mono ?_
    rintro e u2 ⟨rfl, hb2⟩
    have HB2 := hid (bl_step HBU.out hb2)
    clear hb2 HFS HBU HWA HJ
    go_wp2_with fail
    refine (HOR.out _).mono ?_
    rintro e u3 ⟨rfl, rfl⟩
    have HE := hid (bl_alloc (o := .cells #[.int .i64 U, .int .i64 FSq] 3) HB2.out)
    clear HOR HB2
    go_wp2
    go_ret
    exact ⟨by rw [HRES.out]; rfl, HE.out⟩
  · have e4 : (x.kind == 4) = false := by simpa using q4
    have hk34 : ¬ (x.kind = 3 ∨ x.kind = 4) := fun h => h.elim q3 q4
    clear q3 q4
    skip
    have HFE : Hid (firstC ([x.yes].map (stepC d.nodes.n k)) = FSq) := by rw [if_neg hk34] at hFSq; exact hFSq
    clear hFSq hk34
    have HBC := hid HB.out
    have HWAY : Hid (Has .i64 W4 (some ⟨b3, 0, none⟩) 1 [x.yes]) := by show Has .i64 W4 (some ⟨b3, 0, none⟩) 1 [x.yes]; rw [E4.out, E3.out]; simpa using has_oneI (((w.alloc (.cells #[.slice d.heads.a d.heads.n d.heads.c, .slice d.mta.a d.mta.n d.mta.c, .slice d.states.a d.states.n d.states.c, .slice d.acts.a d.acts.n d.acts.c, .slice d.tabs.a d.tabs.n d.tabs.c, .slice (some ⟨g, off, none⟩) d.nodes.n d.nodes.c, .slice d.out.a d.out.n d.out.c] 109)).alloc (.cells #[.int .i64 (k : Int)] 3)).alloc (.cells #[.int .i64 x.kind, .int .i64 x.n, .slice x.e.a x.e.n x.e.c, .int .i64 x.yes, .int .i64 x.no] 105)) x.yes HYW.out
    have HJC : Hid (JIn d k b0 b1 W4) := by rw [← ea] at z5; exact ⟨⟨z0, z1, z2, z3, z4, z5, z6⟩, y0⟩
    go_enter Tryz.func51, Tryz.ntmps51
    go_wp2_with fail
    rw [← E4.out, ← E3.out, ← E2.out, ← E1.out, ← E0.out]
    clear E4 E3 E2 E1 E0 HB
    refine (HU.out _ HBC.out).mono ?_
    rintro e u1 ⟨rfl, hb1⟩
    have HBU := hid (bl_step HBC.out hb1)
    have HWA := hid (HWAY.out.step hb1)
    have HJ := hid (HJC.out.step hb1)
    have HFS : Hid (Calls Tryz.prog 109 #[.slice (some ⟨b3, 0, none⟩) 1 1, .func (.func 114) #[] #[.pointer (some ⟨b0, 0, none⟩), .pointer (some ⟨b1, 0, none⟩)]] u1 fun e w'' => e = .returned (.int .i64 (firstC ([x.yes].map (stepC d.nodes.n k)))) ∧ Below u1.heap.size u1 w'') :=
      firstStep_any (.pointer (some ⟨b0, 0, none⟩)) (.pointer (some ⟨b1, 0, none⟩)) ⟨(some ⟨b3, 0, none⟩), 1, 1⟩ [x.yes] (stepC d.nodes.n k) u1 (by simp) HWA.out (fun w' h c _ => node1_any d k b0 b1 c w' (HJ.out.step h))
    clear hb1 HU HBC HWAY HJC
    rw [HFE.out] at HFS
    go_wp2_with fail
    refine HFS.out.mono ?_
    rintro e u2 ⟨rfl, hb2⟩
    have HB2 := hid (bl_step HBU.out hb2)
    clear hb2 HFS HBU HWA HJ
    go_wp2_with fail
    refine (HOR.out _).mono ?_
    rintro e u3 ⟨rfl, rfl⟩
    have HE := hid (bl_alloc (o := .cells #[.int .i64 U, .int .i64 FSq] 3) HB2.out)
    clear HOR HB2
    go_wp2
    go_ret
    exact ⟨by rw [HRES.out]; rfl, HE.out⟩
end Go.Proofs.YtlnkfgdepddmladGreat
