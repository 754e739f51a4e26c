/- Texts of one chain, joined: ZRdI, ZRdJ. -/
import Derived.Test.YtedeiaokohdhpaaGreatG10
import Derived.Deep.RegionWith
namespace Go.Proofs.YtedeiaokohdhpaaGreat
open Go.RowKit
theorem Tryz.infoCaseR : (Tryz.prog.info? 98).map (fun i => (i.zero, i.size, i.bytes)) = some (some (.agg #[.int .u64 0, .int .u64 0, .int .i64 0]), 3, 24) := by kernel_rfl
@[reducible] def kCaseE (x : Int × Int × Int) : List Value := [.int .u64 x.1, .int .u64 x.2.1, .int .i64 x.2.2]
def CaseW (x : Int × Int × Int) : Prop := (Lit.int .u64 x.1).wf = true ∧ (Lit.int .u64 x.2.1).wf = true ∧ (Lit.int .i64 x.2.2).wf = true
def CasesV (w : World) (xs : List (Int × Int × Int)) (w' : World) (v : Value) : Prop := ∃ g, v = .slice (some ⟨g, 0, none⟩) xs.length xs.length ∧ w.heap.size ≤ g ∧ RowK kCaseE 3 98 xs.length w' g xs ∧ ∀ x ∈ xs, CaseW x
structure StateX where
  head : Int
  on : Int × Int
  cs : List (Int × Int × Int)
  els : Int
def stateR (zs : List Int) (t : Nat) : Except (Int × Int) (StateX × Nat) := thenR (numR zs t) fun hd u1 => thenR (cntR zs u1) fun m u2 => thenR (if m = 0 then .ok ((0, 0), u2) else fieldR zs u2) fun on u3 => thenR (listR (caseR zs) m u3) fun cs u4 => thenR (numR zs u4) fun el u5 => .ok (⟨hd, on, cs, el⟩, u5)
def StateV (w : World) (x : StateX) (w' : World) (v : Value) : Prop := ∃ vc, v = .agg #[.int .i64 x.head, .int .i64 x.on.1, .int .i64 x.on.2, vc, .int .i64 x.els] ∧ CasesV w x.cs w' vc ∧ (Lit.int .i64 x.head).wf = true ∧ (Lit.int .i64 x.on.1).wf = true ∧ (Lit.int .i64 x.on.2).wf = true ∧ (Lit.int .i64 x.els).wf = true
structure RC (p : Nat) (a : Option Addr) (c : Nat) (zs : List Int) (bx g m : Nat) (w0 : World) (u : Nat) (vs : List Value) (xs : List (Int × Int × Int)) (w : World) : Prop where
  st : RSt p a c zs 51 bx w0 u vs w
  row : RowK kCaseE 3 98 m w g xs
  gp : p < g
  gb : g ≠ bx
  gn : w0.heap.size ≤ g
theorem RC.read {p : Nat} {a : Option Addr} {c : Nat} {zs : List Int} {bx g m : Nat} {w0 : World} {u u' : Nat} {vs : List Value} {xs : List (Int × Int × Int)} {w w' : World} (h : RC p a c zs bx g m w0 u vs xs w) (r : Rn p w w') (d : Rd p a c zs u' w') : RC p a c zs bx g m w0 u' vs xs w' := ⟨h.st.read r d, h.row.rn r (by have := h.gp; omega), h.gp, h.gb, h.gn⟩
theorem RC.put {p : Nat} {a : Option Addr} {c : Nat} {zs : List Int} {bx g m : Nat} {w0 : World} {u : Nat} {vs : List Value} {xs : List (Int × Int × Int)} {w : World} (h : RC p a c zs bx g m w0 u vs xs w) (i : Nat) (v : Value) {o : Value} (ho : vs[i]? = some o) (hu : ∀ n, o ≠ .int .u8 n) : RC p a c zs bx g m w0 u (vs.set i v) xs (w.setCell ⟨bx, i, none⟩ v) := by
  refine ⟨h.st.put i v ho hu, ?_, h.gp, h.gb, h.gn⟩
  obtain ⟨cur, h1, h2⟩ := h.row
  exact ⟨cur, (Below.heap_setCell _ _ _ _ (by exact h.gb)).trans h1, h2⟩
theorem RSt.far {p : Nat} {a : Option Addr} {c : Nat} {zs : List Int} {T : TypeId} {bx : Nat} {w0 : World} {u : Nat} {vs : List Value} {w : World} (h : RSt p a c zs T bx w0 u vs w) {g : Nat} (hg : p < g) (hb : g ≠ bx) (hn : w0.heap.size ≤ g) (o : Nat) (v : Value) : RSt p a c zs T bx w0 u vs (w.setCell ⟨g, o, none⟩ v) :=
  ⟨h.rd.put_far hg o v, h.rn.put_new hn o v, (Below.heap_setCell _ _ _ _ (by exact fun e => hb e.symm)).trans h.box, h.new, h.ne⟩
theorem RC.more {p : Nat} {a : Option Addr} {c : Nat} {zs : List Int} {bx g m : Nat} {w0 : World} {u : Nat} {vs : List Value} {xs : List (Int × Int × Int)} {w : World} (h : RC p a c zs bx g m w0 u vs xs w) (hm : xs.length < m) (x : Int × Int × Int) : RC p a c zs bx g m w0 u vs (xs ++ [x]) (((w.setCell ⟨g, xs.length * 3, none⟩ (.int .u64 x.1)).setCell ⟨g, xs.length * 3 + 1, none⟩ (.int .u64 x.2.1)).setCell ⟨g, xs.length * 3 + 2, none⟩ (.int .i64 x.2.2)) := by
  have p1 := h.row.put (fun _ => rfl) (xs.length * 3) (.int .u64 x.1) (by omega) (by omega)
  have p2 := p1.1.put (fun _ => rfl) (xs.length * 3 + 1) (.int .u64 x.2.1) (by omega) (by omega)
  have p3 := p2.1.put (fun _ => rfl) (xs.length * 3 + 2) (.int .i64 x.2.2) (by omega) (by omega)
  refine ⟨((h.st.far h.gp h.gb h.gn _ _).far h.gp h.gb h.gn _ _).far h.gp h.gb h.gn _ _, ?_, h.gp, h.gb, h.gn⟩
  refine p3.1.more x fun l u hu => ?_
  match l, hu with
  | 0, hu => cases hu; exact (World.cell?_setCell_other _ _ _ _ (by intro e; simp only [Addr.mk.injEq] at e; omega)).trans ((World.cell?_setCell_other _ _ _ _ (by intro e; simp only [Addr.mk.injEq] at e; omega)).trans p1.2)
  | 1, hu => cases hu; exact (World.cell?_setCell_other _ _ _ _ (by intro e; simp only [Addr.mk.injEq] at e; omega)).trans p2.2
  | 2, hu => cases hu; exact p3.2
theorem mem_more {α : Type} {p : α → Prop} {xs : List α} {x : α} (h : ∀ y ∈ xs, p y) (hx : p x) : ∀ y ∈ xs ++ [x], p y := fun y hy => by
  rcases List.mem_append.1 hy with h1 | h1
  · exact h y h1
  · simp only [List.mem_cons, List.not_mem_nil, or_false] at h1; rw [h1]; exact hx
set_option maxHeartbeats 4000000 in
set_option maxRecDepth 20000 in
theorem rstate {p : Nat} {a : Option Addr} {c : Nat} {zs : List Int} {t : Nat} {w : World} (h : Rd p a c zs t w) :
    Calls Tryz.prog 118 #[.pointer (some ⟨p, 0, none⟩)] w (RDone p a c zs (StateV w) (stateR zs t) w) := by
  obtain ⟨W1, eW⟩ : ∃ W1, W1 = w.alloc (.cells #[.int .i64 0, .int .i64 0, .int .i64 0, .slice none 0 0, .int .i64 0] 51) := ⟨_, rfl⟩
  obtain ⟨bx, ebx⟩ : ∃ b, b = w.heap.size := ⟨_, rfl⟩
  have S0 : Hid (RSt p a c zs 51 bx w t [.int .i64 0, .int .i64 0, .int .i64 0, .slice none 0 0, .int .i64 0] W1) := by rw [eW, ebx]; exact RSt.start h _ _
  have HF0 := hid (rnumber S0.out.rd)
  have WZ : Hid ((Lit.int .i64 0).wf = true) := by show _ = true; decide
  have EW := hid eW
  have EB := hid ebx
  clear h eW ebx
  go_enter Tryz.func118, Tryz.ntmps118
  go_wp2_with fail
  rw [← EW.out, ← EB.out]
  clear EW EB
  refine HF0.out.mono ?_
  rintro e w1 ⟨hn, hr⟩
  cases hq : numR zs t with
  | error e =>
    rw [hq] at hr
    obtain rfl := hr
    exact panic_out (P := Tryz.prog) (fn := Tryz.f118) (by unfold stateR; rw [hq]; exact ⟨S0.out.rn.trans hn, rfl⟩) rfl
  | ok y =>
    obtain ⟨x1, u1⟩ := y
    rw [hq] at hr
    obtain ⟨_, rfl, ⟨rfl, hw⟩, hr⟩ := hr
    have T0 := S0.out.read hn hr
    have HW1 := hid hw
    have b0 := T0.box.cell (i := 0) rfl
    have z0 := T0.box.fz 0
    have l0 := T0.box.lt
    obtain ⟨V1, eV1⟩ : ∃ W, W = w1.setCell ⟨bx, 0, none⟩ (.int .i64 x1) := ⟨_, rfl⟩
    have S1 : Hid (RSt p a c zs 51 bx w u1 [.int .i64 x1, .int .i64 0, .int .i64 0, .slice none 0 0, .int .i64 0] V1) := by rw [eV1]; exact T0.put 0 (.int .i64 x1) rfl (fun n h => by cases h)
    have Q1 := hid hq
    have EV := hid eV1
    have HF1 := hid (rcount S1.out.rd)
    clear HF0 hn hr hq T0 eV1 S0 hw
    go_wp2_with fail
    rw [← EV.out]
    clear EV b0 z0 l0
    refine HF1.out.mono ?_
    rintro e w2 ⟨hn, hr⟩
    cases hq : cntR zs u1 with
    | error e =>
      rw [hq] at hr
      obtain rfl := hr
      exact panic_out (P := Tryz.prog) (fn := Tryz.f118) (by unfold stateR; rw [Q1.out]; unfold thenR; dsimp only; rw [hq]; exact ⟨S1.out.rn.trans hn, rfl⟩) rfl
    | ok y =>
      obtain ⟨m, u2⟩ := y
      rw [hq] at hr
      obtain ⟨_, rfl, ⟨rfl, hm⟩, hr⟩ := hr
      have T1 := S1.out.read hn hr
      obtain ⟨i0, hi, hz0, hz1, hz2⟩ := info_parts Tryz.infoCaseR
      have hmle : m ≤ 100000 := Nat.le_trans hm hr.few
      have hmk : ∀ W : World, (Instr.makeSlice 49 (.int .i64 (m : Int)) (.int .i64 (m : Int))).run Tryz.prog W = .ok (.slice (some ⟨W.heap.size, 0, none⟩) m m) (W.alloc (.cells (madeCells #[.int .u64 0, .int .u64 0, .int .i64 0] (m * 3)) 98)) := fun W => by
        have h := run_make (P := Tryz.prog) W 49 98 i0 _ Tryz.underlying49 hi hz0 .i64 .i64 (m : Int) (m : Int) (by omega) (by omega) (by rw [hz2]; omega) (by omega)
        rw [show ((m : Int)).toNat = m by omega, hz1] at h
        exact h
      obtain ⟨g, hg⟩ : ∃ g, g = w2.heap.size := ⟨_, rfl⟩
      have T2 := T1.put 3 (.slice (some ⟨g, 0, none⟩) m m) rfl (fun n h => by cases h)
      obtain ⟨V2, eV2⟩ : ∃ W, W = (w2.setCell ⟨bx, 3, none⟩ (.slice (some ⟨g, 0, none⟩) m m)).alloc (.cells (madeCells #[.int .u64 0, .int .u64 0, .int .i64 0] (m * 3)) 98) := ⟨_, rfl⟩
      have bb : Below (w2.setCell ⟨bx, 3, none⟩ (.slice (some ⟨g, 0, none⟩) m m)).heap.size (w2.setCell ⟨bx, 3, none⟩ (.slice (some ⟨g, 0, none⟩) m m)) V2 := by rw [eV2]; exact bl_alloc (Below.refl _ _)
      have R0 : RowK kCaseE 3 98 m V2 g [] := by
        have h := RowK.new kCaseE 3 98 m (w2.setCell ⟨bx, 3, none⟩ (.slice (some ⟨g, 0, none⟩) m m)) (madeCells #[.int .u64 0, .int .u64 0, .int .i64 0] (m * 3)) (by simp [madeCells])
        rw [World.size_setCell, ← hg, ← eV2] at h
        exact h
      have hpg : p < g := by rw [hg]; exact World.block_lt_of_cell? _ _ hr.c0
      have hgb : g ≠ bx := by rw [hg]; have := T1.box.lt; omega
      have hgn : w.heap.size ≤ g := by rw [hg]; exact T1.rn.size
      have C3 : Hid (RC p a c zs bx g m w u2 [.int .i64 x1, .int .i64 0, .int .i64 0, .slice (some ⟨g, 0, none⟩) m m, .int .i64 0] [] V2) := ⟨T2.read (Rn.of bb) (T2.rd.step bb), R0, hpg, hgb, hgn⟩
      have b3 := T1.box.cell (i := 3) rfl
      have z3 := T1.box.fz 3
      have l3 := T1.box.lt
      have Q2 := hid hq
      have EV := hid eV2
      have EG := hid hg
      have HML := hid hmle
      clear HF1 hn hr hq T1 T2 S1 R0 bb hg eV2 hm hmle hi hz0 hz1 hz2 hpg hgb hgn
      go_upto_region 3 with fail
      rw [← EG.out, ← EV.out]
      clear EV EG b3 z3 l3 hmk
      have c3 := C3.out.st.box.cell (i := 3) rfl
      have lc := C3.out.st.box.lt
      by_cases hm0 : m = 0
      · have hgt : ¬ (0 : Int) < (m : Int) := by omega
        have EVS : Hid (stateR zs t = thenR (listR (caseR zs) m u2) fun cs u4 => thenR (numR zs u4) fun el u5 => .ok (⟨x1, (0, 0), cs, el⟩, u5)) := by
          show _ = _
          unfold stateR
          rw [Q1.out]
          unfold thenR
          dsimp only
          rw [Q2.out]
          dsimp only
          rw [if_pos hm0]
        have HM0 := hid hm0
        have CL := C3
        clear hm0 Q1 Q2 C3
        go_wp2_with fail
        clear c3 lc
        go_loopw [21, 3] (fun q _ wr => ∃ (i u : Nat) (xs : List (Int × Int × Int)), q = .int .i64 (i : Int) ∧ Hid (i ≤ m) ∧ Hid (xs.length = i) ∧ Hid (∀ x ∈ xs, CaseW x) ∧ Hid (behindL xs (listR (caseR zs) (m - i) u) = listR (caseR zs) m u2) ∧ Hid (RC p a c zs bx g m w u [.int .i64 x1, .int .i64 0, .int .i64 0, .slice (some ⟨g, 0, none⟩) m m, .int .i64 0] xs wr)) (fun q _ _ => m - (intOf q).toNat)
        case atStart =>
          refine ⟨0, u2, [], rfl, Nat.zero_le _, rfl, fun x hx => (by simp at hx), ?_, CL⟩
          show behindL [] (listR (caseR zs) m u2) = _
          cases listR (caseR zs) m u2 with
          | error e => rfl
          | ok y => rfl
        case round =>
          obtain ⟨i, u, xs, rfl, HI, HX, HWF, HL, HC⟩ := hrel
          clear CL
          by_cases hlt : i < m
          · have hli : (i : Int) < (m : Int) := by omega
            have HD : Hid (RC p a c zs bx g m w u [.int .i64 x1, .int .i64 0, .int .i64 0, .slice (some ⟨g, 0, none⟩) m m, .int .i64 0] xs wr.drew) := HC.out.read (Rn.of (Below.refl _ _).drew) (HC.out.st.rd.step (Below.refl _ _).drew)
            have HF := hid (rcase HD.out.st.rd)
            have c3 := HC.out.st.box.cell (i := 3) rfl
            have d3 := HD.out.st.box.cell (i := 3) rfl
            have lb := HC.out.st.box.lt
            go_wp2_with fail
            go_region_with (go_at_call 149; refine HF.out.mono ?_; rintro e w3 ⟨hn3, hr3⟩; have hL := HL.out; rw [show m - i = (m - i - 1) + 1 by omega] at hL; rcases hq : caseR zs u with e | ⟨x, u'⟩; (focus (rw [behind_stop _ _ _ _ e hq] at hL; rw [hq] at hr3; obtain rfl := hr3; exact panic_out (P := Tryz.prog) (fn := Tryz.f118) (by rw [EVS.out, ← hL]; exact ⟨HD.out.st.rn.trans hn3, rfl⟩) rfl)); rw [behind_next _ _ _ _ x u' hq] at hL; rw [hq] at hr3; obtain ⟨_, rfl, ⟨rfl, hwf⟩, hr3⟩ := hr3; have T3 := HD.out.read hn3 hr3; have hxl := HX.out; have b3 := T3.st.box.cell (i := 3) rfl; obtain ⟨o0, k0⟩ := T3.row.some (o := i * 3) (by omega); obtain ⟨o1, k1⟩ := T3.row.some (o := i * 3 + 1) (by omega); obtain ⟨o2, k2⟩ := T3.row.some (o := i * 3 + 2) (by omega); have z0 := T3.row.fz (i * 3); have z1 := T3.row.fz (i * 3 + 1); have z2 := T3.row.fz (i * 3 + 2); have kl := T3.row.lt; have lb3 := T3.st.box.lt; have C4 := T3.more (by omega) x; rw [hxl] at C4; have C4 := hid C4; have HL4 : Hid (behindL (xs ++ [x]) (listR (caseR zs) (m - (i + 1)) u') = listR (caseR zs) m u2) := (by show _ = _; rw [← hL, show m - (i + 1) = m - i - 1 by omega]); have HX4 : Hid ((xs ++ [x]).length = i + 1) := (by show _ = _; rw [List.length_append, hxl]; rfl); have HWF4 : Hid (∀ y ∈ xs ++ [x], CaseW y) := (mem_more HWF.out hwf); have hml := HML.out; clear HF hn3 hr3 hL hq T3 hxl hwf)
            all_goals
              go_wp2
              go_roundw
              case rel => exact ⟨i + 1, u', xs ++ [x], vint (by omega), hid hlt, HX4, HWF4, HL4, C4⟩
              case measure => simp [intOf]; omega
          · have hli : ¬ (i : Int) < (m : Int) := by omega
            have e3 : m - i = 0 := by omega
            have hxl : xs.length = m := by have h1 := HX.out; have h2 := HI.out; omega
            have HLK : Hid (listR (caseR zs) m u2 = .ok (xs, u)) := by
              show _ = _
              rw [← HL.out, e3]
              show behindL xs (.ok ([], u)) = _
              simp [behindL]
            have HXL := hid hxl
            have HFN := hid (rnumber HC.out.st.rd)
            clear HL HX e3 hxl
            go_wp2_with fail
            refine HFN.out.mono ?_
            rintro e w5 ⟨hn, hr⟩
            cases hq : numR zs u with
            | error e =>
              rw [hq] at hr
              obtain rfl := hr
              exact panic_out (P := Tryz.prog) (fn := Tryz.f118) (by rw [EVS.out, HLK.out]; unfold thenR; dsimp only; rw [hq]; exact ⟨HC.out.st.rn.trans hn, rfl⟩) rfl
            | ok y =>
              obtain ⟨x5, u5⟩ := y
              rw [hq] at hr
              obtain ⟨_, rfl, ⟨rfl, hw5⟩, hr⟩ := hr
              have T5 := HC.out.read hn hr
              have S7 := ((((((T5.put 4 (.int .i64 x5) rfl (fun n h => by cases h)).put 0 (.int .i64 x1) rfl (fun n h => by cases h)).put 1 (.int .i64 0) rfl (fun n h => by cases h)).put 2 (.int .i64 0) rfl (fun n h => by cases h)).put 3 (.slice (some ⟨g, 0, none⟩) m m) rfl (fun n h => by cases h)).put 4 (.int .i64 x5) rfl (fun n h => by cases h))
              have HE : Hid (RDone p a c zs (StateV w) (stateR zs t) w (.returned (.agg #[.int .i64 x1, .int .i64 0, .int .i64 0, .slice (some ⟨g, 0, none⟩) m m, .int .i64 x5])) ((((((w5.setCell ⟨bx, 4, none⟩ (.int .i64 x5)).setCell ⟨bx, 0, none⟩ (.int .i64 x1)).setCell ⟨bx, 1, none⟩ (.int .i64 0)).setCell ⟨bx, 2, none⟩ (.int .i64 0)).setCell ⟨bx, 3, none⟩ (.slice (some ⟨g, 0, none⟩) m m)).setCell ⟨bx, 4, none⟩ (.int .i64 x5))) := by
                show RDone _ _ _ _ _ _ _ _ _
                rw [EVS.out, HLK.out]
                unfold thenR
                dsimp only
                rw [hq]
                exact ⟨S7.st.rn, _, rfl, ⟨_, rfl, ⟨g, by rw [HXL.out], S7.gn, by rw [HXL.out]; exact S7.row, HWF.out⟩, HW1.out, WZ.out, WZ.out, hw5⟩, S7.st.rd⟩
              have b0 := T5.st.box.cell (i := 0) rfl
              have b1 := T5.st.box.cell (i := 1) rfl
              have b2 := T5.st.box.cell (i := 2) rfl
              have b3 := T5.st.box.cell (i := 3) rfl
              have b4 := T5.st.box.cell (i := 4) rfl
              have z0 := T5.st.box.fz 0
              have z1 := T5.st.box.fz 1
              have z2 := T5.st.box.fz 2
              have z3 := T5.st.box.fz 3
              have z4 := T5.st.box.fz 4
              have l5 := T5.st.box.lt
              clear HFN hn hr hq hw5 T5 S7 HC HLK EVS HWF HXL
              go_wp2
              exact bodyPost_ret (v := .agg #[.int .i64 x1, .int .i64 0, .int .i64 0, .slice (some ⟨g, 0, none⟩) m m, .int .i64 x5]) (by simp [results, Tryz.results118, go_sem, *]) rfl HE.out
      · have hgt : (0 : Int) < (m : Int) := by omega
        have HM0 := hid hm0
        have HF2 := hid (rfield C3.out.st.rd)
        clear hm0
        go_wp2_with fail
        refine HF2.out.mono ?_
        rintro e w4 ⟨hn, hr⟩
        cases hq : fieldR zs u2 with
        | error e =>
          rw [hq] at hr
          obtain rfl := hr
          exact panic_out (P := Tryz.prog) (fn := Tryz.f118) (by unfold stateR; rw [Q1.out]; unfold thenR; dsimp only; rw [Q2.out]; dsimp only; rw [if_neg HM0.out, hq]; exact ⟨C3.out.st.rn.trans hn, rfl⟩) rfl
        | ok y =>
          obtain ⟨⟨xa, xb⟩, y3⟩ := y
          rw [hq] at hr
          obtain ⟨_, rfl, ⟨rfl, hw⟩, hr⟩ := hr
          dsimp only at hw
          have T3 := C3.out.read hn hr
          have HWAB := hid hw
          have EVS : Hid (stateR zs t = thenR (listR (caseR zs) m y3) fun cs u4 => thenR (numR zs u4) fun el u5 => .ok (⟨x1, (xa, xb), cs, el⟩, u5)) := by
            show _ = _
            unfold stateR
            rw [Q1.out]
            unfold thenR
            dsimp only
            rw [Q2.out]
            dsimp only
            rw [if_neg HM0.out, hq]
          have b1 := T3.st.box.cell (i := 1) rfl
          have z1 := T3.st.box.fz 1
          have b2 := T3.st.box.cell (i := 2) rfl
          have z2 := T3.st.box.fz 2
          have l3 := T3.st.box.lt
          obtain ⟨V3, eV3⟩ : ∃ W, W = ((w4.setCell ⟨bx, 1, none⟩ (.int .i64 xa)).setCell ⟨bx, 2, none⟩ (.int .i64 xb)) := ⟨_, rfl⟩
          have CL : Hid (RC p a c zs bx g m w y3 [.int .i64 x1, .int .i64 xa, .int .i64 xb, .slice (some ⟨g, 0, none⟩) m m, .int .i64 0] [] V3) := by rw [eV3]; exact (T3.put 1 (.int .i64 xa) rfl (fun n h => by cases h)).put 2 (.int .i64 xb) rfl (fun n h => by cases h)
          have EV := hid eV3
          clear HF2 hn hr hq T3 eV3 hw C3 c3 lc Q1 Q2
          go_upto_region 5 with fail
          rw [← EV.out]
          clear EV b1 z1 b2 z2 l3
          have c3 := CL.out.st.box.cell (i := 3) rfl
          have lc := CL.out.st.box.lt
          go_wp2_with fail
          clear c3 lc
          go_loopw [21, 3] (fun q _ wr => ∃ (i u : Nat) (xs : List (Int × Int × Int)), q = .int .i64 (i : Int) ∧ Hid (i ≤ m) ∧ Hid (xs.length = i) ∧ Hid (∀ x ∈ xs, CaseW x) ∧ Hid (behindL xs (listR (caseR zs) (m - i) u) = listR (caseR zs) m y3) ∧ Hid (RC p a c zs bx g m w u [.int .i64 x1, .int .i64 xa, .int .i64 xb, .slice (some ⟨g, 0, none⟩) m m, .int .i64 0] xs wr)) (fun q _ _ => m - (intOf q).toNat)
          case atStart =>
            refine ⟨0, y3, [], rfl, Nat.zero_le _, rfl, fun x hx => (by simp at hx), ?_, CL⟩
            show behindL [] (listR (caseR zs) m y3) = _
            cases listR (caseR zs) m y3 with
            | error e => rfl
            | ok y => rfl
          case round =>
            obtain ⟨i, u, xs, rfl, HI, HX, HWF, HL, HC⟩ := hrel
            clear CL
            by_cases hlt : i < m
            · have hli : (i : Int) < (m : Int) := by omega
              have HD : Hid (RC p a c zs bx g m w u [.int .i64 x1, .int .i64 xa, .int .i64 xb, .slice (some ⟨g, 0, none⟩) m m, .int .i64 0] xs wr.drew) := HC.out.read (Rn.of (Below.refl _ _).drew) (HC.out.st.rd.step (Below.refl _ _).drew)
              have HF := hid (rcase HD.out.st.rd)
              have c3 := HC.out.st.box.cell (i := 3) rfl
              have d3 := HD.out.st.box.cell (i := 3) rfl
              have lb := HC.out.st.box.lt
              go_wp2_with fail
              go_region_with (go_at_call 149; refine HF.out.mono ?_; rintro e w3 ⟨hn3, hr3⟩; have hL := HL.out; rw [show m - i = (m - i - 1) + 1 by omega] at hL; rcases hq : caseR zs u with e | ⟨x, u'⟩; (focus (rw [behind_stop _ _ _ _ e hq] at hL; rw [hq] at hr3; obtain rfl := hr3; exact panic_out (P := Tryz.prog) (fn := Tryz.f118) (by rw [EVS.out, ← hL]; exact ⟨HD.out.st.rn.trans hn3, rfl⟩) rfl)); rw [behind_next _ _ _ _ x u' hq] at hL; rw [hq] at hr3; obtain ⟨_, rfl, ⟨rfl, hwf⟩, hr3⟩ := hr3; have T3 := HD.out.read hn3 hr3; have hxl := HX.out; have b3 := T3.st.box.cell (i := 3) rfl; obtain ⟨o0, k0⟩ := T3.row.some (o := i * 3) (by omega); obtain ⟨o1, k1⟩ := T3.row.some (o := i * 3 + 1) (by omega); obtain ⟨o2, k2⟩ := T3.row.some (o := i * 3 + 2) (by omega); have z0 := T3.row.fz (i * 3); have z1 := T3.row.fz (i * 3 + 1); have z2 := T3.row.fz (i * 3 + 2); have kl := T3.row.lt; have lb3 := T3.st.box.lt; have C4 := T3.more (by omega) x; rw [hxl] at C4; have C4 := hid C4; have HL4 : Hid (behindL (xs ++ [x]) (listR (caseR zs) (m - (i + 1)) u') = listR (caseR zs) m y3) := (by show _ = _; rw [← hL, show m - (i + 1) = m - i - 1 by omega]); have HX4 : Hid ((xs ++ [x]).length = i + 1) := (by show _ = _; rw [List.length_append, hxl]; rfl); have HWF4 : Hid (∀ y ∈ xs ++ [x], CaseW y) := (mem_more HWF.out hwf); have hml := HML.out; clear HF hn3 hr3 hL hq T3 hxl hwf)
              all_goals
                go_wp2
                go_roundw
                case rel => exact ⟨i + 1, u', xs ++ [x], vint (by omega), hid hlt, HX4, HWF4, HL4, C4⟩
                case measure => simp [intOf]; omega
            · have hli : ¬ (i : Int) < (m : Int) := by omega
              have e3 : m - i = 0 := by omega
              have hxl : xs.length = m := by have h1 := HX.out; have h2 := HI.out; omega
              have HLK : Hid (listR (caseR zs) m y3 = .ok (xs, u)) := by
                show _ = _
                rw [← HL.out, e3]
                show behindL xs (.ok ([], u)) = _
                simp [behindL]
              have HXL := hid hxl
              have HFN := hid (rnumber HC.out.st.rd)
              clear HL HX e3 hxl
              go_wp2_with fail
              refine HFN.out.mono ?_
              rintro e w5 ⟨hn, hr⟩
              cases hq : numR zs u with
              | error e =>
                rw [hq] at hr
                obtain rfl := hr
                exact panic_out (P := Tryz.prog) (fn := Tryz.f118) (by rw [EVS.out, HLK.out]; unfold thenR; dsimp only; rw [hq]; exact ⟨HC.out.st.rn.trans hn, rfl⟩) rfl
              | ok y =>
                obtain ⟨x5, u5⟩ := y
                rw [hq] at hr
                obtain ⟨_, rfl, ⟨rfl, hw5⟩, hr⟩ := hr
                have T5 := HC.out.read hn hr
                have S7 := ((((((T5.put 4 (.int .i64 x5) rfl (fun n h => by cases h)).put 0 (.int .i64 x1) rfl (fun n h => by cases h)).put 1 (.int .i64 xa) rfl (fun n h => by cases h)).put 2 (.int .i64 xb) rfl (fun n h => by cases h)).put 3 (.slice (some ⟨g, 0, none⟩) m m) rfl (fun n h => by cases h)).put 4 (.int .i64 x5) rfl (fun n h => by cases h))
                have HE : Hid (RDone p a c zs (StateV w) (stateR zs t) w (.returned (.agg #[.int .i64 x1, .int .i64 xa, .int .i64 xb, .slice (some ⟨g, 0, none⟩) m m, .int .i64 x5])) ((((((w5.setCell ⟨bx, 4, none⟩ (.int .i64 x5)).setCell ⟨bx, 0, none⟩ (.int .i64 x1)).setCell ⟨bx, 1, none⟩ (.int .i64 xa)).setCell ⟨bx, 2, none⟩ (.int .i64 xb)).setCell ⟨bx, 3, none⟩ (.slice (some ⟨g, 0, none⟩) m m)).setCell ⟨bx, 4, none⟩ (.int .i64 x5))) := by
                  show RDone _ _ _ _ _ _ _ _ _
                  rw [EVS.out, HLK.out]
                  unfold thenR
                  dsimp only
                  rw [hq]
                  exact ⟨S7.st.rn, _, rfl, ⟨_, rfl, ⟨g, by rw [HXL.out], S7.gn, by rw [HXL.out]; exact S7.row, HWF.out⟩, HW1.out, HWAB.out.1, HWAB.out.2, hw5⟩, S7.st.rd⟩
                have b0 := T5.st.box.cell (i := 0) rfl
                have b1 := T5.st.box.cell (i := 1) rfl
                have b2 := T5.st.box.cell (i := 2) rfl
                have b3 := T5.st.box.cell (i := 3) rfl
                have b4 := T5.st.box.cell (i := 4) rfl
                have z0 := T5.st.box.fz 0
                have z1 := T5.st.box.fz 1
                have z2 := T5.st.box.fz 2
                have z3 := T5.st.box.fz 3
                have z4 := T5.st.box.fz 4
                have l5 := T5.st.box.lt
                clear HFN hn hr hq hw5 T5 S7 HC HLK EVS HWF HXL
                go_wp2
                exact bodyPost_ret (v := .agg #[.int .i64 x1, .int .i64 xa, .int .i64 xb, .slice (some ⟨g, 0, none⟩) m m, .int .i64 x5]) (by simp [results, Tryz.results118, go_sem, *]) rfl HE.out
end Go.Proofs.YtedeiaokohdhpaaGreat

namespace Go.Proofs.YtedeiaokohdhpaaGreat
open Go.RowKit
theorem CasesV.keep {w w1 w2 : World} {xs : List (Int × Int × Int)} {v : Value} (h : CasesV w xs w1 v) (hb : ∀ g, w.heap.size ≤ g → w2.heap[g]? = w1.heap[g]? ∨ w1.heap.size ≤ g) : CasesV w xs w2 v := by
  obtain ⟨g, e, hg, hr, hw⟩ := h
  have hl : g < w1.heap.size := hr.lt
  exact ⟨g, e, hg, hr.blk ((hb g hg).resolve_right (by omega)), hw⟩
theorem CasesV.low {w w0 w1 : World} {xs : List (Int × Int × Int)} {v : Value} (h : CasesV w xs w1 v) (hb : w0.heap.size ≤ w.heap.size) : CasesV w0 xs w1 v := by
  obtain ⟨g, e, hg, hr, hw⟩ := h
  exact ⟨g, e, Nat.le_trans hb hg, hr, hw⟩
theorem CasesV.sl {w w1 : World} {xs : List (Int × Int × Int)} {v : Value} (h : CasesV w xs w1 v) : ∃ b l c, v = .slice b l c := by
  obtain ⟨g, e, _⟩ := h; exact ⟨_, _, _, e⟩
theorem Tryz.infoStateR : (Tryz.prog.info? 51).map (fun i => (i.zero, i.size, i.bytes)) = some (some (.agg #[.int .i64 0, .int .i64 0, .int .i64 0, .slice none 0 0, .int .i64 0]), 5, 56) := by kernel_rfl
def kStateE (y : StateX × Value) : List Value := [.int .i64 y.1.head, .int .i64 y.1.on.1, .int .i64 y.1.on.2, y.2, .int .i64 y.1.els]
def StateP (w : World) (y : StateX × Value) (w' : World) : Prop := CasesV w y.1.cs w' y.2 ∧ (Lit.int .i64 y.1.head).wf = true ∧ (Lit.int .i64 y.1.on.1).wf = true ∧ (Lit.int .i64 y.1.on.2).wf = true ∧ (Lit.int .i64 y.1.els).wf = true
theorem StateP.keep {w w1 w2 : World} {y : StateX × Value} (h : StateP w y w1) (hb : ∀ g, w.heap.size ≤ g → w2.heap[g]? = w1.heap[g]? ∨ w1.heap.size ≤ g) : StateP w y w2 := by
  obtain ⟨h0, hr⟩ := h
  exact ⟨h0.keep hb, hr⟩
theorem StateP.low {w w0 w1 : World} {y : StateX × Value} (h : StateP w y w1) (hb : w0.heap.size ≤ w.heap.size) : StateP w0 y w1 := by
  obtain ⟨h0, hr⟩ := h
  exact ⟨h0.low hb, hr⟩
def StatesV (w : World) (xs : List StateX) (w' : World) (v : Value) : Prop := ∃ g, ∃ ys : List (StateX × Value), v = .slice (some ⟨g, 0, none⟩) xs.length xs.length ∧ w.heap.size ≤ g ∧ ys.map (·.1) = xs ∧ RowK kStateE 5 51 xs.length w' g ys ∧ ∀ y ∈ ys, StateP w y w'
set_option maxHeartbeats 4000000 in
set_option maxRecDepth 20000 in
theorem rlist_state {p : Nat} {a : Option Addr} {c : Nat} {zs : List Int} {t : Nat} {w : World} (h : Rd p a c zs t w) :
    Calls Tryz.prog 117 #[.pointer (some ⟨p, 0, none⟩), .func (.func 118) #[.pointer (some ⟨p, 0, none⟩)] #[]] w (RDone p a c zs (StatesV w) (listC zs (stateR zs) t) w) := by
  have HP := hid (rcount h)
  clear h
  go_enter Tryz.func117, Tryz.ntmps117
  go_wp2_with fail
  refine HP.out.mono ?_
  rintro e w1 ⟨hn, hr⟩
  cases hp : cntR zs t with
  | error e =>
    have e1 : listC zs (stateR zs) t = .error e := by unfold listC; rw [hp]
    rw [hp] at hr
    obtain rfl := hr
    exact panic_out (P := Tryz.prog) (fn := Tryz.f117) (by rw [e1]; exact ⟨hn, rfl⟩) rfl
  | ok x =>
    obtain ⟨m, t1⟩ := x
    have e1 : listC zs (stateR zs) t = listR (stateR zs) m t1 := by unfold listC; rw [hp]
    rw [hp] at hr
    obtain ⟨_, rfl, ⟨rfl, hm⟩, hr1⟩ := hr
    obtain ⟨i0, hi, hz0, hz1, hz2⟩ := info_parts Tryz.infoStateR
    have hmle : m ≤ 100000 := Nat.le_trans hm hr1.few
    have hmk : ∀ W : World, (Instr.makeSlice 24 (.int .i64 (m : Int)) (.int .i64 (m : Int))).run Tryz.prog W = .ok (.slice (some ⟨W.heap.size, 0, none⟩) m m) (W.alloc (.cells (madeCells #[.int .i64 0, .int .i64 0, .int .i64 0, .slice none 0 0, .int .i64 0] (m * 5)) 51)) := fun W => by
      have h := run_make (P := Tryz.prog) W 24 51 i0 _ Tryz.underlying24 hi hz0 .i64 .i64 (m : Int) (m : Int) (by omega) (by omega) (by rw [hz2]; omega) (by omega)
      rw [show ((m : Int)).toNat = m by omega, hz1] at h
      exact h
    obtain ⟨W2, hW⟩ : ∃ W2, W2 = w1.alloc (.cells (madeCells #[.int .i64 0, .int .i64 0, .int .i64 0, .slice none 0 0, .int .i64 0] (m * 5)) 51) := ⟨_, rfl⟩
    obtain ⟨g, hg⟩ : ∃ g, g = w1.heap.size := ⟨_, rfl⟩
    have b2 : Below w1.heap.size w1 W2 := by rw [hW]; exact bl_alloc (Below.refl _ _)
    have R0 : RowK kStateE 5 51 m W2 g [] := by
      rw [hW, hg]
      exact RowK.new kStateE 5 _ m w1 _ (by simp [madeCells])
    have HR := hid (hr1.step b2)
    have HN := hid (hn.trans (Rn.of b2))
    have hpg : p < g := by rw [hg]; exact World.block_lt_of_cell? _ _ hr1.c0
    have HGW : Hid (w.heap.size ≤ g) := by show w.heap.size ≤ g; rw [hg]; exact hn.size
    have HLT : Hid (p < g) := hpg
    have HW2 : Hid (w.heap.size ≤ W2.heap.size) := HN.out.size
    have HPG : Hid (g ≠ p) := by show g ≠ p; omega
    have HRow := hid R0
    have HG2 := hid (R0.lt)
    have HP2 : Hid (p < W2.heap.size) := Nat.lt_trans hpg R0.lt
    have EW := hid hW
    have EG := hid hg
    have E1 := hid e1
    have HML := hid hmle
    clear HP hp hr1 hn e1 hm hi hz0 hz1 hz2 hW hg b2 R0 hpg hmle
    go_wp2
    rw [← EW.out, ← EG.out]
    clear EW EG hmk
    go_loopw [12, 6] (fun q _ wr => ∃ (i u : Nat) (xs : List (StateX × Value)), q = .int .i64 (i : Int) ∧ Hid (i ≤ m) ∧ Hid (xs.length = i) ∧ Hid (∀ y ∈ xs, StateP W2 y wr) ∧ Hid (W2.heap.size ≤ wr.heap.size) ∧ Hid (behindL (xs.map (·.1)) (listR (stateR zs) (m - i) u) = listC zs (stateR zs) t) ∧ Hid (Rd p a c zs u wr) ∧ Hid (Rn p w wr) ∧ Hid (RowK kStateE 5 51 m wr g xs)) (fun q _ _ => m - (intOf q).toNat)
    case atStart =>
      refine ⟨0, t1, [], rfl, Nat.zero_le _, rfl, fun x hx => (by simp at hx), Nat.le_refl _, ?_, HR, HN, HRow⟩
      show behindL [] (listR (stateR zs) m t1) = _
      rw [E1.out]
      cases listR (stateR zs) m t1 with
      | error e => rfl
      | ok y => rfl
    case round =>
      obtain ⟨i, u, xs, rfl, HI, HX, HWF, HS, HL, HR, HN, HRow⟩ := hrel
      by_cases hlt : i < m
      · have hli : (i : Int) < (m : Int) := by omega
        have HF := hid (rstate HR.out)
        go_wp2_with fail
        refine HF.out.mono ?_
        rintro e w3 ⟨hn3, hr3⟩
        have hL := HL.out
        rw [show m - i = (m - i - 1) + 1 by omega] at hL
        cases hq : stateR zs u with
        | error e =>
          rw [behind_stop _ _ _ _ e hq] at hL
          rw [hq] at hr3
          obtain rfl := hr3
          exact panic_out (P := Tryz.prog) (fn := Tryz.f117) (by rw [← hL]; exact ⟨HN.out.trans hn3, rfl⟩) rfl
        | ok y =>
          obtain ⟨x, u'⟩ := y
          rw [behind_next _ _ _ _ x u' hq] at hL
          rw [hq] at hr3
          obtain ⟨_, rfl, ⟨ve0, rfl, hwf⟩, hr3⟩ := hr3
          have hwf : StateP wr (x, ve0) w3 := hwf
          obtain ⟨b0, l0, c0, rfl⟩ := hwf.1.sl
          have row3 := HRow.out.rn hn3 HPG.out
          have hxl := HX.out
          have hb : i * 5 + 5 ≤ m * 5 := by omega
          obtain ⟨o0, k0⟩ := row3.some (o := i * 5) (by omega)
          obtain ⟨o1, k1⟩ := row3.some (o := i * 5 + 1) (by omega)
          obtain ⟨o2, k2⟩ := row3.some (o := i * 5 + 2) (by omega)
          obtain ⟨o3, k3⟩ := row3.some (o := i * 5 + 3) (by omega)
          obtain ⟨o4, k4⟩ := row3.some (o := i * 5 + 4) (by omega)
          have z0 := row3.fz (i * 5)
          have z1 := row3.fz (i * 5 + 1)
          have z2 := row3.fz (i * 5 + 2)
          have z3 := row3.fz (i * 5 + 3)
          have z4 := row3.fz (i * 5 + 4)
          have kl := row3.lt
          have p1 := row3.put (fun _ => rfl) (i * 5) (.int .i64 x.head) (by omega) (by omega)
          have p2 := p1.1.put (fun _ => rfl) (i * 5 + 1) (.int .i64 x.on.1) (by omega) (by omega)
          have p3 := p2.1.put (fun _ => rfl) (i * 5 + 2) (.int .i64 x.on.2) (by omega) (by omega)
          have p4 := p3.1.put (fun _ => rfl) (i * 5 + 3) (.slice b0 l0 c0) (by omega) (by omega)
          have p5 := p4.1.put (fun _ => rfl) (i * 5 + 4) (.int .i64 x.els) (by omega) (by omega)
          have HR4 := hid (((((hr3.put_far HLT.out (i * 5) (.int .i64 x.head)).put_far HLT.out (i * 5 + 1) (.int .i64 x.on.1)).put_far HLT.out (i * 5 + 2) (.int .i64 x.on.2)).put_far HLT.out (i * 5 + 3) (.slice b0 l0 c0)).put_far HLT.out (i * 5 + 4) (.int .i64 x.els))
          have HN4 := hid ((((((HN.out.trans hn3).put_new HGW.out (i * 5) (.int .i64 x.head)).put_new HGW.out (i * 5 + 1) (.int .i64 x.on.1)).put_new HGW.out (i * 5 + 2) (.int .i64 x.on.2)).put_new HGW.out (i * 5 + 3) (.slice b0 l0 c0)).put_new HGW.out (i * 5 + 4) (.int .i64 x.els))
          have HRow4 : Hid (RowK kStateE 5 51 m (((((w3.setCell ⟨g, i * 5, none⟩ (.int .i64 x.head)).setCell ⟨g, i * 5 + 1, none⟩ (.int .i64 x.on.1)).setCell ⟨g, i * 5 + 2, none⟩ (.int .i64 x.on.2)).setCell ⟨g, i * 5 + 3, none⟩ (.slice b0 l0 c0)).setCell ⟨g, i * 5 + 4, none⟩ (.int .i64 x.els)) g (xs ++ [(x, (Value.slice b0 l0 c0))])) := by
            refine p5.1.more (x, (Value.slice b0 l0 c0)) fun l u hu => ?_
            rw [hxl]
            match l, hu with
            | 0, hu => cases hu; exact ((World.cell?_setCell_other _ _ _ _ (by intro e; simp only [Addr.mk.injEq] at e; omega)).trans ((World.cell?_setCell_other _ _ _ _ (by intro e; simp only [Addr.mk.injEq] at e; omega)).trans ((World.cell?_setCell_other _ _ _ _ (by intro e; simp only [Addr.mk.injEq] at e; omega)).trans ((World.cell?_setCell_other _ _ _ _ (by intro e; simp only [Addr.mk.injEq] at e; omega)).trans p1.2))))
            | 1, hu => cases hu; exact ((World.cell?_setCell_other _ _ _ _ (by intro e; simp only [Addr.mk.injEq] at e; omega)).trans ((World.cell?_setCell_other _ _ _ _ (by intro e; simp only [Addr.mk.injEq] at e; omega)).trans ((World.cell?_setCell_other _ _ _ _ (by intro e; simp only [Addr.mk.injEq] at e; omega)).trans p2.2)))
            | 2, hu => cases hu; exact ((World.cell?_setCell_other _ _ _ _ (by intro e; simp only [Addr.mk.injEq] at e; omega)).trans ((World.cell?_setCell_other _ _ _ _ (by intro e; simp only [Addr.mk.injEq] at e; omega)).trans p3.2))
            | 3, hu => cases hu; exact ((World.cell?_setCell_other _ _ _ _ (by intro e; simp only [Addr.mk.injEq] at e; omega)).trans p4.2)
            | 4, hu => cases hu; exact p5.2
          have HS4 : Hid (W2.heap.size ≤ (((((w3.setCell ⟨g, i * 5, none⟩ (.int .i64 x.head)).setCell ⟨g, i * 5 + 1, none⟩ (.int .i64 x.on.1)).setCell ⟨g, i * 5 + 2, none⟩ (.int .i64 x.on.2)).setCell ⟨g, i * 5 + 3, none⟩ (.slice b0 l0 c0)).setCell ⟨g, i * 5 + 4, none⟩ (.int .i64 x.els)).heap.size) := by
            have h1 : W2.heap.size ≤ w3.heap.size := Nat.le_trans HS.out hn3.size
            show W2.heap.size ≤ (((((w3.setCell ⟨g, i * 5, none⟩ (.int .i64 x.head)).setCell ⟨g, i * 5 + 1, none⟩ (.int .i64 x.on.1)).setCell ⟨g, i * 5 + 2, none⟩ (.int .i64 x.on.2)).setCell ⟨g, i * 5 + 3, none⟩ (.slice b0 l0 c0)).setCell ⟨g, i * 5 + 4, none⟩ (.int .i64 x.els)).heap.size
            simpa [World.setCell] using h1
          have HWF4 : Hid (∀ y ∈ xs ++ [(x, (Value.slice b0 l0 c0))], StateP W2 y (((((w3.setCell ⟨g, i * 5, none⟩ (.int .i64 x.head)).setCell ⟨g, i * 5 + 1, none⟩ (.int .i64 x.on.1)).setCell ⟨g, i * 5 + 2, none⟩ (.int .i64 x.on.2)).setCell ⟨g, i * 5 + 3, none⟩ (.slice b0 l0 c0)).setCell ⟨g, i * 5 + 4, none⟩ (.int .i64 x.els))) := fun y hy => by
            have HH : StateP W2 y w3 := by
              rcases List.mem_append.1 hy with h | h
              · exact (HWF.out y h).keep (rn_keep hn3 HP2.out)
              · simp only [List.mem_cons, List.not_mem_nil, or_false] at h; rw [h]; exact hwf.low HS.out
            exact (((((HH.keep (set_keep HG2.out (i * 5) (.int .i64 x.head))).keep (set_keep HG2.out (i * 5 + 1) (.int .i64 x.on.1))).keep (set_keep HG2.out (i * 5 + 2) (.int .i64 x.on.2))).keep (set_keep HG2.out (i * 5 + 3) (.slice b0 l0 c0))).keep (set_keep HG2.out (i * 5 + 4) (.int .i64 x.els)))
          have HL4 : Hid (behindL ((xs ++ [(x, (Value.slice b0 l0 c0))]).map (·.1)) (listR (stateR zs) (m - (i + 1)) u') = listC zs (stateR zs) t) := by
            show _ = _
            rw [← hL, show m - (i + 1) = m - i - 1 by omega, List.map_append]; rfl
          have HX4 : Hid ((xs ++ [(x, (Value.slice b0 l0 c0))]).length = i + 1) := by show _ = _; rw [List.length_append, HX.out]; rfl
          have hml := HML.out
          clear HF hn3 hr3 hL hq row3 HL HX HWF HRow HR HN hwf p1 p2 p3 p4 p5 hxl HS
          go_wp2
          go_roundw
          case rel => exact ⟨i + 1, u', xs ++ [(x, (Value.slice b0 l0 c0))], vint (by omega), hid hlt, HX4, HWF4, HS4, HL4, HR4, HN4, HRow4⟩
          case measure => simp [intOf]; omega
      · have hli : ¬ (i : Int) < (m : Int) := by omega
        have e3 : m - i = 0 := by omega
        have HE : Hid (RDone p a c zs (StatesV w) (listC zs (stateR zs) t) w (.returned (.slice (some ⟨g, 0, none⟩) m m)) wr) := by
          show RDone _ _ _ _ _ _ _ _ _
          rw [← HL.out, e3]
          have hxl : xs.length = m := by have h1 := HX.out; have h2 := HI.out; omega
          have hrow := HRow.out
          refine ⟨HN.out, _, rfl, ⟨g, xs, ?_, HGW.out, ?_, ?_, ?_⟩, HR.out⟩
          · rw [List.append_nil, List.length_map, hxl]
          · rw [List.append_nil]
          · rw [List.append_nil, List.length_map, hxl]; exact hrow
          · exact fun y hy => (HWF.out y hy).low HW2.out
        clear HL HX HWF HRow HR HN
        go_wp2
        go_ret
        exact HE.out
end Go.Proofs.YtedeiaokohdhpaaGreat
