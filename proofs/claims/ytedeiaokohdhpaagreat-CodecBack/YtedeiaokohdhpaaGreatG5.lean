/- Texts of one chain, joined: ZRd8, ZRd9, ZRdA, ZRdB. -/
import Derived.Test.YtedeiaokohdhpaaGreatG4
import Derived.Test.YtedeiaokohdhpaaGreatG0
import Derived.Deep.CutRange
namespace Go.Proofs.YtedeiaokohdhpaaGreat
open Go.RowKit
theorem Tryz.infoRefR : (Tryz.prog.info? 48).map (fun i => (i.zero, i.size, i.bytes)) = some (some (.agg #[.int .i64 0, .int .i64 0]), 2, 16) := by kernel_rfl
@[reducible] def kRefE (x : Int × Int) : List Value := [.int .i64 x.1, .int .i64 x.2]
def RefsV (w : World) (xs : List (Int × Int)) (w' : World) (v : Value) : Prop := ∃ g, v = .slice (some ⟨g, 0, none⟩) xs.length xs.length ∧ w.heap.size ≤ g ∧ RowK kRefE 2 48 xs.length w' g xs ∧ ∀ x ∈ xs, (Lit.int .i64 x.1).wf = true ∧ (Lit.int .i64 x.2).wf = true
set_option maxHeartbeats 1000000 in
set_option maxRecDepth 20000 in
theorem rlist_ref {p : Nat} {a : Option Addr} {c : Nat} {zs : List Int} {t : Nat} {w : World} (h : Rd p a c zs t w) :
    Calls Tryz.prog 152 #[.pointer (some ⟨p, 0, none⟩), .func (.func 148) #[.pointer (some ⟨p, 0, none⟩)] #[]] w (RDone p a c zs (RefsV w) (listC zs (fieldR zs) t) w) := by
  have HP := hid (rcount h)
  clear h
  go_enter Tryz.func152, Tryz.ntmps152
  go_wp2_with fail
  refine HP.out.mono ?_
  rintro e w1 ⟨hn, hr⟩
  cases hp : cntR zs t with
  | error e =>
    have e1 : listC zs (fieldR zs) t = .error e := by unfold listC; rw [hp]
    rw [hp] at hr
    obtain rfl := hr
    exact panic_out (P := Tryz.prog) (fn := Tryz.f152) (by rw [e1]; exact ⟨hn, rfl⟩) rfl
  | ok x =>
    obtain ⟨m, t1⟩ := x
    have e1 : listC zs (fieldR zs) t = listR (fieldR zs) m t1 := by unfold listC; rw [hp]
    rw [hp] at hr
    obtain ⟨_, rfl, ⟨rfl, hm⟩, hr1⟩ := hr
    obtain ⟨i0, hi, hz0, hz1, hz2⟩ := info_parts Tryz.infoRefR
    have hmle : m ≤ 100000 := Nat.le_trans hm hr1.few
    have hmk : ∀ W : World, (Instr.makeSlice 60 (.int .i64 (m : Int)) (.int .i64 (m : Int))).run Tryz.prog W = .ok (.slice (some ⟨W.heap.size, 0, none⟩) m m) (W.alloc (.cells (madeCells #[.int .i64 0, .int .i64 0] (m * 2)) 48)) := fun W => by
      have h := run_make (P := Tryz.prog) W 60 48 i0 _ Tryz.underlying60 hi hz0 .i64 .i64 (m : Int) (m : Int) (by omega) (by omega) (by rw [hz2]; omega) (by omega)
      rw [show ((m : Int)).toNat = m by omega, hz1] at h
      exact h
    obtain ⟨W2, hW⟩ : ∃ W2, W2 = w1.alloc (.cells (madeCells #[.int .i64 0, .int .i64 0] (m * 2)) 48) := ⟨_, rfl⟩
    obtain ⟨g, hg⟩ : ∃ g, g = w1.heap.size := ⟨_, rfl⟩
    have b2 : Below w1.heap.size w1 W2 := by rw [hW]; exact bl_alloc (Below.refl _ _)
    have R0 : RowK kRefE 2 48 m W2 g [] := by
      rw [hW, hg]
      exact RowK.new kRefE 2 _ m w1 _ (by simp [madeCells])
    have HR := hid (hr1.step b2)
    have HN := hid (hn.trans (Rn.of b2))
    have hpg : p < g := by rw [hg]; exact World.block_lt_of_cell? _ _ hr1.c0
    have HGW : Hid (w.heap.size ≤ g) := by show w.heap.size ≤ g; rw [hg]; exact hn.size
    have HLT : Hid (p < g) := hpg
    have HPG : Hid (g ≠ p) := by show g ≠ p; omega
    have HRow := hid R0
    have EW := hid hW
    have EG := hid hg
    have E1 := hid e1
    have HML := hid hmle
    clear HP hp hr1 hn e1 hm hi hz0 hz1 hz2 hW hg b2 R0 hpg hmle
    go_wp2
    rw [← EW.out, ← EG.out]
    clear EW EG hmk
    go_loopw [12, 6] (fun q _ wr => ∃ (i u : Nat) (xs : List (Int × Int)), q = .int .i64 (i : Int) ∧ Hid (i ≤ m) ∧ Hid (xs.length = i) ∧ Hid (∀ x ∈ xs, (Lit.int .i64 x.1).wf = true ∧ (Lit.int .i64 x.2).wf = true) ∧ Hid (behindL xs (listR (fieldR zs) (m - i) u) = listC zs (fieldR zs) t) ∧ Hid (Rd p a c zs u wr) ∧ Hid (Rn p w wr) ∧ Hid (RowK kRefE 2 48 m wr g xs)) (fun q _ _ => m - (intOf q).toNat)
    case atStart =>
      refine ⟨0, t1, [], rfl, Nat.zero_le _, rfl, fun x hx => (by simp at hx), ?_, HR, HN, HRow⟩
      show behindL [] (listR (fieldR zs) m t1) = _
      rw [E1.out]
      cases listR (fieldR zs) m t1 with
      | error e => rfl
      | ok y => rfl
    case round =>
      obtain ⟨i, u, xs, rfl, HI, HX, HWF, HL, HR, HN, HRow⟩ := hrel
      by_cases hlt : i < m
      · have hli : (i : Int) < (m : Int) := by omega
        have HF := hid (rfield HR.out)
        go_wp2_with fail
        refine HF.out.mono ?_
        rintro e w3 ⟨hn3, hr3⟩
        have hL := HL.out
        rw [show m - i = (m - i - 1) + 1 by omega] at hL
        cases hq : fieldR zs u with
        | error e =>
          rw [behind_stop _ _ _ _ e hq] at hL
          rw [hq] at hr3
          obtain rfl := hr3
          exact panic_out (P := Tryz.prog) (fn := Tryz.f152) (by rw [← hL]; exact ⟨HN.out.trans hn3, rfl⟩) rfl
        | ok y =>
          obtain ⟨x, u'⟩ := y
          rw [behind_next _ _ _ _ x u' hq] at hL
          rw [hq] at hr3
          obtain ⟨_, rfl, ⟨rfl, hwf⟩, hr3⟩ := hr3
          have row3 := HRow.out.rn hn3 HPG.out
          have hxl := HX.out
          have hb : i * 2 + 2 ≤ m * 2 := by omega
          obtain ⟨o0, k0⟩ := row3.some (o := i * 2) (by omega)
          obtain ⟨o1, k1⟩ := row3.some (o := i * 2 + 1) (by omega)
          have z0 := row3.fz (i * 2)
          have z1 := row3.fz (i * 2 + 1)
          have k2 := row3.lt
          have p1 := row3.put (fun _ => rfl) (i * 2) (.int .i64 x.1) (by omega) (by omega)
          have p2 := p1.1.put (fun _ => rfl) (i * 2 + 1) (.int .i64 x.2) (by omega) (by omega)
          have HR4 := hid ((hr3.put_far HLT.out (i * 2) (.int .i64 x.1)).put_far HLT.out (i * 2 + 1) (.int .i64 x.2))
          have HN4 := hid (((HN.out.trans hn3).put_new HGW.out (i * 2) (.int .i64 x.1)).put_new HGW.out (i * 2 + 1) (.int .i64 x.2))
          have HRow4 : Hid (RowK kRefE 2 48 m ((w3.setCell ⟨g, i * 2, none⟩ (.int .i64 x.1)).setCell ⟨g, i * 2 + 1, none⟩ (.int .i64 x.2)) g (xs ++ [x])) := by
            refine p2.1.more x fun l u hu => ?_
            rw [hxl]
            match l, hu with
            | 0, hu => cases hu; exact (World.cell?_setCell_other _ _ _ _ (by intro e; simp only [Addr.mk.injEq] at e; omega)).trans p1.2
            | 1, hu => cases hu; exact p2.2
          have HL4 : Hid (behindL (xs ++ [x]) (listR (fieldR zs) (m - (i + 1)) u') = listC zs (fieldR zs) t) := by
            show _ = _
            rw [← hL, show m - (i + 1) = m - i - 1 by omega]
          have HX4 : Hid ((xs ++ [x]).length = i + 1) := by show _ = _; rw [List.length_append, HX.out]; rfl
          have HWF4 : Hid (∀ y ∈ xs ++ [x], (Lit.int .i64 y.1).wf = true ∧ (Lit.int .i64 y.2).wf = true) := fun y hy => by
            rcases List.mem_append.1 hy with h | h
            · exact HWF.out y h
            · simp only [List.mem_cons, List.not_mem_nil, or_false] at h; rw [h]; exact hwf
          have hml := HML.out
          clear HF hn3 hr3 hL hq row3 HL HX HWF HRow HR HN hwf p1 p2 hxl
          go_wp2
          go_roundw
          case rel => exact ⟨i + 1, u', xs ++ [x], vint (by omega), hid hlt, HX4, HWF4, HL4, HR4, HN4, HRow4⟩
          case measure => simp [intOf]; omega
      · have hli : ¬ (i : Int) < (m : Int) := by omega
        have e3 : m - i = 0 := by omega
        have HE : Hid (RDone p a c zs (RefsV w) (listC zs (fieldR zs) t) w (.returned (.slice (some ⟨g, 0, none⟩) m m)) wr) := by
          show RDone _ _ _ _ _ _ _ _ _
          rw [← HL.out, e3]
          have hxl : xs.length = m := by have h1 := HX.out; have h2 := HI.out; omega
          have hrow := HRow.out
          refine ⟨HN.out, _, rfl, ⟨g, ?_, HGW.out, ?_, ?_⟩, HR.out⟩
          · rw [List.append_nil, hxl]
          · rw [List.append_nil, hxl]; exact hrow
          · rw [List.append_nil]; exact HWF.out
        clear HL HX HWF HRow HR HN
        go_wp2
        go_ret
        exact HE.out
end Go.Proofs.YtedeiaokohdhpaaGreat

namespace Go.Proofs.YtedeiaokohdhpaaGreat
open Go.RowKit
def stepR (zs : List Int) (t : Nat) : Except (Int × Int) ((Int × Int × Int × Int) × Nat) := thenR (numR zs t) fun op u =>
  if op = 1 then thenR (plainI zs u) fun n u' => .ok ((op, 0, 0, n), u') else if op = 2 then thenR (fieldR zs u) fun r u' => .ok ((op, r.1, r.2, 0), u') else .ok ((op, 0, 0, 0), u)
@[reducible] def kPushE (x : Int × Int × Int × Int) : List Value := [.int .i64 x.1, .int .i64 x.2.1, .int .i64 x.2.2.1, .int .u64 x.2.2.2]
def PushOk (x : Int × Int × Int × Int) : Prop := (Lit.int .i64 x.1).wf = true ∧ (Lit.int .i64 x.2.1).wf = true ∧ (Lit.int .i64 x.2.2.1).wf = true ∧ (Lit.int .u64 x.2.2.2).wf = true
def PushV (x : Int × Int × Int × Int) (_ : World) (v : Value) : Prop := v = .agg #[.int .i64 x.1, .int .i64 x.2.1, .int .i64 x.2.2.1, .int .u64 x.2.2.2] ∧ PushOk x
set_option maxHeartbeats 1000000 in
set_option maxRecDepth 20000 in
theorem rstep {p : Nat} {a : Option Addr} {c : Nat} {zs : List Int} {t : Nat} {w : World} (h : Rd p a c zs t w) :
    Calls Tryz.prog 164 #[.pointer (some ⟨p, 0, none⟩)] w (RDone p a c zs PushV (stepR zs t) w) := by
  obtain ⟨W1, eW⟩ : ∃ W1, W1 = w.alloc (.cells #[.int .i64 0, .int .i64 0, .int .i64 0, .int .u64 0] 144) := ⟨_, rfl⟩
  obtain ⟨bx, ebx⟩ : ∃ b, b = w.heap.size := ⟨_, rfl⟩
  have S1 : Hid (RSt p a c zs 144 bx w t [.int .i64 0, .int .i64 0, .int .i64 0, .int .u64 0] W1) := by rw [eW, ebx]; exact RSt.start h _ _
  have HF := hid (rnumber S1.out.rd)
  have EW := hid eW
  have EB := hid ebx
  clear h eW ebx
  go_enter Tryz.func164, Tryz.ntmps164
  go_wp2_with fail
  rw [← EW.out, ← EB.out]
  clear EW EB
  refine HF.out.mono ?_
  rintro e w2 ⟨hn2, hr2⟩
  cases hq1 : numR zs t with
  | error e =>
    rw [hq1] at hr2
    obtain rfl := hr2
    exact panic_out (P := Tryz.prog) (fn := Tryz.f164) (by unfold stepR; rw [hq1]; exact ⟨S1.out.rn.trans hn2, rfl⟩) rfl
  | ok y =>
    obtain ⟨op, u1⟩ := y
    rw [hq1] at hr2
    obtain ⟨_, rfl, ⟨rfl, hw1⟩, hr2⟩ := hr2
    have S2 := S1.out.read hn2 hr2
    have b0 := S2.box.cell (i := 0) rfl
    have z0 := S2.box.fz 0
    have l0 := S2.box.lt
    obtain ⟨W3, eW3⟩ : ∃ W3, W3 = w2.setCell ⟨bx, 0, none⟩ (.int .i64 op) := ⟨_, rfl⟩
    have S3 : Hid (RSt p a c zs 144 bx w u1 [.int .i64 op, .int .i64 0, .int .i64 0, .int .u64 0] W3) := by rw [eW3]; exact S2.put 0 _ rfl (fun n h => by cases h)
    have E3 := hid eW3
    have HW1 := hid hw1
    have E0 : Hid (stepR zs t = if op = 1 then thenR (plainI zs u1) fun n u' => .ok ((op, 0, 0, n), u') else if op = 2 then thenR (fieldR zs u1) fun r u' => .ok ((op, r.1, r.2, 0), u') else .ok ((op, 0, 0, 0), u1)) := by
      show _ = _
      unfold stepR
      rw [hq1]
      rfl
    clear HF hn2 hr2 S1 S2 eW3 hq1 hw1
    go_upto_region 2 with fail
    rw [← E3.out]
    clear E3 b0 z0 l0
    have c0 := S3.out.box.cell (i := 0) rfl
    have wz : (Lit.int .i64 0).wf = true := by decide
    have wu : (Lit.int .u64 0).wf = true := by decide
    have WZ := hid wz
    have WU := hid wu
    clear wz wu
    by_cases h1 : op = 1
    · subst h1
      have E1 : Hid (stepR zs t = thenR (plainI zs u1) fun n u' => .ok ((1, 0, 0, n), u')) := by show _ = _; rw [E0.out, if_pos rfl]
      clear E0
      have HF3 := hid (rplainI S3.out.rd)
      go_wp2_with fail
      refine HF3.out.mono ?_
      rintro e w4 ⟨hn4, hr4⟩
      cases hq2 : plainI zs u1 with
      | error e =>
        rw [hq2] at hr4
        obtain rfl := hr4
        exact panic_out (P := Tryz.prog) (fn := Tryz.f164) (by rw [E1.out, hq2]; exact ⟨S3.out.rn.trans hn4, rfl⟩) rfl
      | ok y =>
        obtain ⟨x2, u2⟩ := y
        rw [hq2] at hr4
        obtain ⟨_, rfl, ⟨rfl, hw2⟩, hr4⟩ := hr4
        have S4 := S3.out.read hn4 hr4
        have S7 := ((((S4.put 3 (.int .u64 x2) rfl (fun n h => by cases h)).put 0 (.int .i64 1) rfl (fun n h => by cases h)).put 1 (.int .i64 0) rfl (fun n h => by cases h)).put 2 (.int .i64 0) rfl (fun n h => by cases h)).put 3 (.int .u64 x2) rfl (fun n h => by cases h)
        have HE : Hid (RDone p a c zs PushV (stepR zs t) w (.returned (.agg #[.int .i64 1, .int .i64 0, .int .i64 0, .int .u64 x2])) (((((w4.setCell ⟨bx, 3, none⟩ (.int .u64 x2)).setCell ⟨bx, 0, none⟩ (.int .i64 1)).setCell ⟨bx, 1, none⟩ (.int .i64 0)).setCell ⟨bx, 2, none⟩ (.int .i64 0)).setCell ⟨bx, 3, none⟩ (.int .u64 x2))) := by
          show RDone _ _ _ _ _ _ _ _ _
          rw [E1.out, hq2]
          exact ⟨S7.rn, _, rfl, ⟨rfl, HW1.out, WZ.out, WZ.out, hw2⟩, S7.rd⟩
        have b0 := S4.box.cell (i := 0) rfl
        have b1 := S4.box.cell (i := 1) rfl
        have b2 := S4.box.cell (i := 2) rfl
        have b3 := S4.box.cell (i := 3) rfl
        have z0 := S4.box.fz 0
        have z1 := S4.box.fz 1
        have z2 := S4.box.fz 2
        have z3 := S4.box.fz 3
        have l0 := S4.box.lt
        clear HF3 hn4 hr4 hq2 hw2 S3 S4 S7 E1 HW1 c0
        go_wp2
        exact bodyPost_ret (v := .agg #[.int .i64 1, .int .i64 0, .int .i64 0, .int .u64 x2]) (by simp [results, Tryz.results164, go_sem, *]) rfl HE.out
    · have d1 : (op == 1) = false := by simpa using h1
      by_cases h2 : op = 2
      · subst h2
        have E1 : Hid (stepR zs t = thenR (fieldR zs u1) fun r u' => .ok ((2, r.1, r.2, 0), u')) := by show _ = _; rw [E0.out, if_neg (by decide), if_pos rfl]
        clear E0
        have HF3 := hid (rfield S3.out.rd)
        go_wp2_with fail
        refine HF3.out.mono ?_
        rintro e w4 ⟨hn4, hr4⟩
        cases hq2 : fieldR zs u1 with
        | error e =>
          rw [hq2] at hr4
          obtain rfl := hr4
          exact panic_out (P := Tryz.prog) (fn := Tryz.f164) (by rw [E1.out, hq2]; exact ⟨S3.out.rn.trans hn4, rfl⟩) rfl
        | ok y =>
          obtain ⟨⟨x2, x3⟩, u2⟩ := y
          rw [hq2] at hr4
          obtain ⟨_, rfl, ⟨rfl, hw2⟩, hr4⟩ := hr4
          dsimp only at hw2
          have S4 := S3.out.read hn4 hr4
          have S7 := (((((S4.put 1 (.int .i64 x2) rfl (fun n h => by cases h)).put 2 (.int .i64 x3) rfl (fun n h => by cases h)).put 0 (.int .i64 2) rfl (fun n h => by cases h)).put 1 (.int .i64 x2) rfl (fun n h => by cases h)).put 2 (.int .i64 x3) rfl (fun n h => by cases h)).put 3 (.int .u64 0) rfl (fun n h => by cases h)
          have HE : Hid (RDone p a c zs PushV (stepR zs t) w (.returned (.agg #[.int .i64 2, .int .i64 x2, .int .i64 x3, .int .u64 0])) ((((((w4.setCell ⟨bx, 1, none⟩ (.int .i64 x2)).setCell ⟨bx, 2, none⟩ (.int .i64 x3)).setCell ⟨bx, 0, none⟩ (.int .i64 2)).setCell ⟨bx, 1, none⟩ (.int .i64 x2)).setCell ⟨bx, 2, none⟩ (.int .i64 x3)).setCell ⟨bx, 3, none⟩ (.int .u64 0))) := by
            show RDone _ _ _ _ _ _ _ _ _
            rw [E1.out, hq2]
            exact ⟨S7.rn, _, rfl, ⟨rfl, HW1.out, hw2.1, hw2.2, WU.out⟩, S7.rd⟩
          have b0 := S4.box.cell (i := 0) rfl
          have b1 := S4.box.cell (i := 1) rfl
          have b2 := S4.box.cell (i := 2) rfl
          have b3 := S4.box.cell (i := 3) rfl
          have z0 := S4.box.fz 0
          have z1 := S4.box.fz 1
          have z2 := S4.box.fz 2
          have z3 := S4.box.fz 3
          have l0 := S4.box.lt
          have G7 := hid (And.intro (S7.box.cell (i := 0) rfl) (And.intro (S7.box.cell (i := 1) rfl) (And.intro (S7.box.cell (i := 2) rfl) (S7.box.cell (i := 3) rfl))))
          clear HF3 hn4 hr4 hq2 hw2 S3 S4 S7 E1 HW1 c0
          go_wp2
          obtain ⟨g0, g1, g2, g3⟩ := G7.out
          clear b0 b1 b2 b3 z0 z1 z2 z3
          exact bodyPost_ret (v := .agg #[.int .i64 2, .int .i64 x2, .int .i64 x3, .int .u64 0]) (by simp [results, Tryz.results164, go_sem, g0, g1, g2, g3]) rfl HE.out
      · have d2 : (op == 2) = false := by simpa using h2
        have S4 := S3.out
        have S7 := (((S4.put 0 (.int .i64 op) rfl (fun n h => by cases h)).put 1 (.int .i64 0) rfl (fun n h => by cases h)).put 2 (.int .i64 0) rfl (fun n h => by cases h)).put 3 (.int .u64 0) rfl (fun n h => by cases h)
        have HE : Hid (RDone p a c zs PushV (stepR zs t) w (.returned (.agg #[.int .i64 op, .int .i64 0, .int .i64 0, .int .u64 0])) ((((W3.setCell ⟨bx, 0, none⟩ (.int .i64 op)).setCell ⟨bx, 1, none⟩ (.int .i64 0)).setCell ⟨bx, 2, none⟩ (.int .i64 0)).setCell ⟨bx, 3, none⟩ (.int .u64 0))) := by
          show RDone _ _ _ _ _ _ _ _ _
          rw [E0.out, if_neg h1, if_neg h2]
          exact ⟨S7.rn, _, rfl, ⟨rfl, HW1.out, WZ.out, WZ.out, WU.out⟩, S7.rd⟩
        have b0 := S4.box.cell (i := 0) rfl
        have b1 := S4.box.cell (i := 1) rfl
        have b2 := S4.box.cell (i := 2) rfl
        have b3 := S4.box.cell (i := 3) rfl
        have z0 := S4.box.fz 0
        have z1 := S4.box.fz 1
        have z2 := S4.box.fz 2
        have z3 := S4.box.fz 3
        have l0 := S4.box.lt
        clear S3 S4 S7 E0 HW1 c0 h1 h2
        go_wp2
        exact bodyPost_ret (v := .agg #[.int .i64 op, .int .i64 0, .int .i64 0, .int .u64 0]) (by simp [results, Tryz.results164, go_sem, *]) rfl HE.out
end Go.Proofs.YtedeiaokohdhpaaGreat

namespace Go.Proofs.YtedeiaokohdhpaaGreat
open Go.RowKit
theorem Tryz.infoPushR : (Tryz.prog.info? 144).map (fun i => (i.zero, i.size, i.bytes)) = some (some (.agg #[.int .i64 0, .int .i64 0, .int .i64 0, .int .u64 0]), 4, 32) := by kernel_rfl
def PushsV (w : World) (xs : List (Int × Int × Int × Int)) (w' : World) (v : Value) : Prop := ∃ g, v = .slice (some ⟨g, 0, none⟩) xs.length xs.length ∧ w.heap.size ≤ g ∧ RowK kPushE 4 144 xs.length w' g xs ∧ ∀ x ∈ xs, PushOk x
set_option maxHeartbeats 1000000 in
set_option maxRecDepth 20000 in
theorem rlist_push {p : Nat} {a : Option Addr} {c : Nat} {zs : List Int} {t : Nat} {w : World} (h : Rd p a c zs t w) :
    Calls Tryz.prog 163 #[.pointer (some ⟨p, 0, none⟩), .func (.func 164) #[.pointer (some ⟨p, 0, none⟩)] #[]] w (RDone p a c zs (PushsV w) (listC zs (stepR zs) t) w) := by
  have HP := hid (rcount h)
  clear h
  go_enter Tryz.func163, Tryz.ntmps163
  go_wp2_with fail
  refine HP.out.mono ?_
  rintro e w1 ⟨hn, hr⟩
  cases hp : cntR zs t with
  | error e =>
    have e1 : listC zs (stepR zs) t = .error e := by unfold listC; rw [hp]
    rw [hp] at hr
    obtain rfl := hr
    exact panic_out (P := Tryz.prog) (fn := Tryz.f163) (by rw [e1]; exact ⟨hn, rfl⟩) rfl
  | ok x =>
    obtain ⟨m, t1⟩ := x
    have e1 : listC zs (stepR zs) t = listR (stepR zs) m t1 := by unfold listC; rw [hp]
    rw [hp] at hr
    obtain ⟨_, rfl, ⟨rfl, hm⟩, hr1⟩ := hr
    obtain ⟨i0, hi, hz0, hz1, hz2⟩ := info_parts Tryz.infoPushR
    have hmle : m ≤ 100000 := Nat.le_trans hm hr1.few
    have hmk : ∀ W : World, (Instr.makeSlice 57 (.int .i64 (m : Int)) (.int .i64 (m : Int))).run Tryz.prog W = .ok (.slice (some ⟨W.heap.size, 0, none⟩) m m) (W.alloc (.cells (madeCells #[.int .i64 0, .int .i64 0, .int .i64 0, .int .u64 0] (m * 4)) 144)) := fun W => by
      have h := run_make (P := Tryz.prog) W 57 144 i0 _ Tryz.underlying57 hi hz0 .i64 .i64 (m : Int) (m : Int) (by omega) (by omega) (by rw [hz2]; omega) (by omega)
      rw [show ((m : Int)).toNat = m by omega, hz1] at h
      exact h
    obtain ⟨W2, hW⟩ : ∃ W2, W2 = w1.alloc (.cells (madeCells #[.int .i64 0, .int .i64 0, .int .i64 0, .int .u64 0] (m * 4)) 144) := ⟨_, rfl⟩
    obtain ⟨g, hg⟩ : ∃ g, g = w1.heap.size := ⟨_, rfl⟩
    have b2 : Below w1.heap.size w1 W2 := by rw [hW]; exact bl_alloc (Below.refl _ _)
    have R0 : RowK kPushE 4 144 m W2 g [] := by
      rw [hW, hg]
      exact RowK.new kPushE 4 _ m w1 _ (by simp [madeCells])
    have HR := hid (hr1.step b2)
    have HN := hid (hn.trans (Rn.of b2))
    have hpg : p < g := by rw [hg]; exact World.block_lt_of_cell? _ _ hr1.c0
    have HGW : Hid (w.heap.size ≤ g) := by show w.heap.size ≤ g; rw [hg]; exact hn.size
    have HLT : Hid (p < g) := hpg
    have HPG : Hid (g ≠ p) := by show g ≠ p; omega
    have HRow := hid R0
    have EW := hid hW
    have EG := hid hg
    have E1 := hid e1
    have HML := hid hmle
    clear HP hp hr1 hn e1 hm hi hz0 hz1 hz2 hW hg b2 R0 hpg hmle
    go_wp2
    rw [← EW.out, ← EG.out]
    clear EW EG hmk
    go_loopw [12, 6] (fun q _ wr => ∃ (i u : Nat) (xs : List (Int × Int × Int × Int)), q = .int .i64 (i : Int) ∧ Hid (i ≤ m) ∧ Hid (xs.length = i) ∧ Hid (∀ x ∈ xs, PushOk x) ∧ Hid (behindL xs (listR (stepR zs) (m - i) u) = listC zs (stepR zs) t) ∧ Hid (Rd p a c zs u wr) ∧ Hid (Rn p w wr) ∧ Hid (RowK kPushE 4 144 m wr g xs)) (fun q _ _ => m - (intOf q).toNat)
    case atStart =>
      refine ⟨0, t1, [], rfl, Nat.zero_le _, rfl, fun x hx => (by simp at hx), ?_, HR, HN, HRow⟩
      show behindL [] (listR (stepR zs) m t1) = _
      rw [E1.out]
      cases listR (stepR zs) m t1 with
      | error e => rfl
      | ok y => rfl
    case round =>
      obtain ⟨i, u, xs, rfl, HI, HX, HWF, HL, HR, HN, HRow⟩ := hrel
      by_cases hlt : i < m
      · have hli : (i : Int) < (m : Int) := by omega
        have HF := hid (rstep HR.out)
        go_wp2_with fail
        refine HF.out.mono ?_
        rintro e w3 ⟨hn3, hr3⟩
        have hL := HL.out
        rw [show m - i = (m - i - 1) + 1 by omega] at hL
        cases hq : stepR zs u with
        | error e =>
          rw [behind_stop _ _ _ _ e hq] at hL
          rw [hq] at hr3
          obtain rfl := hr3
          exact panic_out (P := Tryz.prog) (fn := Tryz.f163) (by rw [← hL]; exact ⟨HN.out.trans hn3, rfl⟩) rfl
        | ok y =>
          obtain ⟨x, u'⟩ := y
          rw [behind_next _ _ _ _ x u' hq] at hL
          rw [hq] at hr3
          obtain ⟨_, rfl, ⟨rfl, hwf⟩, hr3⟩ := hr3
          have row3 := HRow.out.rn hn3 HPG.out
          have hxl := HX.out
          have hb : i * 4 + 4 ≤ m * 4 := by omega
          obtain ⟨o0, k0⟩ := row3.some (o := i * 4) (by omega)
          obtain ⟨o1, k1⟩ := row3.some (o := i * 4 + 1) (by omega)
          obtain ⟨o2, k2⟩ := row3.some (o := i * 4 + 2) (by omega)
          obtain ⟨o3, k3⟩ := row3.some (o := i * 4 + 3) (by omega)
          have z0 := row3.fz (i * 4)
          have z1 := row3.fz (i * 4 + 1)
          have z2 := row3.fz (i * 4 + 2)
          have z3 := row3.fz (i * 4 + 3)
          have kl := row3.lt
          have p1 := row3.put (fun _ => rfl) (i * 4) (.int .i64 x.1) (by omega) (by omega)
          have p2 := p1.1.put (fun _ => rfl) (i * 4 + 1) (.int .i64 x.2.1) (by omega) (by omega)
          have p3 := p2.1.put (fun _ => rfl) (i * 4 + 2) (.int .i64 x.2.2.1) (by omega) (by omega)
          have p4 := p3.1.put (fun _ => rfl) (i * 4 + 3) (.int .u64 x.2.2.2) (by omega) (by omega)
          have HR4 := hid ((((hr3.put_far HLT.out (i * 4) (.int .i64 x.1)).put_far HLT.out (i * 4 + 1) (.int .i64 x.2.1)).put_far HLT.out (i * 4 + 2) (.int .i64 x.2.2.1)).put_far HLT.out (i * 4 + 3) (.int .u64 x.2.2.2))
          have HN4 := hid (((((HN.out.trans hn3).put_new HGW.out (i * 4) (.int .i64 x.1)).put_new HGW.out (i * 4 + 1) (.int .i64 x.2.1)).put_new HGW.out (i * 4 + 2) (.int .i64 x.2.2.1)).put_new HGW.out (i * 4 + 3) (.int .u64 x.2.2.2))
          have HRow4 : Hid (RowK kPushE 4 144 m ((((w3.setCell ⟨g, i * 4, none⟩ (.int .i64 x.1)).setCell ⟨g, i * 4 + 1, none⟩ (.int .i64 x.2.1)).setCell ⟨g, i * 4 + 2, none⟩ (.int .i64 x.2.2.1)).setCell ⟨g, i * 4 + 3, none⟩ (.int .u64 x.2.2.2)) g (xs ++ [x])) := by
            refine p4.1.more x fun l u hu => ?_
            rw [hxl]
            match l, hu with
            | 0, hu => cases hu; exact ((World.cell?_setCell_other _ _ _ _ (by intro e; simp only [Addr.mk.injEq] at e; omega)).trans ((World.cell?_setCell_other _ _ _ _ (by intro e; simp only [Addr.mk.injEq] at e; omega)).trans ((World.cell?_setCell_other _ _ _ _ (by intro e; simp only [Addr.mk.injEq] at e; omega)).trans p1.2)))
            | 1, hu => cases hu; exact ((World.cell?_setCell_other _ _ _ _ (by intro e; simp only [Addr.mk.injEq] at e; omega)).trans ((World.cell?_setCell_other _ _ _ _ (by intro e; simp only [Addr.mk.injEq] at e; omega)).trans p2.2))
            | 2, hu => cases hu; exact ((World.cell?_setCell_other _ _ _ _ (by intro e; simp only [Addr.mk.injEq] at e; omega)).trans p3.2)
            | 3, hu => cases hu; exact p4.2
          have HL4 : Hid (behindL (xs ++ [x]) (listR (stepR zs) (m - (i + 1)) u') = listC zs (stepR zs) t) := by
            show _ = _
            rw [← hL, show m - (i + 1) = m - i - 1 by omega]
          have HX4 : Hid ((xs ++ [x]).length = i + 1) := by show _ = _; rw [List.length_append, HX.out]; rfl
          have HWF4 : Hid (∀ y ∈ xs ++ [x], PushOk y) := fun y hy => by
            rcases List.mem_append.1 hy with h | h
            · exact HWF.out y h
            · simp only [List.mem_cons, List.not_mem_nil, or_false] at h; rw [h]; exact hwf
          have hml := HML.out
          clear HF hn3 hr3 hL hq row3 HL HX HWF HRow HR HN hwf p1 p2 p3 p4 hxl
          go_wp2
          go_roundw
          case rel => exact ⟨i + 1, u', xs ++ [x], vint (by omega), hid hlt, HX4, HWF4, HL4, HR4, HN4, HRow4⟩
          case measure => simp [intOf]; omega
      · have hli : ¬ (i : Int) < (m : Int) := by omega
        have e3 : m - i = 0 := by omega
        have HE : Hid (RDone p a c zs (PushsV w) (listC zs (stepR zs) t) w (.returned (.slice (some ⟨g, 0, none⟩) m m)) wr) := by
          show RDone _ _ _ _ _ _ _ _ _
          rw [← HL.out, e3]
          have hxl : xs.length = m := by have h1 := HX.out; have h2 := HI.out; omega
          have hrow := HRow.out
          refine ⟨HN.out, _, rfl, ⟨g, ?_, HGW.out, ?_, ?_⟩, HR.out⟩
          · rw [List.append_nil, hxl]
          · rw [List.append_nil, hxl]; exact hrow
          · rw [List.append_nil]; exact HWF.out
        clear HL HX HWF HRow HR HN
        go_wp2
        go_ret
        exact HE.out
end Go.Proofs.YtedeiaokohdhpaaGreat

namespace Go.Proofs.YtedeiaokohdhpaaGreat
open Go.RowKit
set_option maxHeartbeats 1000000 in
set_option maxRecDepth 20000 in
theorem rtree {p : Nat} {a : Option Addr} {c : Nat} {zs : List Int} {t : Nat} {w : World} (h : Rd p a c zs t w) :
    Calls Tryz.prog 154 #[.pointer (some ⟨p, 0, none⟩)] w (RDone p a c zs (PushsV w) (listC zs (stepR zs) t) w) := by
  have HL := hid (rlist_push h)
  clear h
  go_enter Tryz.func154, Tryz.ntmps154
  go_wp2_with fail
  refine HL.out.mono ?_
  rintro e w2 ⟨hn2, hr2⟩
  cases hq : listC zs (stepR zs) t with
  | error e =>
    rw [hq] at hr2
    obtain rfl := hr2
    exact panic_out (P := Tryz.prog) (fn := Tryz.f154) (by exact ⟨hn2, rfl⟩) rfl
  | ok y =>
    obtain ⟨xs, u⟩ := y
    rw [hq] at hr2
    obtain ⟨v, rfl, hv, hd⟩ := hr2
    have HE : Hid (RDone p a c zs (PushsV w) (listC zs (stepR zs) t) w (.returned v) w2) := by show RDone _ _ _ _ _ _ _ _ _; rw [hq]; exact ⟨hn2, v, rfl, hv, hd⟩
    clear hn2 hv hd hq HL
    go_wp2
    exact bodyPost_ret (v := v) (by simp [results, Tryz.results154, go_sem]) rfl HE.out
def HeadV (w : World) (xs : List Int) (w' : World) (v : Value) : Prop := ∃ v', v = .agg #[v'] ∧ IntsV w xs w' v'
set_option maxHeartbeats 1000000 in
set_option maxRecDepth 20000 in
theorem rheader {p : Nat} {a : Option Addr} {c : Nat} {zs : List Int} {t : Nat} {w : World} (h : Rd p a c zs t w) :
    Calls Tryz.prog 114 #[.pointer (some ⟨p, 0, none⟩)] w (RDone p a c zs (HeadV w) (listC zs (numR zs) t) w) := by
  obtain ⟨W1, eW⟩ : ∃ W1, W1 = w.alloc (.cells #[.slice none 0 0] 53) := ⟨_, rfl⟩
  obtain ⟨bx, ebx⟩ : ∃ b, b = w.heap.size := ⟨_, rfl⟩
  have S1 : Hid (RSt p a c zs 53 bx w t [.slice none 0 0] W1) := by rw [eW, ebx]; exact RSt.start h _ _
  have HL := hid (rlist_int S1.out.rd)
  have EW := hid eW
  have EB := hid ebx
  clear h eW ebx
  go_enter Tryz.func114, Tryz.ntmps114
  go_wp2_with fail
  rw [← EW.out, ← EB.out]
  clear EW EB
  refine HL.out.mono ?_
  rintro e w2 ⟨hn2, hr2⟩
  cases hq : listC zs (numR zs) t with
  | error e =>
    rw [hq] at hr2
    obtain rfl := hr2
    exact panic_out (P := Tryz.prog) (fn := Tryz.f114) (by exact ⟨S1.out.rn.trans hn2, rfl⟩) rfl
  | ok y =>
    obtain ⟨xs, u⟩ := y
    rw [hq] at hr2
    obtain ⟨v, rfl, ⟨g, rfl, hg, hrow, hwf⟩, hd⟩ := hr2
    have S2 := S1.out.read hn2 hd
    have b0 := S2.box.cell (i := 0) rfl
    have z0 := S2.box.fz 0
    have l0 := S2.box.lt
    have S3 := S2.put 0 (.slice (some ⟨g, 0, none⟩) xs.length xs.length) rfl (fun n h => by cases h)
    have hgb : g ≠ bx := by have := S1.out.box.lt; omega
    have hgw : w.heap.size ≤ g := Nat.le_trans S1.out.rn.size hg
    have HE : Hid (RDone p a c zs (HeadV w) (listC zs (numR zs) t) w (.returned (.agg #[.slice (some ⟨g, 0, none⟩) xs.length xs.length])) (w2.setCell ⟨bx, 0, none⟩ (.slice (some ⟨g, 0, none⟩) xs.length xs.length))) := by
      show RDone _ _ _ _ _ _ _ _ _
      rw [hq]
      exact ⟨S3.rn, _, rfl, ⟨_, rfl, g, rfl, hgw, (Below.heap_setCell _ _ _ _ (by show g ≠ bx; exact hgb)).trans hrow, hwf⟩, S3.rd⟩
    clear hn2 hd hq HL hrow hwf S1 S2 S3 hg hgb hgw
    go_wp2
    exact bodyPost_ret (v := .agg #[.slice (some ⟨g, 0, none⟩) xs.length xs.length]) (by simp [results, Tryz.results114, go_sem, *]) rfl HE.out
end Go.Proofs.YtedeiaokohdhpaaGreat
