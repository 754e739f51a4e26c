/- Texts of one chain, joined: ZRd4, ZRd5, ZRd6, ZRd7. -/
import Derived.Test.YtedeiaokohdhpaaGreatG3
import Derived.Test.YtedeiaokohdhpaaGreatG0
namespace Go.Proofs.YtedeiaokohdhpaaGreat
open Go.RowKit
def listR {α : Type} (f : Nat → Except (Int × Int) (α × Nat)) : Nat → Nat → Except (Int × Int) (List α × Nat)
  | 0, t => .ok ([], t)
  | n + 1, t => match f t with
    | .error e => .error e
    | .ok (x, t') => match listR f n t' with
      | .error e => .error e
      | .ok (l, u) => .ok (x :: l, u)
def listC {α : Type} (zs : List Int) (f : Nat → Except (Int × Int) (α × Nat)) (t : Nat) : Except (Int × Int) (List α × Nat) := match cntR zs t with
  | .error e => .error e
  | .ok (n, t') => listR f n t'
def behindL {α : Type} (xs : List α) : Except (Int × Int) (List α × Nat) → Except (Int × Int) (List α × Nat)
  | .error e => .error e
  | .ok (l, u) => .ok (xs ++ l, u)
theorem behind_next {α : Type} (f : Nat → Except (Int × Int) (α × Nat)) (xs : List α) (n t : Nat) (x : α) (t' : Nat) (h : f t = .ok (x, t')) : behindL xs (listR f (n + 1) t) = behindL (xs ++ [x]) (listR f n t') := by
  simp only [listR, h]
  cases listR f n t' with
  | error e => rfl
  | ok y => simp [behindL]
theorem behind_stop {α : Type} (f : Nat → Except (Int × Int) (α × Nat)) (xs : List α) (n t : Nat) (e : Int × Int) (h : f t = .error e) : behindL xs (listR f (n + 1) t) = .error e := by
  simp only [listR, h, behindL]
def RowI (k : IntKind) (T : TypeId) (w : World) (g : Nat) (xs : List Int) : Prop := w.heap[g]? = some (.cells (xs.map (Value.int k)).toArray T (0, 0))
theorem RowI.cell {k : IntKind} {T : TypeId} {w : World} {g : Nat} {xs : List Int} (h : RowI k T w g xs) {i : Nat} {x : Int} (hx : xs[i]? = some x) : w.cell? ⟨g, i, none⟩ = some (.int k x) := by
  unfold RowI at h
  simp [World.cell?, h, hx]
theorem RowI.fz {k : IntKind} {T : TypeId} {w : World} {g : Nat} {xs : List Int} (h : RowI k T w g xs) (i : Nat) : w.frozen? ⟨g, i, none⟩ = false := by
  unfold RowI at h
  simp [World.frozen?, h]
theorem RowI.put {k : IntKind} {T : TypeId} {w : World} {g : Nat} {xs : List Int} (h : RowI k T w g xs) {i : Nat} (x : Int) : RowI k T (w.setCell ⟨g, i, none⟩ (.int k x)) g (xs.set i x) := by
  unfold RowI at h ⊢
  simp [World.setCell, Array.getElem?_modify, h, List.map_set]
theorem RowI.rn {k : IntKind} {T : TypeId} {w w' : World} {g p : Nat} {xs : List Int} (h : RowI k T w g xs) (r : Rn p w w') (hg : g ≠ p) : RowI k T w' g xs := by
  unfold RowI at h ⊢
  rw [r.block g (Array.getElem?_eq_some_iff.1 h).1 hg]
  exact h
theorem Rn.put_new {p g : Nat} {w w' : World} (h : Rn p w w') (hg : w.heap.size ≤ g) (o : Nat) (v : Value) : Rn p w (w'.setCell ⟨g, o, none⟩ v) :=
  ⟨h.os, h.tape, h.output, by simpa [World.setCell] using h.size, fun k hk hp => (Below.heap_setCell _ _ _ _ (by show k ≠ g; omega)).trans (h.block k hk hp)⟩
theorem Has.off_kind {k k' : IntKind} {w : World} {a : Option Addr} {len : Nat} {zs : List Int} (h : Has k w a len zs) (hk : k ≠ k') {q : Addr} {x : Int} (hq : w.cell? q = Option.some (.int k' x)) (v : Value) : Has k (w.setCell q v) a len zs := by
  refine ⟨h.1, h.2.1, ?_⟩
  rcases h.2.2 with h | ⟨b, off, rfl, hlt, hc⟩
  · exact .inl h
  · refine .inr ⟨b, off, rfl, by simpa [World.setCell] using hlt, fun i hi => ?_⟩
    rw [World.cell?_setCell_other _ _ _ _ (by
      intro e
      rw [e, hc i hi] at hq
      simp only [Option.some.injEq, Value.int.injEq] at hq
      exact hk hq.1)]
    exact hc i hi
theorem Rd.put_row {p : Nat} {a : Option Addr} {c : Nat} {zs : List Int} {t : Nat} {w : World} (h : Rd p a c zs t w) {k : IntKind} (hk : .u8 ≠ k) {g o : Nat} {x : Int} (hx : w.cell? ⟨g, o, none⟩ = some (.int k x)) (hg : g ≠ p) (v : Value) : Rd p a c zs t (w.setCell ⟨g, o, none⟩ v) :=
  ⟨(World.cell?_setCell_other _ _ _ _ (by intro e; simp only [Addr.mk.injEq] at e; omega)).trans h.c0, (World.cell?_setCell_other _ _ _ _ (by intro e; simp only [Addr.mk.injEq] at e; omega)).trans h.c1, (World.frozen?_setCell _ _ _ _).trans h.fz, h.hz.off_kind hk hx _, h.le, h.few, h.lo⟩
def IntsV (w : World) (xs : List Int) (w' : World) (v : Value) : Prop := ∃ g, v = .slice (some ⟨g, 0, none⟩) xs.length xs.length ∧ w.heap.size ≤ g ∧ RowI .i64 3 w' g xs ∧ ∀ x ∈ xs, (Lit.int .i64 x).wf = true
set_option maxHeartbeats 1000000 in
set_option maxRecDepth 20000 in
theorem rlist_int {p : Nat} {a : Option Addr} {c : Nat} {zs : List Int} {t : Nat} {w : World} (h : Rd p a c zs t w) :
    Calls Tryz.prog 115 #[.pointer (some ⟨p, 0, none⟩), .func (.func 116) #[.pointer (some ⟨p, 0, none⟩)] #[]] w (RDone p a c zs (IntsV w) (listC zs (numR zs) t) w) := by
  have HP := hid (rcount h)
  clear h
  go_enter Tryz.func115, Tryz.ntmps115
  go_wp2_with fail
  refine HP.out.mono ?_
  rintro e w1 ⟨hn, hr⟩
  cases hp : cntR zs t with
  | error e =>
    have e1 : listC zs (numR zs) t = .error e := by unfold listC; rw [hp]
    rw [hp] at hr
    obtain rfl := hr
    exact panic_out (P := Tryz.prog) (fn := Tryz.f115) (by rw [e1]; exact ⟨hn, rfl⟩) rfl
  | ok x =>
    obtain ⟨m, t1⟩ := x
    have e1 : listC zs (numR zs) t = listR (numR zs) m t1 := by unfold listC; rw [hp]
    rw [hp] at hr
    obtain ⟨_, rfl, ⟨rfl, hm⟩, hr1⟩ := hr
    obtain ⟨i0, hi, hz0, hz1, hz2⟩ := info_parts Tryz.infoInt
    have hmle : m ≤ 100000 := Nat.le_trans hm hr1.few
    have hmk : ∀ W : World, (Instr.makeSlice 23 (.int .i64 (m : Int)) (.int .i64 (m : Int))).run Tryz.prog W = .ok (.slice (some ⟨W.heap.size, 0, none⟩) m m) (W.alloc (.cells (Array.replicate m (.int .i64 0)) 3)) := fun W => by
      have h := run_make (P := Tryz.prog) W 23 3 i0 _ Tryz.underlying23 hi hz0 .i64 .i64 (m : Int) (m : Int) (by omega) (by omega) (by rw [hz2]; omega) (by omega)
      rw [show ((m : Int)).toNat = m by omega, hz1] at h
      have emk : madeCells #[Value.int .i64 0] m = Array.replicate m (Value.int .i64 0) := Array.ext' (by rw [toList_madeCells_one]; simp)
      rw [← emk]
      rw [Nat.mul_one] at h
      exact h
    obtain ⟨W2, hW⟩ : ∃ W2, W2 = w1.alloc (.cells (Array.replicate m (.int .i64 0)) 3) := ⟨_, rfl⟩
    obtain ⟨g, hg⟩ : ∃ g, g = w1.heap.size := ⟨_, rfl⟩
    have b2 : Below w1.heap.size w1 W2 := by rw [hW]; exact bl_alloc (Below.refl _ _)
    have R0 : RowI .i64 3 W2 g (List.replicate m 0) := by
      unfold RowI
      rw [hW, hg, List.map_replicate, List.toArray_replicate]
      show (w1.heap.push _)[w1.heap.size]? = _
      rw [Array.getElem?_push_size]
    have HR := hid (hr1.step b2)
    have HN := hid (hn.trans (Rn.of b2))
    have hpg : p < g := by rw [hg]; exact World.block_lt_of_cell? _ _ hr1.c0
    have HGW : Hid (w.heap.size ≤ g) := by show w.heap.size ≤ g; rw [hg]; exact hn.size
    have HPG : Hid (g ≠ p) := by show g ≠ p; omega
    have HRow := hid R0
    have EW := hid hW
    have EG := hid hg
    have E1 := hid e1
    have HML := hid hmle
    clear HP hp hr1 hn e1 hm hi hz0 hz1 hz2 hW hg b2 R0 hpg hmle
    go_wp2
    rw [← EW.out, ← EG.out]
    clear EW EG hmk
    go_loopw [12, 6] (fun q _ wr => ∃ (i u : Nat) (xs : List Int), q = .int .i64 (i : Int) ∧ Hid (i ≤ m) ∧ Hid (xs.length = i) ∧ Hid (∀ x ∈ xs, (Lit.int .i64 x).wf = true) ∧ Hid (behindL xs (listR (numR zs) (m - i) u) = listC zs (numR zs) t) ∧ Hid (Rd p a c zs u wr) ∧ Hid (Rn p w wr) ∧ Hid (RowI .i64 3 wr g (xs ++ List.replicate (m - i) 0))) (fun q _ _ => m - (intOf q).toNat)
    case atStart =>
      refine ⟨0, t1, [], rfl, Nat.zero_le _, rfl, fun x hx => (by simp at hx), ?_, HR, HN, by simpa [Hid] using HRow.out⟩
      show behindL [] (listR (numR zs) m t1) = _
      rw [E1.out]
      cases listR (numR zs) m t1 with
      | error e => rfl
      | ok y => rfl
    case round =>
      obtain ⟨i, u, xs, rfl, HI, HX, HWF, HL, HR, HN, HRow⟩ := hrel
      by_cases hlt : i < m
      · have hli : (i : Int) < (m : Int) := by omega
        have HF := hid (rnumber HR.out)
        go_wp2_with fail
        refine HF.out.mono ?_
        rintro e w3 ⟨hn3, hr3⟩
        have hL := HL.out
        rw [show m - i = (m - i - 1) + 1 by omega] at hL
        cases hq : numR zs u with
        | error e =>
          rw [behind_stop _ _ _ _ e hq] at hL
          rw [hq] at hr3
          obtain rfl := hr3
          exact panic_out (P := Tryz.prog) (fn := Tryz.f115) (by rw [← hL]; exact ⟨HN.out.trans hn3, rfl⟩) rfl
        | ok y =>
          obtain ⟨x, u'⟩ := y
          rw [behind_next _ _ _ _ x u' hq] at hL
          rw [hq] at hr3
          obtain ⟨_, rfl, ⟨rfl, hwf⟩, hr3⟩ := hr3
          have row3 := HRow.out.rn hn3 HPG.out
          have hx : (xs ++ List.replicate (m - i) 0)[i]? = some 0 := by
            rw [List.getElem?_append_right (by have := HX.out; omega), List.getElem?_replicate, if_pos (by have := HX.out; omega)]
          have k0 := row3.cell hx
          have k1 := row3.fz i
          have k2 : g < w3.heap.size := World.block_lt_of_cell? _ _ k0
          have HR4 := hid (hr3.put_row (by decide) k0 HPG.out (.int .i64 x))
          have HN4 := hid ((HN.out.trans hn3).put_new HGW.out i (.int .i64 x))
          have HRow4 : Hid (RowI .i64 3 (w3.setCell ⟨g, i, none⟩ (.int .i64 x)) g ((xs ++ [x]) ++ List.replicate (m - (i + 1)) 0)) := by
            have h1 := row3.put (i := i) x
            have h2 : (xs ++ List.replicate (m - i) 0).set i x = (xs ++ [x]) ++ List.replicate (m - (i + 1)) 0 := by
              rw [List.set_append_right _ _ (by have := HX.out; omega), show i - xs.length = 0 by have := HX.out; omega, show m - i = (m - (i + 1)) + 1 by omega, List.replicate_succ, List.set_cons_zero]
              simp
            rw [h2] at h1
            exact h1
          have HL4 : Hid (behindL (xs ++ [x]) (listR (numR zs) (m - (i + 1)) u') = listC zs (numR zs) t) := by
            show _ = _
            rw [← hL, show m - (i + 1) = m - i - 1 by omega]
          have HX4 : Hid ((xs ++ [x]).length = i + 1) := by show _ = _; rw [List.length_append, HX.out]; rfl
          have HWF4 : Hid (∀ y ∈ xs ++ [x], (Lit.int .i64 y).wf = true) := fun y hy => by
            rcases List.mem_append.1 hy with h | h
            · exact HWF.out y h
            · simp only [List.mem_cons, List.not_mem_nil, or_false] at h; rw [h]; exact hwf
          have hml := HML.out
          clear HF hn3 hr3 hL hq row3 hx HL HX HWF HRow HR HN hwf
          go_wp2
          go_roundw
          case rel => exact ⟨i + 1, u', xs ++ [x], vint (by omega), hid hlt, HX4, HWF4, HL4, HR4, HN4, HRow4⟩
          case measure => simp [intOf]; omega
      · have hli : ¬ (i : Int) < (m : Int) := by omega
        have e3 : m - i = 0 := by omega
        have HE : Hid (RDone p a c zs (IntsV w) (listC zs (numR zs) t) w (.returned (.slice (some ⟨g, 0, none⟩) m m)) wr) := by
          show RDone _ _ _ _ _ _ _ _ _
          rw [← HL.out, e3]
          have hxl : xs.length = m := by have h1 := HX.out; have h2 := HI.out; omega
          have hrow := HRow.out
          rw [e3, List.replicate_zero, List.append_nil] at hrow
          refine ⟨HN.out, _, rfl, ⟨g, ?_, HGW.out, ?_, ?_⟩, HR.out⟩
          · rw [List.append_nil, hxl]
          · rw [List.append_nil]; exact hrow
          · rw [List.append_nil]; exact HWF.out
        clear HL HX HWF HRow HR HN
        go_wp2
        go_ret
        exact HE.out
def plainI (zs : List Int) (t : Nat) : Except (Int × Int) (Int × Nat) := match plainR zs t with
  | .ok (u, t') => .ok ((u : Int), t')
  | .error e => .error e
theorem rplainI {p : Nat} {a : Option Addr} {c : Nat} {zs : List Int} {t : Nat} {w : World} (h : Rd p a c zs t w) :
    Calls Tryz.prog 147 #[.pointer (some ⟨p, 0, none⟩)] w (RDone p a c zs (fun (x : Int) _ v => v = .int .u64 x ∧ (Lit.int .u64 x).wf = true) (plainI zs t) w) := by
  refine (rplain h).mono fun e w' ⟨hn, hr⟩ => ?_
  unfold plainI
  cases hp : plainR zs t with
  | error e =>
    rw [hp] at hr
    exact ⟨hn, hr⟩
  | ok y =>
    obtain ⟨u, t'⟩ := y
    rw [hp] at hr
    obtain ⟨v, h1, ⟨h2, h3⟩, h4⟩ := hr
    refine ⟨hn, v, h1, ⟨h2, ?_⟩, h4⟩
    have : (0 : Int) ≤ (u : Int) ∧ (u : Int) ≤ 18446744073709551615 := by omega
    simpa [Lit.wf, IntKind.min, IntKind.max, IntKind.signed, IntKind.bits] using this
def NumsV (w : World) (xs : List Int) (w' : World) (v : Value) : Prop := ∃ g, v = .slice (some ⟨g, 0, none⟩) xs.length xs.length ∧ w.heap.size ≤ g ∧ RowI .u64 96 w' g xs ∧ ∀ x ∈ xs, (Lit.int .u64 x).wf = true
set_option maxHeartbeats 1000000 in
set_option maxRecDepth 20000 in
theorem rlist_u64 {p : Nat} {a : Option Addr} {c : Nat} {zs : List Int} {t : Nat} {w : World} (h : Rd p a c zs t w) :
    Calls Tryz.prog 153 #[.pointer (some ⟨p, 0, none⟩), .func (.func 147) #[.pointer (some ⟨p, 0, none⟩)] #[]] w (RDone p a c zs (NumsV w) (listC zs (plainI zs) t) w) := by
  have HP := hid (rcount h)
  clear h
  go_enter Tryz.func153, Tryz.ntmps153
  go_wp2_with fail
  refine HP.out.mono ?_
  rintro e w1 ⟨hn, hr⟩
  cases hp : cntR zs t with
  | error e =>
    have e1 : listC zs (plainI zs) t = .error e := by unfold listC; rw [hp]
    rw [hp] at hr
    obtain rfl := hr
    exact panic_out (P := Tryz.prog) (fn := Tryz.f153) (by rw [e1]; exact ⟨hn, rfl⟩) rfl
  | ok x =>
    obtain ⟨m, t1⟩ := x
    have e1 : listC zs (plainI zs) t = listR (plainI zs) m t1 := by unfold listC; rw [hp]
    rw [hp] at hr
    obtain ⟨_, rfl, ⟨rfl, hm⟩, hr1⟩ := hr
    obtain ⟨i0, hi, hz0, hz1, hz2⟩ := info_parts Tryz.info96
    have hmle : m ≤ 100000 := Nat.le_trans hm hr1.few
    have hmk : ∀ W : World, (Instr.makeSlice 61 (.int .i64 (m : Int)) (.int .i64 (m : Int))).run Tryz.prog W = .ok (.slice (some ⟨W.heap.size, 0, none⟩) m m) (W.alloc (.cells (Array.replicate m (.int .u64 0)) 96)) := fun W => by
      have h := run_make (P := Tryz.prog) W 61 96 i0 _ Tryz.underlying61 hi hz0 .i64 .i64 (m : Int) (m : Int) (by omega) (by omega) (by rw [hz2]; omega) (by omega)
      rw [show ((m : Int)).toNat = m by omega, hz1] at h
      have emk : madeCells #[Value.int .u64 0] m = Array.replicate m (Value.int .u64 0) := Array.ext' (by rw [toList_madeCells_one]; simp)
      rw [← emk]
      rw [Nat.mul_one] at h
      exact h
    obtain ⟨W2, hW⟩ : ∃ W2, W2 = w1.alloc (.cells (Array.replicate m (.int .u64 0)) 96) := ⟨_, rfl⟩
    obtain ⟨g, hg⟩ : ∃ g, g = w1.heap.size := ⟨_, rfl⟩
    have b2 : Below w1.heap.size w1 W2 := by rw [hW]; exact bl_alloc (Below.refl _ _)
    have R0 : RowI .u64 96 W2 g (List.replicate m 0) := by
      unfold RowI
      rw [hW, hg, List.map_replicate, List.toArray_replicate]
      show (w1.heap.push _)[w1.heap.size]? = _
      rw [Array.getElem?_push_size]
    have HR := hid (hr1.step b2)
    have HN := hid (hn.trans (Rn.of b2))
    have hpg : p < g := by rw [hg]; exact World.block_lt_of_cell? _ _ hr1.c0
    have HGW : Hid (w.heap.size ≤ g) := by show w.heap.size ≤ g; rw [hg]; exact hn.size
    have HPG : Hid (g ≠ p) := by show g ≠ p; omega
    have HRow := hid R0
    have EW := hid hW
    have EG := hid hg
    have E1 := hid e1
    have HML := hid hmle
    clear HP hp hr1 hn e1 hm hi hz0 hz1 hz2 hW hg b2 R0 hpg hmle
    go_wp2
    rw [← EW.out, ← EG.out]
    clear EW EG hmk
    go_loopw [12, 6] (fun q _ wr => ∃ (i u : Nat) (xs : List Int), q = .int .i64 (i : Int) ∧ Hid (i ≤ m) ∧ Hid (xs.length = i) ∧ Hid (∀ x ∈ xs, (Lit.int .u64 x).wf = true) ∧ Hid (behindL xs (listR (plainI zs) (m - i) u) = listC zs (plainI zs) t) ∧ Hid (Rd p a c zs u wr) ∧ Hid (Rn p w wr) ∧ Hid (RowI .u64 96 wr g (xs ++ List.replicate (m - i) 0))) (fun q _ _ => m - (intOf q).toNat)
    case atStart =>
      refine ⟨0, t1, [], rfl, Nat.zero_le _, rfl, fun x hx => (by simp at hx), ?_, HR, HN, by simpa [Hid] using HRow.out⟩
      show behindL [] (listR (plainI zs) m t1) = _
      rw [E1.out]
      cases listR (plainI zs) m t1 with
      | error e => rfl
      | ok y => rfl
    case round =>
      obtain ⟨i, u, xs, rfl, HI, HX, HWF, HL, HR, HN, HRow⟩ := hrel
      by_cases hlt : i < m
      · have hli : (i : Int) < (m : Int) := by omega
        have HF := hid (rplainI HR.out)
        go_wp2_with fail
        refine HF.out.mono ?_
        rintro e w3 ⟨hn3, hr3⟩
        have hL := HL.out
        rw [show m - i = (m - i - 1) + 1 by omega] at hL
        cases hq : plainI zs u with
        | error e =>
          rw [behind_stop _ _ _ _ e hq] at hL
          rw [hq] at hr3
          obtain rfl := hr3
          exact panic_out (P := Tryz.prog) (fn := Tryz.f153) (by rw [← hL]; exact ⟨HN.out.trans hn3, rfl⟩) rfl
        | ok y =>
          obtain ⟨x, u'⟩ := y
          rw [behind_next _ _ _ _ x u' hq] at hL
          rw [hq] at hr3
          obtain ⟨_, rfl, ⟨rfl, hwf⟩, hr3⟩ := hr3
          have row3 := HRow.out.rn hn3 HPG.out
          have hx : (xs ++ List.replicate (m - i) 0)[i]? = some 0 := by
            rw [List.getElem?_append_right (by have := HX.out; omega), List.getElem?_replicate, if_pos (by have := HX.out; omega)]
          have k0 := row3.cell hx
          have k1 := row3.fz i
          have k2 : g < w3.heap.size := World.block_lt_of_cell? _ _ k0
          have HR4 := hid (hr3.put_row (by decide) k0 HPG.out (.int .u64 x))
          have HN4 := hid ((HN.out.trans hn3).put_new HGW.out i (.int .u64 x))
          have HRow4 : Hid (RowI .u64 96 (w3.setCell ⟨g, i, none⟩ (.int .u64 x)) g ((xs ++ [x]) ++ List.replicate (m - (i + 1)) 0)) := by
            have h1 := row3.put (i := i) x
            have h2 : (xs ++ List.replicate (m - i) 0).set i x = (xs ++ [x]) ++ List.replicate (m - (i + 1)) 0 := by
              rw [List.set_append_right _ _ (by have := HX.out; omega), show i - xs.length = 0 by have := HX.out; omega, show m - i = (m - (i + 1)) + 1 by omega, List.replicate_succ, List.set_cons_zero]
              simp
            rw [h2] at h1
            exact h1
          have HL4 : Hid (behindL (xs ++ [x]) (listR (plainI zs) (m - (i + 1)) u') = listC zs (plainI zs) t) := by
            show _ = _
            rw [← hL, show m - (i + 1) = m - i - 1 by omega]
          have HX4 : Hid ((xs ++ [x]).length = i + 1) := by show _ = _; rw [List.length_append, HX.out]; rfl
          have HWF4 : Hid (∀ y ∈ xs ++ [x], (Lit.int .u64 y).wf = true) := fun y hy => by
            rcases List.mem_append.1 hy with h | h
            · exact HWF.out y h
            · simp only [List.mem_cons, List.not_mem_nil, or_false] at h; rw [h]; exact hwf
          have hml := HML.out
          clear HF hn3 hr3 hL hq row3 hx HL HX HWF HRow HR HN hwf
          go_wp2
          go_roundw
          case rel => exact ⟨i + 1, u', xs ++ [x], vint (by omega), hid hlt, HX4, HWF4, HL4, HR4, HN4, HRow4⟩
          case measure => simp [intOf]; omega
      · have hli : ¬ (i : Int) < (m : Int) := by omega
        have e3 : m - i = 0 := by omega
        have HE : Hid (RDone p a c zs (NumsV w) (listC zs (plainI zs) t) w (.returned (.slice (some ⟨g, 0, none⟩) m m)) wr) := by
          show RDone _ _ _ _ _ _ _ _ _
          rw [← HL.out, e3]
          have hxl : xs.length = m := by have h1 := HX.out; have h2 := HI.out; omega
          have hrow := HRow.out
          rw [e3, List.replicate_zero, List.append_nil] at hrow
          refine ⟨HN.out, _, rfl, ⟨g, ?_, HGW.out, ?_, ?_⟩, HR.out⟩
          · rw [List.append_nil, hxl]
          · rw [List.append_nil]; exact hrow
          · rw [List.append_nil]; exact HWF.out
        clear HL HX HWF HRow HR HN
        go_wp2
        go_ret
        exact HE.out
end Go.Proofs.YtedeiaokohdhpaaGreat

namespace Go.Proofs.YtedeiaokohdhpaaGreat
open Go.RowKit
def thenR {α β : Type} (r : Except (Int × Int) (α × Nat)) (f : α → Nat → Except (Int × Int) (β × Nat)) : Except (Int × Int) (β × Nat) := match r with
  | .error e => .error e
  | .ok (x, t) => f x t
def fieldR (zs : List Int) (t : Nat) : Except (Int × Int) ((Int × Int) × Nat) := thenR (numR zs t) fun h u => thenR (numR zs u) fun f u' => .ok ((h, f), u')
theorem Rn.cell {p : Nat} {w w' : World} (r : Rn p w w') {g o : Nat} {v : Value} (h : w.cell? ⟨g, o, none⟩ = some v) (hg : g ≠ p) : w'.cell? ⟨g, o, none⟩ = some v := by
  have hl := World.block_lt_of_cell? _ _ h
  have e := r.block g hl hg
  unfold World.cell? at h ⊢
  dsimp only at h ⊢
  rw [e]
  exact h
theorem Rn.frz {p : Nat} {w w' : World} (r : Rn p w w') {g : Nat} (o : Nat) (hl : g < w.heap.size) (hg : g ≠ p) : w'.frozen? ⟨g, o, none⟩ = w.frozen? ⟨g, o, none⟩ := by
  have e := r.block g hl hg
  unfold World.frozen?
  dsimp only
  rw [e]
def RefV (x : Int × Int) (_ : World) (v : Value) : Prop := v = .agg #[.int .i64 x.1, .int .i64 x.2] ∧ (Lit.int .i64 x.1).wf = true ∧ (Lit.int .i64 x.2).wf = true
set_option maxHeartbeats 1000000 in
set_option maxRecDepth 20000 in
theorem rfield {p : Nat} {a : Option Addr} {c : Nat} {zs : List Int} {t : Nat} {w : World} (h : Rd p a c zs t w) :
    Calls Tryz.prog 148 #[.pointer (some ⟨p, 0, none⟩)] w (RDone p a c zs RefV (fieldR zs t) w) := by
  obtain ⟨W1, eW⟩ : ∃ W1, W1 = w.alloc (.cells #[.int .i64 0, .int .i64 0] 48) := ⟨_, rfl⟩
  obtain ⟨bx, ebx⟩ : ∃ b, b = w.heap.size := ⟨_, rfl⟩
  have b1 : Below w.heap.size w W1 := by rw [eW]; exact bl_alloc (Below.refl _ _)
  have k0 : W1.cell? ⟨bx, 0, none⟩ = some (.int .i64 0) := by rw [eW, ebx]; exact (World.cell?_alloc_at _ _ _ _ rfl).trans rfl
  have k1 : W1.cell? ⟨bx, 1, none⟩ = some (.int .i64 0) := by rw [eW, ebx]; exact (World.cell?_alloc_at _ _ _ _ rfl).trans rfl
  have f0 : ∀ o, W1.frozen? ⟨bx, o, none⟩ = false := fun o => by rw [eW, ebx]; exact World.frozen?_alloc_at _ _ _ _ rfl
  have hpb : bx ≠ p := by have := World.block_lt_of_cell? _ _ h.c0; simp only at this; omega
  have HF := hid (rnumber (h.step b1))
  have HN : Hid (Rn p w W1) := Rn.of b1
  have HPB := hid hpb
  have HWB : Hid (w.heap.size ≤ bx) := by show w.heap.size ≤ bx; omega
  have F0 := hid f0
  have EW := hid eW
  have EB := hid ebx
  clear h eW ebx b1 f0 hpb
  go_enter Tryz.func148, Tryz.ntmps148
  go_wp2_with fail
  rw [← EW.out, ← EB.out]
  clear EW EB
  refine HF.out.mono ?_
  rintro e w2 ⟨hn2, hr2⟩
  cases hq : numR zs t with
  | error e =>
    rw [hq] at hr2
    obtain rfl := hr2
    exact panic_out (P := Tryz.prog) (fn := Tryz.f148) (by unfold fieldR; rw [hq]; exact ⟨HN.out.trans hn2, rfl⟩) rfl
  | ok y =>
    obtain ⟨x, u⟩ := y
    rw [hq] at hr2
    obtain ⟨_, rfl, ⟨rfl, hwf⟩, hr2⟩ := hr2
    have q0 := hn2.cell k0 HPB.out
    have q1 := hn2.cell k1 HPB.out
    have hl := World.block_lt_of_cell? _ _ k0
    have z0 := (hn2.frz 0 hl HPB.out).trans (F0.out 0)
    have z1 := (hn2.frz 1 hl HPB.out).trans (F0.out 1)
    have hl2 : bx < w2.heap.size := World.block_lt_of_cell? _ _ q0
    obtain ⟨W3, eW3⟩ : ∃ W3, W3 = w2.setCell ⟨bx, 0, none⟩ (.int .i64 x) := ⟨_, rfl⟩
    have r3 : Rd p a c zs u W3 := by rw [eW3]; exact hr2.put_row (by decide) q0 HPB.out _
    have n3 : Rn p w W3 := by rw [eW3]; exact (HN.out.trans hn2).put_new HWB.out 0 _
    have m0 : W3.cell? ⟨bx, 0, none⟩ = some (.int .i64 x) := by rw [eW3]; exact World.cell?_setCell_same _ _ _ q0
    have m1 : W3.cell? ⟨bx, 1, none⟩ = some (.int .i64 0) := by rw [eW3]; exact (World.cell?_setCell_other _ _ _ _ (by simp)).trans q1
    have y0 : W3.frozen? ⟨bx, 0, none⟩ = false := by rw [eW3]; exact (World.frozen?_setCell _ _ _ _).trans z0
    have y1 : W3.frozen? ⟨bx, 1, none⟩ = false := by rw [eW3]; exact (World.frozen?_setCell _ _ _ _).trans z1
    have HF3 := hid (rnumber r3)
    have HN3 := hid n3
    have E3 := hid eW3
    have HQ := hid hq
    have HW := hid hwf
    clear HF hn2 hr2 hq k0 k1 q1 z1 hl eW3 r3 n3 hwf HN F0
    go_wp2_with fail
    rw [← E3.out]
    clear E3 q0 z0 hl2
    refine HF3.out.mono ?_
    rintro e w4 ⟨hn4, hr4⟩
    cases hq2 : numR zs u with
    | error e =>
      rw [hq2] at hr4
      obtain rfl := hr4
      exact panic_out (P := Tryz.prog) (fn := Tryz.f148) (by unfold fieldR; rw [HQ.out]; unfold thenR; dsimp only; rw [hq2]; exact ⟨HN3.out.trans hn4, rfl⟩) rfl
    | ok y =>
      obtain ⟨x2, u2⟩ := y
      rw [hq2] at hr4
      obtain ⟨_, rfl, ⟨rfl, hwf2⟩, hr4⟩ := hr4
      have p0 := hn4.cell m0 HPB.out
      have p1 := hn4.cell m1 HPB.out
      have hl3 := World.block_lt_of_cell? _ _ m0
      have g0 := (hn4.frz 0 hl3 HPB.out).trans y0
      have g1 := (hn4.frz 1 hl3 HPB.out).trans y1
      have hl4 : bx < w4.heap.size := World.block_lt_of_cell? _ _ p0
      have HE : Hid (∀ W, W = ((w4.setCell ⟨bx, 1, none⟩ (.int .i64 x2)).setCell ⟨bx, 0, none⟩ (.int .i64 x)).setCell ⟨bx, 1, none⟩ (.int .i64 x2) → RDone p a c zs RefV (fieldR zs t) w (.returned (.agg #[.int .i64 x, .int .i64 x2])) W) := fun W eW => by
        unfold fieldR
        rw [HQ.out]
        unfold thenR
        dsimp only
        rw [hq2]
        have e0 : (w4.setCell ⟨bx, 1, none⟩ (.int .i64 x2)).cell? ⟨bx, 0, none⟩ = some (.int .i64 x) := (World.cell?_setCell_other _ _ _ _ (by simp)).trans p0
        have e1 : (w4.setCell ⟨bx, 1, none⟩ (.int .i64 x2)).cell? ⟨bx, 1, none⟩ = some (.int .i64 x2) := World.cell?_setCell_same _ _ _ p1
        have e2 : ((w4.setCell ⟨bx, 1, none⟩ (.int .i64 x2)).setCell ⟨bx, 0, none⟩ (.int .i64 x)).cell? ⟨bx, 1, none⟩ = some (.int .i64 x2) := (World.cell?_setCell_other _ _ _ _ (by simp)).trans e1
        refine ⟨?_, _, rfl, ⟨rfl, HW.out, hwf2⟩, ?_⟩
        · rw [eW]
          exact (((HN3.out.trans hn4).put_new HWB.out 1 _).put_new HWB.out 0 _).put_new HWB.out 1 _
        · rw [eW]
          exact ((hr4.put_row (by decide) p1 HPB.out _).put_row (by decide) e0 HPB.out _).put_row (by decide) e2 HPB.out _
      clear HF3 hn4 hr4 hq2 m0 m1 y0 y1 hl3 HN3 HQ HW hwf2
      go_wp2
      exact bodyPost_ret (v := .agg #[.int .i64 x, .int .i64 x2]) (by simp [results, Tryz.results148, go_sem, *]) rfl (HE.out _ rfl)
end Go.Proofs.YtedeiaokohdhpaaGreat

namespace Go.Proofs.YtedeiaokohdhpaaGreat
open Go.RowKit
def BoxAt (T : TypeId) (w : World) (bx : Nat) (vs : List Value) : Prop := w.heap[bx]? = some (.cells vs.toArray T (0, 0))
theorem BoxAt.new (T : TypeId) (w : World) (vs : List Value) : BoxAt T (w.alloc (.cells vs.toArray T)) w.heap.size vs := by
  unfold BoxAt
  show (w.heap.push _)[w.heap.size]? = _
  rw [Array.getElem?_push_size]
theorem BoxAt.cell {T : TypeId} {w : World} {bx : Nat} {vs : List Value} (h : BoxAt T w bx vs) {i : Nat} {v : Value} (hv : vs[i]? = some v) : w.cell? ⟨bx, i, none⟩ = some v := by
  unfold BoxAt at h
  simp [World.cell?, h, hv]
theorem BoxAt.fz {T : TypeId} {w : World} {bx : Nat} {vs : List Value} (h : BoxAt T w bx vs) (i : Nat) : w.frozen? ⟨bx, i, none⟩ = false := by
  unfold BoxAt at h
  simp [World.frozen?, h]
theorem BoxAt.lt {T : TypeId} {w : World} {bx : Nat} {vs : List Value} (h : BoxAt T w bx vs) : bx < w.heap.size := (Array.getElem?_eq_some_iff.1 h).1
theorem BoxAt.put {T : TypeId} {w : World} {bx : Nat} {vs : List Value} (h : BoxAt T w bx vs) (i : Nat) (v : Value) : BoxAt T (w.setCell ⟨bx, i, none⟩ v) bx (vs.set i v) := by
  unfold BoxAt at h ⊢
  simp [World.setCell, Array.getElem?_modify, h]
theorem Has.keepVal {k : IntKind} {w : World} {a : Option Addr} {len : Nat} {zs : List Int} (h : Has k w a len zs) {q : Addr} {u : Value} (hq : w.cell? q = Option.some u) (hu : ∀ n, u ≠ .int k n) (v : Value) : Has k (w.setCell q v) a len zs := by
  refine ⟨h.1, h.2.1, ?_⟩
  rcases h.2.2 with h | ⟨b, off, rfl, hlt, hc⟩
  · exact .inl h
  · refine .inr ⟨b, off, rfl, by simpa [World.setCell] using hlt, fun i hi => ?_⟩
    rw [World.cell?_setCell_other _ _ _ _ (by
      intro e
      rw [e, hc i hi] at hq
      exact hu _ (Option.some.inj hq).symm)]
    exact hc i hi
theorem Has.blk {k : IntKind} {w w' : World} {a : Option Addr} {len : Nat} {zs : List Int} (h : Has k w a len zs) (hs : w.heap.size ≤ w'.heap.size) (hb : ∀ ad, a = Option.some ad → w'.heap[ad.block]? = w.heap[ad.block]?) : Has k w' a len zs := by
  refine ⟨h.1, h.2.1, ?_⟩
  rcases h.2.2 with h | ⟨b, off, rfl, hlt, hc⟩
  · exact .inl h
  · refine .inr ⟨b, off, rfl, Nat.lt_of_lt_of_le hlt hs, fun i hi => ?_⟩
    have e := hb _ rfl
    have h1 := hc i hi
    unfold World.cell? at h1 ⊢
    dsimp only at h1 e ⊢
    rw [e]
    exact h1
theorem Rd.put_far {p : Nat} {a : Option Addr} {c : Nat} {zs : List Int} {t : Nat} {w : World} (h : Rd p a c zs t w) {g : Nat} (hg : p < g) (o : Nat) (v : Value) : Rd p a c zs t (w.setCell ⟨g, o, none⟩ v) :=
  ⟨(World.cell?_setCell_other _ _ _ _ (by intro e; simp only [Addr.mk.injEq] at e; omega)).trans h.c0, (World.cell?_setCell_other _ _ _ _ (by intro e; simp only [Addr.mk.injEq] at e; omega)).trans h.c1, (World.frozen?_setCell _ _ _ _).trans h.fz, h.hz.blk (by simp [World.setCell]) (fun ad had => Below.heap_setCell _ _ _ _ (by have := h.lo ad had; show ad.block ≠ g; omega)), h.le, h.few, h.lo⟩
structure RSt (p : Nat) (a : Option Addr) (c : Nat) (zs : List Int) (T : TypeId) (bx : Nat) (w0 : World) (u : Nat) (vs : List Value) (w : World) : Prop where
  rd : Rd p a c zs u w
  rn : Rn p w0 w
  box : BoxAt T w bx vs
  new : w0.heap.size ≤ bx
  ne : bx ≠ p
theorem RSt.start {p : Nat} {a : Option Addr} {c : Nat} {zs : List Int} {u : Nat} {w : World} (h : Rd p a c zs u w) (T : TypeId) (vs : List Value) : RSt p a c zs T w.heap.size w u vs (w.alloc (.cells vs.toArray T)) :=
  ⟨h.step (bl_alloc (Below.refl _ _)), Rn.of (bl_alloc (Below.refl _ _)), BoxAt.new T w vs, Nat.le_refl _, by have := World.block_lt_of_cell? _ _ h.c0; simp only at this; omega⟩
theorem RSt.read {p : Nat} {a : Option Addr} {c : Nat} {zs : List Int} {T : TypeId} {bx : Nat} {w0 : World} {u u' : Nat} {vs : List Value} {w w' : World} (h : RSt p a c zs T bx w0 u vs w) (r : Rn p w w') (d : Rd p a c zs u' w') : RSt p a c zs T bx w0 u' vs w' :=
  ⟨d, h.rn.trans r, (r.block bx h.box.lt h.ne).trans h.box, h.new, h.ne⟩
theorem RSt.put {p : Nat} {a : Option Addr} {c : Nat} {zs : List Int} {T : TypeId} {bx : Nat} {w0 : World} {u : Nat} {vs : List Value} {w : World} (h : RSt p a c zs T bx w0 u vs w) (i : Nat) (v : Value) {o : Value} (ho : vs[i]? = some o) (hu : ∀ n, o ≠ .int .u8 n) : RSt p a c zs T bx w0 u (vs.set i v) (w.setCell ⟨bx, i, none⟩ v) := by
  have hc := h.box.cell ho
  refine ⟨⟨?_, ?_, ?_, h.rd.hz.keepVal hc hu _, h.rd.le, h.rd.few, h.rd.lo⟩, h.rn.put_new h.new i v, h.box.put i v, h.new, h.ne⟩
  · exact (World.cell?_setCell_other _ _ _ _ (by intro e; simp only [Addr.mk.injEq] at e; exact h.ne e.1)).trans h.rd.c0
  · exact (World.cell?_setCell_other _ _ _ _ (by intro e; simp only [Addr.mk.injEq] at e; exact h.ne e.1)).trans h.rd.c1
  · exact (World.frozen?_setCell _ _ _ _).trans h.rd.fz
def caseR (zs : List Int) (t : Nat) : Except (Int × Int) ((Int × Int × Int) × Nat) := thenR (plainI zs t) fun v u => thenR (plainI zs u) fun m u' => thenR (numR zs u') fun n u'' => .ok ((v, m, n), u'')
def CaseV (x : Int × Int × Int) (_ : World) (v : Value) : Prop := v = .agg #[.int .u64 x.1, .int .u64 x.2.1, .int .i64 x.2.2] ∧ (Lit.int .u64 x.1).wf = true ∧ (Lit.int .u64 x.2.1).wf = true ∧ (Lit.int .i64 x.2.2).wf = true
set_option maxHeartbeats 1000000 in
set_option maxRecDepth 20000 in
theorem rcase {p : Nat} {a : Option Addr} {c : Nat} {zs : List Int} {t : Nat} {w : World} (h : Rd p a c zs t w) :
    Calls Tryz.prog 149 #[.pointer (some ⟨p, 0, none⟩)] w (RDone p a c zs CaseV (caseR zs t) w) := by
  obtain ⟨W1, eW⟩ : ∃ W1, W1 = w.alloc (.cells #[.int .u64 0, .int .u64 0, .int .i64 0] 98) := ⟨_, rfl⟩
  obtain ⟨bx, ebx⟩ : ∃ b, b = w.heap.size := ⟨_, rfl⟩
  have S1 : Hid (RSt p a c zs 98 bx w t [.int .u64 0, .int .u64 0, .int .i64 0] W1) := by rw [eW, ebx]; exact RSt.start h _ _
  have HF := hid (rplainI S1.out.rd)
  have EW := hid eW
  have EB := hid ebx
  clear h eW ebx
  go_enter Tryz.func149, Tryz.ntmps149
  go_wp2_with fail
  rw [← EW.out, ← EB.out]
  clear EW EB
  refine HF.out.mono ?_
  rintro e w2 ⟨hn2, hr2⟩
  cases hq1 : plainI zs t with
  | error e =>
    rw [hq1] at hr2
    obtain rfl := hr2
    exact panic_out (P := Tryz.prog) (fn := Tryz.f149) (by unfold caseR; rw [hq1]; exact ⟨S1.out.rn.trans hn2, rfl⟩) rfl
  | ok y =>
    obtain ⟨x1, u1⟩ := y
    rw [hq1] at hr2
    obtain ⟨_, rfl, ⟨rfl, hw1⟩, hr2⟩ := hr2
    have S2 := S1.out.read hn2 hr2
    have b0 := S2.box.cell (i := 0) rfl
    have z0 := S2.box.fz 0
    have l0 := S2.box.lt
    obtain ⟨W3, eW3⟩ : ∃ W3, W3 = w2.setCell ⟨bx, 0, none⟩ (.int .u64 x1) := ⟨_, rfl⟩
    have S3 : Hid (RSt p a c zs 98 bx w u1 [.int .u64 x1, .int .u64 0, .int .i64 0] W3) := by rw [eW3]; exact S2.put 0 _ rfl (fun n h => by cases h)
    have HF3 := hid (rplainI S3.out.rd)
    have E3 := hid eW3
    have Q1 := hid hq1
    have HW1 := hid hw1
    clear HF hn2 hr2 S1 S2 eW3 hq1 hw1
    go_wp2_with fail
    rw [← E3.out]
    clear E3 b0 z0 l0
    refine HF3.out.mono ?_
    rintro e w4 ⟨hn4, hr4⟩
    cases hq2 : plainI zs u1 with
    | error e =>
      rw [hq2] at hr4
      obtain rfl := hr4
      exact panic_out (P := Tryz.prog) (fn := Tryz.f149) (by unfold caseR; rw [Q1.out]; unfold thenR; dsimp only; rw [hq2]; exact ⟨S3.out.rn.trans hn4, rfl⟩) rfl
    | ok y =>
      obtain ⟨x2, u2⟩ := y
      rw [hq2] at hr4
      obtain ⟨_, rfl, ⟨rfl, hw2⟩, hr4⟩ := hr4
      have S4 := S3.out.read hn4 hr4
      have b1 := S4.box.cell (i := 1) rfl
      have z1 := S4.box.fz 1
      have l1 := S4.box.lt
      obtain ⟨W5, eW5⟩ : ∃ W5, W5 = w4.setCell ⟨bx, 1, none⟩ (.int .u64 x2) := ⟨_, rfl⟩
      have S5 : Hid (RSt p a c zs 98 bx w u2 [.int .u64 x1, .int .u64 x2, .int .i64 0] W5) := by rw [eW5]; exact S4.put 1 _ rfl (fun n h => by cases h)
      have HF5 := hid (rnumber S5.out.rd)
      have E5 := hid eW5
      have Q2 := hid hq2
      have HW2 := hid hw2
      clear HF3 hn4 hr4 S3 S4 eW5 hq2 hw2
      go_wp2_with fail
      rw [← E5.out]
      clear E5 b1 z1 l1
      refine HF5.out.mono ?_
      rintro e w6 ⟨hn6, hr6⟩
      cases hq3 : numR zs u2 with
      | error e =>
        rw [hq3] at hr6
        obtain rfl := hr6
        exact panic_out (P := Tryz.prog) (fn := Tryz.f149) (by unfold caseR; rw [Q1.out]; unfold thenR; dsimp only; rw [Q2.out]; dsimp only; rw [hq3]; exact ⟨S5.out.rn.trans hn6, rfl⟩) rfl
      | ok y =>
        obtain ⟨x3, u3⟩ := y
        rw [hq3] at hr6
        obtain ⟨_, rfl, ⟨rfl, hw3⟩, hr6⟩ := hr6
        have S6 := S5.out.read hn6 hr6
        have b0 := S6.box.cell (i := 0) rfl
        have b1 := S6.box.cell (i := 1) rfl
        have b2 := S6.box.cell (i := 2) rfl
        have z0 := S6.box.fz 0
        have z1 := S6.box.fz 1
        have z2 := S6.box.fz 2
        have l2 := S6.box.lt
        have S7 := (((S6.put 2 (.int .i64 x3) rfl (fun n h => by cases h)).put 0 (.int .u64 x1) rfl (fun n h => by cases h)).put 1 (.int .u64 x2) rfl (fun n h => by cases h)).put 2 (.int .i64 x3) rfl (fun n h => by cases h)
        have HE : Hid (RDone p a c zs CaseV (caseR zs t) w (.returned (.agg #[.int .u64 x1, .int .u64 x2, .int .i64 x3])) ((((w6.setCell ⟨bx, 2, none⟩ (.int .i64 x3)).setCell ⟨bx, 0, none⟩ (.int .u64 x1)).setCell ⟨bx, 1, none⟩ (.int .u64 x2)).setCell ⟨bx, 2, none⟩ (.int .i64 x3))) := by
          show RDone _ _ _ _ _ _ _ _ _
          unfold caseR
          rw [Q1.out]
          unfold thenR
          dsimp only
          rw [Q2.out]
          dsimp only
          rw [hq3]
          exact ⟨S7.rn, _, rfl, ⟨rfl, HW1.out, HW2.out, hw3⟩, S7.rd⟩
        clear HF5 hn6 hr6 hq3 hw3 S5 S6 S7 Q1 Q2 HW1 HW2
        go_wp2
        exact bodyPost_ret (v := .agg #[.int .u64 x1, .int .u64 x2, .int .i64 x3]) (by simp [results, Tryz.results149, go_sem, *]) rfl HE.out
end Go.Proofs.YtedeiaokohdhpaaGreat

namespace Go.Proofs.YtedeiaokohdhpaaGreat
open Go.RowKit
def RowK {α : Type} (enc : α → List Value) (k : Nat) (T : TypeId) (m : Nat) (w : World) (g : Nat) (xs : List α) : Prop :=
  ∃ cur : Array Value, w.heap[g]? = some (.cells cur T (0, 0)) ∧ cur.size = m * k ∧ ∀ j x, xs[j]? = some x → ∀ l u, (enc x)[l]? = some u → cur[j * k + l]? = some u
theorem RowK.some {α : Type} {enc : α → List Value} {k : Nat} {T : TypeId} {m : Nat} {w : World} {g : Nat} {xs : List α} (h : RowK enc k T m w g xs) {o : Nat} (ho : o < m * k) : ∃ v, w.cell? ⟨g, o, none⟩ = some v := by
  obtain ⟨cur, h1, h2, _⟩ := h
  refine ⟨cur[o]'(by omega), ?_⟩
  simp [World.cell?, h1, h2, ho]
theorem RowK.fz {α : Type} {enc : α → List Value} {k : Nat} {T : TypeId} {m : Nat} {w : World} {g : Nat} {xs : List α} (h : RowK enc k T m w g xs) (o : Nat) : w.frozen? ⟨g, o, none⟩ = false := by
  obtain ⟨cur, h1, _⟩ := h
  simp [World.frozen?, h1]
theorem RowK.lt {α : Type} {enc : α → List Value} {k : Nat} {T : TypeId} {m : Nat} {w : World} {g : Nat} {xs : List α} (h : RowK enc k T m w g xs) : g < w.heap.size := by
  obtain ⟨cur, h1, _⟩ := h
  exact (Array.getElem?_eq_some_iff.1 h1).1
theorem RowK.rn {α : Type} {enc : α → List Value} {k : Nat} {T : TypeId} {m : Nat} {w w' : World} {g p : Nat} {xs : List α} (h : RowK enc k T m w g xs) (r : Rn p w w') (hg : g ≠ p) : RowK enc k T m w' g xs := by
  have hl := h.lt
  obtain ⟨cur, h1, h2⟩ := h
  exact ⟨cur, (r.block g hl hg).trans h1, h2⟩
theorem RowK.put {α : Type} {enc : α → List Value} {k : Nat} {T : TypeId} {m : Nat} {w : World} {g : Nat} {xs : List α} (h : RowK enc k T m w g xs) (hk : ∀ x, (enc x).length = k) (o : Nat) (v : Value) (ho : xs.length * k ≤ o) (hm : o < m * k) : RowK enc k T m (w.setCell ⟨g, o, none⟩ v) g xs ∧ (w.setCell ⟨g, o, none⟩ v).cell? ⟨g, o, none⟩ = Option.some v := by
  have hc := h.some hm
  obtain ⟨cur, h1, h2, h3⟩ := h
  refine ⟨⟨cur.setIfInBounds o v, by simp [World.setCell, Array.getElem?_modify, h1], by simpa using h2, fun j x hx l u hu => ?_⟩, ?_⟩
  · have hj : j < xs.length := (List.getElem?_eq_some_iff.1 hx).1
    have hl : l < k := by have := (List.getElem?_eq_some_iff.1 hu).1; rw [hk] at this; exact this
    have h4 : (j + 1) * k ≤ xs.length * k := Nat.mul_le_mul_right k hj
    rw [Nat.add_mul, Nat.one_mul] at h4
    rw [Array.getElem?_setIfInBounds_ne (by omega)]
    exact h3 j x hx l u hu
  · obtain ⟨u, hu⟩ := hc
    exact World.cell?_setCell_same _ _ _ hu
theorem RowK.more {α : Type} {enc : α → List Value} {k : Nat} {T : TypeId} {m : Nat} {w : World} {g : Nat} {xs : List α} (h : RowK enc k T m w g xs) (x : α) (hx : ∀ l u, (enc x)[l]? = Option.some u → w.cell? ⟨g, xs.length * k + l, none⟩ = Option.some u) : RowK enc k T m w g (xs ++ [x]) := by
  obtain ⟨cur, h1, h2, h3⟩ := h
  refine ⟨cur, h1, h2, fun j y hy l u hu => ?_⟩
  rcases Nat.lt_or_ge j xs.length with hj | hj
  · rw [List.getElem?_append_left hj] at hy
    exact h3 j y hy l u hu
  · rw [List.getElem?_append_right hj] at hy
    have hj0 : j = xs.length := by
      have := (List.getElem?_eq_some_iff.1 hy).1
      simp at this
      omega
    subst hj0
    rw [Nat.sub_self] at hy
    simp only [List.getElem?_cons_zero, Option.some.injEq] at hy
    subst hy
    have := hx l u hu
    simpa [World.cell?, h1] using this
theorem RowK.new {α : Type} (enc : α → List Value) (k : Nat) (T : TypeId) (m : Nat) (w : World) (cur : Array Value) (hc : cur.size = m * k) : RowK enc k T m (w.alloc (.cells cur T)) w.heap.size [] := by
  refine ⟨cur, ?_, hc, fun j x hx => by simp at hx⟩
  show (w.heap.push _)[w.heap.size]? = _
  rw [Array.getElem?_push_size]
end Go.Proofs.YtedeiaokohdhpaaGreat
