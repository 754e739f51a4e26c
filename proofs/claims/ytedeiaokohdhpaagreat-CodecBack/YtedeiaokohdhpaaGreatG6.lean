/- Texts of one chain, joined: ZRdC. -/
import Derived.Test.YtedeiaokohdhpaaGreatG5
namespace Go.Proofs.YtedeiaokohdhpaaGreat
open Go.RowKit
theorem RowK.blk {α : Type} {enc : α → List Value} {k : Nat} {T : TypeId} {m : Nat} {w w' : World} {g : Nat} {xs : List α} (h : RowK enc k T m w g xs) (e : w'.heap[g]? = w.heap[g]?) : RowK enc k T m w' g xs := by
  obtain ⟨cur, h1, h2⟩ := h
  exact ⟨cur, e.trans h1, h2⟩
theorem RefsV.keep {w w1 w2 : World} {xs : List (Int × Int)} {v : Value} (h : RefsV w xs w1 v) (hb : ∀ g, w.heap.size ≤ g → w2.heap[g]? = w1.heap[g]? ∨ w1.heap.size ≤ g) : RefsV w xs w2 v := by
  obtain ⟨g, e, hg, hr, hw⟩ := h
  have hl : g < w1.heap.size := hr.lt
  have hb : ∀ g', w.heap.size ≤ g' → g' = g → w2.heap[g']? = w1.heap[g']? := fun g' h1 h2 => (hb g' h1).resolve_right (by omega)
  exact ⟨g, e, hg, hr.blk (hb g hg rfl), hw⟩
theorem RefsV.low {w w0 w1 : World} {xs : List (Int × Int)} {v : Value} (h : RefsV w xs w1 v) (hb : w0.heap.size ≤ w.heap.size) : RefsV w0 xs w1 v := by
  obtain ⟨g, e, hg, hr⟩ := h
  exact ⟨g, e, Nat.le_trans hb hg, hr⟩
theorem IntsV.keep {w w1 w2 : World} {xs : List Int} {v : Value} (h : IntsV w xs w1 v) (hb : ∀ g, w.heap.size ≤ g → w2.heap[g]? = w1.heap[g]? ∨ w1.heap.size ≤ g) : IntsV w xs w2 v := by
  obtain ⟨g, e, hg, hr, hw⟩ := h
  have hl : g < w1.heap.size := (Array.getElem?_eq_some_iff.1 hr).1
  have hb : ∀ g', w.heap.size ≤ g' → g' = g → w2.heap[g']? = w1.heap[g']? := fun g' h1 h2 => (hb g' h1).resolve_right (by omega)
  exact ⟨g, e, hg, (hb g hg rfl).trans hr, hw⟩
theorem IntsV.low {w w0 w1 : World} {xs : List Int} {v : Value} (h : IntsV w xs w1 v) (hb : w0.heap.size ≤ w.heap.size) : IntsV w0 xs w1 v := by
  obtain ⟨g, e, hg, hr⟩ := h
  exact ⟨g, e, Nat.le_trans hb hg, hr⟩
theorem NumsV.keep {w w1 w2 : World} {xs : List Int} {v : Value} (h : NumsV w xs w1 v) (hb : ∀ g, w.heap.size ≤ g → w2.heap[g]? = w1.heap[g]? ∨ w1.heap.size ≤ g) : NumsV w xs w2 v := by
  obtain ⟨g, e, hg, hr, hw⟩ := h
  have hl : g < w1.heap.size := (Array.getElem?_eq_some_iff.1 hr).1
  have hb : ∀ g', w.heap.size ≤ g' → g' = g → w2.heap[g']? = w1.heap[g']? := fun g' h1 h2 => (hb g' h1).resolve_right (by omega)
  exact ⟨g, e, hg, (hb g hg rfl).trans hr, hw⟩
theorem NumsV.low {w w0 w1 : World} {xs : List Int} {v : Value} (h : NumsV w xs w1 v) (hb : w0.heap.size ≤ w.heap.size) : NumsV w0 xs w1 v := by
  obtain ⟨g, e, hg, hr⟩ := h
  exact ⟨g, e, Nat.le_trans hb hg, hr⟩
theorem rn_keep {p : Nat} {w w1 w2 : World} (r : Rn p w1 w2) (hp : p < w.heap.size) : ∀ g, w.heap.size ≤ g → w2.heap[g]? = w1.heap[g]? ∨ w1.heap.size ≤ g := fun g hg => by
  rcases Nat.lt_or_ge g w1.heap.size with h | h
  · exact .inl (r.block g h (by omega))
  · exact .inr h
theorem set_keep {w w1 : World} {bx : Nat} (hb : bx < w.heap.size) (o : Nat) (v : Value) : ∀ g, w.heap.size ≤ g → (w1.setCell ⟨bx, o, none⟩ v).heap[g]? = w1.heap[g]? ∨ w1.heap.size ≤ g := fun g hg => .inl (Below.heap_setCell _ _ _ _ (by show g ≠ bx; omega))
structure TabX where
  kind : Int
  keys : List (Int × Int)
  acts : List Int
  cap : Int
  dflt : Int
  args : List Int
def tabR (zs : List Int) (t : Nat) : Except (Int × Int) (TabX × Nat) := thenR (numR zs t) fun x1 u1 => thenR (listC zs (fieldR zs) u1) fun x2 u2 => thenR (listC zs (numR zs) u2) fun x3 u3 => thenR (numR zs u3) fun x4 u4 => thenR (numR zs u4) fun x5 u5 => thenR (listC zs (plainI zs) u5) fun x6 u6 => .ok (⟨x1, x2, x3, x4, x5, x6⟩, u6)
def TabV (w : World) (x : TabX) (w' : World) (v : Value) : Prop := ∃ vk va vg, v = .agg #[.int .i64 x.kind, vk, va, .int .i64 x.cap, .int .i64 x.dflt, vg] ∧ RefsV w x.keys w' vk ∧ IntsV w x.acts w' va ∧ NumsV w x.args w' vg ∧ (Lit.int .i64 x.kind).wf = true ∧ (Lit.int .i64 x.cap).wf = true ∧ (Lit.int .i64 x.dflt).wf = true
set_option maxHeartbeats 4000000 in
set_option maxRecDepth 20000 in
theorem rtable {p : Nat} {a : Option Addr} {c : Nat} {zs : List Int} {t : Nat} {w : World} (h : Rd p a c zs t w) :
    Calls Tryz.prog 122 #[.pointer (some ⟨p, 0, none⟩)] w (RDone p a c zs (TabV w) (tabR zs t) w) := by
  obtain ⟨W1, eW⟩ : ∃ W1, W1 = w.alloc (.cells #[.int .i64 0, .slice none 0 0, .slice none 0 0, .int .i64 0, .int .i64 0, .slice none 0 0] 63) := ⟨_, rfl⟩
  obtain ⟨bx, ebx⟩ : ∃ b, b = w.heap.size := ⟨_, rfl⟩
  have hpw : p < w.heap.size := World.block_lt_of_cell? _ _ h.c0
  have S0 : Hid (RSt p a c zs 63 bx w t [.int .i64 0, .slice none 0 0, .slice none 0 0, .int .i64 0, .int .i64 0, .slice none 0 0] W1) := by rw [eW, ebx]; exact RSt.start h _ _
  have HBX : Hid (bx < W1.heap.size ∧ p < W1.heap.size ∧ w.heap.size ≤ W1.heap.size) := ⟨S0.out.box.lt, Nat.lt_of_lt_of_le hpw S0.out.rn.size, S0.out.rn.size⟩
  have HF0 := hid (rnumber S0.out.rd)
  have EW := hid eW
  have EB := hid ebx
  clear h eW ebx hpw
  go_enter Tryz.func122, Tryz.ntmps122
  go_wp2_with fail
  rw [← EW.out, ← EB.out]
  clear EW EB
  refine HF0.out.mono ?_
  rintro e w2 ⟨hn, hr⟩
  cases hq : numR zs t with
  | error e =>
    rw [hq] at hr
    obtain rfl := hr
    exact panic_out (P := Tryz.prog) (fn := Tryz.f122) (by unfold tabR; rw [hq]; exact ⟨S0.out.rn.trans hn, rfl⟩) rfl
  | ok y =>
    obtain ⟨x1, u1⟩ := y
    rw [hq] at hr
    obtain ⟨_, rfl, ⟨rfl, hw1⟩, hr⟩ := hr
    have T0 := S0.out.read hn hr
    have HW1 := hid hw1
    have b0 := T0.box.cell (i := 0) rfl
    have z0 := T0.box.fz 0
    have l0 := T0.box.lt
    obtain ⟨W3, eW3⟩ : ∃ W, W = w2.setCell ⟨bx, 0, none⟩ (.int .i64 x1) := ⟨_, rfl⟩
    have HS1 : Hid (W1.heap.size ≤ W3.heap.size) := by
      have h1 : W1.heap.size ≤ w2.heap.size := Nat.le_trans (Nat.le_refl _) hn.size
      rw [eW3, World.size_setCell]
      exact h1
    have S1 : Hid (RSt p a c zs 63 bx w u1 [.int .i64 x1, .slice none 0 0, .slice none 0 0, .int .i64 0, .int .i64 0, .slice none 0 0] W3) := by rw [eW3]; exact T0.put 0 _ rfl (fun n h => by cases h)
    have Q1 := hid hq
    have EW3 := hid eW3
    have HF1 := hid (rlist_ref S1.out.rd)
    clear HF0 hn hr hq T0 eW3 S0 hw1
    go_wp2_with fail
    rw [← EW3.out]
    clear EW3 b0 z0 l0
    refine HF1.out.mono ?_
    rintro e w4 ⟨hn, hr⟩
    cases hq : listC zs (fieldR zs) u1 with
    | error e =>
      rw [hq] at hr
      obtain rfl := hr
      exact panic_out (P := Tryz.prog) (fn := Tryz.f122) (by unfold tabR; rw [Q1.out]; unfold thenR; dsimp only; rw [hq]; exact ⟨S1.out.rn.trans hn, rfl⟩) rfl
    | ok y =>
      obtain ⟨x2, u2⟩ := y
      rw [hq] at hr
      obtain ⟨_, rfl, ⟨g2, rfl, hv2⟩, hr⟩ := hr
      have hv2 : RefsV W3 x2 w4 (.slice (some ⟨g2, 0, none⟩) x2.length x2.length) := ⟨g2, rfl, hv2⟩
      have T1 := S1.out.read hn hr
      have K2 := hid (hv2.low (w0 := W1) (by have := S1.out.rn.size; have := T1.box.lt; first | exact Nat.le_refl _ | exact HS1.out))
      have b1 := T1.box.cell (i := 1) rfl
      have z1 := T1.box.fz 1
      have l1 := T1.box.lt
      obtain ⟨W5, eW5⟩ : ∃ W, W = w4.setCell ⟨bx, 1, none⟩ (.slice (some ⟨g2, 0, none⟩) x2.length x2.length) := ⟨_, rfl⟩
      have HS2 : Hid (W1.heap.size ≤ W5.heap.size) := by
        have h1 : W1.heap.size ≤ w4.heap.size := Nat.le_trans HS1.out hn.size
        rw [eW5, World.size_setCell]
        exact h1
      have S2 : Hid (RSt p a c zs 63 bx w u2 [.int .i64 x1, .slice (some ⟨g2, 0, none⟩) x2.length x2.length, .slice none 0 0, .int .i64 0, .int .i64 0, .slice none 0 0] W5) := by rw [eW5]; exact T1.put 1 _ rfl (fun n h => by cases h)
      have K2 : Hid (RefsV W1 x2 W5 (.slice (some ⟨g2, 0, none⟩) x2.length x2.length)) := by rw [eW5]; exact K2.out.keep (set_keep HBX.out.1 _ _)
      have Q2 := hid hq
      have EW5 := hid eW5
      have HF2 := hid (rlist_int S2.out.rd)
      clear HF1 hn hr hq T1 eW5 S1 hv2
      go_wp2_with fail
      rw [← EW5.out]
      clear EW5 b1 z1 l1
      refine HF2.out.mono ?_
      rintro e w6 ⟨hn, hr⟩
      cases hq : listC zs (numR zs) u2 with
      | error e =>
        rw [hq] at hr
        obtain rfl := hr
        exact panic_out (P := Tryz.prog) (fn := Tryz.f122) (by unfold tabR; rw [Q1.out]; unfold thenR; dsimp only;  rw [Q2.out]; dsimp only; rw [hq]; exact ⟨S2.out.rn.trans hn, rfl⟩) rfl
      | ok y =>
        obtain ⟨x3, u3⟩ := y
        rw [hq] at hr
        obtain ⟨_, rfl, ⟨g3, rfl, hv3⟩, hr⟩ := hr
        have hv3 : IntsV W5 x3 w6 (.slice (some ⟨g3, 0, none⟩) x3.length x3.length) := ⟨g3, rfl, hv3⟩
        have T2 := S2.out.read hn hr
        have K2 := hid (K2.out.keep (rn_keep hn HBX.out.2.1))
        have K3 := hid (hv3.low (w0 := W1) (by have := S2.out.rn.size; have := T2.box.lt; first | exact Nat.le_refl _ | exact HS2.out))
        have b2 := T2.box.cell (i := 2) rfl
        have z2 := T2.box.fz 2
        have l2 := T2.box.lt
        obtain ⟨W7, eW7⟩ : ∃ W, W = w6.setCell ⟨bx, 2, none⟩ (.slice (some ⟨g3, 0, none⟩) x3.length x3.length) := ⟨_, rfl⟩
        have HS3 : Hid (W1.heap.size ≤ W7.heap.size) := by
          have h1 : W1.heap.size ≤ w6.heap.size := Nat.le_trans HS2.out hn.size
          rw [eW7, World.size_setCell]
          exact h1
        have S3 : Hid (RSt p a c zs 63 bx w u3 [.int .i64 x1, .slice (some ⟨g2, 0, none⟩) x2.length x2.length, .slice (some ⟨g3, 0, none⟩) x3.length x3.length, .int .i64 0, .int .i64 0, .slice none 0 0] W7) := by rw [eW7]; exact T2.put 2 _ rfl (fun n h => by cases h)
        have K2 : Hid (RefsV W1 x2 W7 (.slice (some ⟨g2, 0, none⟩) x2.length x2.length)) := by rw [eW7]; exact K2.out.keep (set_keep HBX.out.1 _ _)
        have K3 : Hid (IntsV W1 x3 W7 (.slice (some ⟨g3, 0, none⟩) x3.length x3.length)) := by rw [eW7]; exact K3.out.keep (set_keep HBX.out.1 _ _)
        have Q3 := hid hq
        have EW7 := hid eW7
        have HF3 := hid (rnumber S3.out.rd)
        clear HF2 hn hr hq T2 eW7 S2 hv3
        go_wp2_with fail
        rw [← EW7.out]
        clear EW7 b2 z2 l2
        refine HF3.out.mono ?_
        rintro e w8 ⟨hn, hr⟩
        cases hq : numR zs u3 with
        | error e =>
          rw [hq] at hr
          obtain rfl := hr
          exact panic_out (P := Tryz.prog) (fn := Tryz.f122) (by unfold tabR; rw [Q1.out]; unfold thenR; dsimp only;  rw [Q2.out]; dsimp only;  rw [Q3.out]; dsimp only; rw [hq]; exact ⟨S3.out.rn.trans hn, rfl⟩) rfl
        | ok y =>
          obtain ⟨x4, u4⟩ := y
          rw [hq] at hr
          obtain ⟨_, rfl, ⟨rfl, hw4⟩, hr⟩ := hr
          have T3 := S3.out.read hn hr
          have K2 := hid (K2.out.keep (rn_keep hn HBX.out.2.1))
          have K3 := hid (K3.out.keep (rn_keep hn HBX.out.2.1))
          have HW4 := hid hw4
          have b3 := T3.box.cell (i := 3) rfl
          have z3 := T3.box.fz 3
          have l3 := T3.box.lt
          obtain ⟨W9, eW9⟩ : ∃ W, W = w8.setCell ⟨bx, 3, none⟩ (.int .i64 x4) := ⟨_, rfl⟩
          have HS4 : Hid (W1.heap.size ≤ W9.heap.size) := by
            have h1 : W1.heap.size ≤ w8.heap.size := Nat.le_trans HS3.out hn.size
            rw [eW9, World.size_setCell]
            exact h1
          have S4 : Hid (RSt p a c zs 63 bx w u4 [.int .i64 x1, .slice (some ⟨g2, 0, none⟩) x2.length x2.length, .slice (some ⟨g3, 0, none⟩) x3.length x3.length, .int .i64 x4, .int .i64 0, .slice none 0 0] W9) := by rw [eW9]; exact T3.put 3 _ rfl (fun n h => by cases h)
          have K2 : Hid (RefsV W1 x2 W9 (.slice (some ⟨g2, 0, none⟩) x2.length x2.length)) := by rw [eW9]; exact K2.out.keep (set_keep HBX.out.1 _ _)
          have K3 : Hid (IntsV W1 x3 W9 (.slice (some ⟨g3, 0, none⟩) x3.length x3.length)) := by rw [eW9]; exact K3.out.keep (set_keep HBX.out.1 _ _)
          have Q4 := hid hq
          have EW9 := hid eW9
          have HF4 := hid (rnumber S4.out.rd)
          clear HF3 hn hr hq T3 eW9 S3 hw4
          go_wp2_with fail
          rw [← EW9.out]
          clear EW9 b3 z3 l3
          refine HF4.out.mono ?_
          rintro e w10 ⟨hn, hr⟩
          cases hq : numR zs u4 with
          | error e =>
            rw [hq] at hr
            obtain rfl := hr
            exact panic_out (P := Tryz.prog) (fn := Tryz.f122) (by unfold tabR; rw [Q1.out]; unfold thenR; dsimp only;  rw [Q2.out]; dsimp only;  rw [Q3.out]; dsimp only;  rw [Q4.out]; dsimp only; rw [hq]; exact ⟨S4.out.rn.trans hn, rfl⟩) rfl
          | ok y =>
            obtain ⟨x5, u5⟩ := y
            rw [hq] at hr
            obtain ⟨_, rfl, ⟨rfl, hw5⟩, hr⟩ := hr
            have T4 := S4.out.read hn hr
            have K2 := hid (K2.out.keep (rn_keep hn HBX.out.2.1))
            have K3 := hid (K3.out.keep (rn_keep hn HBX.out.2.1))
            have HW5 := hid hw5
            have b4 := T4.box.cell (i := 4) rfl
            have z4 := T4.box.fz 4
            have l4 := T4.box.lt
            obtain ⟨W11, eW11⟩ : ∃ W, W = w10.setCell ⟨bx, 4, none⟩ (.int .i64 x5) := ⟨_, rfl⟩
            have HS5 : Hid (W1.heap.size ≤ W11.heap.size) := by
              have h1 : W1.heap.size ≤ w10.heap.size := Nat.le_trans HS4.out hn.size
              rw [eW11, World.size_setCell]
              exact h1
            have S5 : Hid (RSt p a c zs 63 bx w u5 [.int .i64 x1, .slice (some ⟨g2, 0, none⟩) x2.length x2.length, .slice (some ⟨g3, 0, none⟩) x3.length x3.length, .int .i64 x4, .int .i64 x5, .slice none 0 0] W11) := by rw [eW11]; exact T4.put 4 _ rfl (fun n h => by cases h)
            have K2 : Hid (RefsV W1 x2 W11 (.slice (some ⟨g2, 0, none⟩) x2.length x2.length)) := by rw [eW11]; exact K2.out.keep (set_keep HBX.out.1 _ _)
            have K3 : Hid (IntsV W1 x3 W11 (.slice (some ⟨g3, 0, none⟩) x3.length x3.length)) := by rw [eW11]; exact K3.out.keep (set_keep HBX.out.1 _ _)
            have Q5 := hid hq
            have EW11 := hid eW11
            have HF5 := hid (rlist_u64 S5.out.rd)
            clear HF4 hn hr hq T4 eW11 S4 hw5
            go_wp2_with fail
            rw [← EW11.out]
            clear EW11 b4 z4 l4
            refine HF5.out.mono ?_
            rintro e w12 ⟨hn, hr⟩
            cases hq : listC zs (plainI zs) u5 with
            | error e =>
              rw [hq] at hr
              obtain rfl := hr
              exact panic_out (P := Tryz.prog) (fn := Tryz.f122) (by unfold tabR; rw [Q1.out]; unfold thenR; dsimp only;  rw [Q2.out]; dsimp only;  rw [Q3.out]; dsimp only;  rw [Q4.out]; dsimp only;  rw [Q5.out]; dsimp only; rw [hq]; exact ⟨S5.out.rn.trans hn, rfl⟩) rfl
            | ok y =>
              obtain ⟨x6, u6⟩ := y
              rw [hq] at hr
              obtain ⟨_, rfl, ⟨g6, rfl, hv6⟩, hr⟩ := hr
              have hv6 : NumsV W11 x6 w12 (.slice (some ⟨g6, 0, none⟩) x6.length x6.length) := ⟨g6, rfl, hv6⟩
              have T5 := S5.out.read hn hr
              have K2 := hid (K2.out.keep (rn_keep hn HBX.out.2.1))
              have K3 := hid (K3.out.keep (rn_keep hn HBX.out.2.1))
              have K6 := hid (hv6.low (w0 := W1) (by have := S5.out.rn.size; have := T5.box.lt; first | exact Nat.le_refl _ | exact HS5.out))
              have b5 := T5.box.cell (i := 5) rfl
              have z5 := T5.box.fz 5
              have l5 := T5.box.lt
              obtain ⟨W13, eW13⟩ : ∃ W, W = w12.setCell ⟨bx, 5, none⟩ (.slice (some ⟨g6, 0, none⟩) x6.length x6.length) := ⟨_, rfl⟩
              have HS6 : Hid (W1.heap.size ≤ W13.heap.size) := by
                have h1 : W1.heap.size ≤ w12.heap.size := Nat.le_trans HS5.out hn.size
                rw [eW13, World.size_setCell]
                exact h1
              have S6 : Hid (RSt p a c zs 63 bx w u6 [.int .i64 x1, .slice (some ⟨g2, 0, none⟩) x2.length x2.length, .slice (some ⟨g3, 0, none⟩) x3.length x3.length, .int .i64 x4, .int .i64 x5, .slice (some ⟨g6, 0, none⟩) x6.length x6.length] W13) := by rw [eW13]; exact T5.put 5 _ rfl (fun n h => by cases h)
              have K2 : Hid (RefsV W1 x2 W13 (.slice (some ⟨g2, 0, none⟩) x2.length x2.length)) := by rw [eW13]; exact K2.out.keep (set_keep HBX.out.1 _ _)
              have K3 : Hid (IntsV W1 x3 W13 (.slice (some ⟨g3, 0, none⟩) x3.length x3.length)) := by rw [eW13]; exact K3.out.keep (set_keep HBX.out.1 _ _)
              have K6 : Hid (NumsV W1 x6 W13 (.slice (some ⟨g6, 0, none⟩) x6.length x6.length)) := by rw [eW13]; exact K6.out.keep (set_keep HBX.out.1 _ _)
              have Q6 := hid hq
              have EW13 := hid eW13
              clear HF5 hn hr hq T5 eW13 S5 hv6
              go_upto_region 7 with fail
              rw [← EW13.out]
              clear EW13 b5 z5 l5
              have S7 := ((((((S6.out.put 0 (.int .i64 x1) rfl (fun n h => by cases h)).put 1 (.slice (some ⟨g2, 0, none⟩) x2.length x2.length) rfl (fun n h => by cases h)).put 2 (.slice (some ⟨g3, 0, none⟩) x3.length x3.length) rfl (fun n h => by cases h)).put 3 (.int .i64 x4) rfl (fun n h => by cases h)).put 4 (.int .i64 x5) rfl (fun n h => by cases h)).put 5 (.slice (some ⟨g6, 0, none⟩) x6.length x6.length) rfl (fun n h => by cases h))
              have HE : Hid (RDone p a c zs (TabV w) (tabR zs t) w (.returned (.agg #[.int .i64 x1, .slice (some ⟨g2, 0, none⟩) x2.length x2.length, .slice (some ⟨g3, 0, none⟩) x3.length x3.length, .int .i64 x4, .int .i64 x5, .slice (some ⟨g6, 0, none⟩) x6.length x6.length])) ((((((W13.setCell ⟨bx, 0, none⟩ (.int .i64 x1)).setCell ⟨bx, 1, none⟩ (.slice (some ⟨g2, 0, none⟩) x2.length x2.length)).setCell ⟨bx, 2, none⟩ (.slice (some ⟨g3, 0, none⟩) x3.length x3.length)).setCell ⟨bx, 3, none⟩ (.int .i64 x4)).setCell ⟨bx, 4, none⟩ (.int .i64 x5)).setCell ⟨bx, 5, none⟩ (.slice (some ⟨g6, 0, none⟩) x6.length x6.length))) := by
                show RDone _ _ _ _ _ _ _ _ _
                unfold tabR
                rw [Q1.out]
                unfold thenR
                dsimp only
                rw [Q2.out]
                dsimp only
                rw [Q3.out]
                dsimp only
                rw [Q4.out]
                dsimp only
                rw [Q5.out]
                dsimp only
                rw [Q6.out]
                dsimp only
                exact ⟨S7.rn, _, rfl, ⟨_, _, _, rfl, (((((((K2.out.keep (set_keep HBX.out.1 0 (.int .i64 x1))).keep (set_keep HBX.out.1 1 (.slice (some ⟨g2, 0, none⟩) x2.length x2.length))).keep (set_keep HBX.out.1 2 (.slice (some ⟨g3, 0, none⟩) x3.length x3.length))).keep (set_keep HBX.out.1 3 (.int .i64 x4))).keep (set_keep HBX.out.1 4 (.int .i64 x5))).keep (set_keep HBX.out.1 5 (.slice (some ⟨g6, 0, none⟩) x6.length x6.length))).low HBX.out.2.2), (((((((K3.out.keep (set_keep HBX.out.1 0 (.int .i64 x1))).keep (set_keep HBX.out.1 1 (.slice (some ⟨g2, 0, none⟩) x2.length x2.length))).keep (set_keep HBX.out.1 2 (.slice (some ⟨g3, 0, none⟩) x3.length x3.length))).keep (set_keep HBX.out.1 3 (.int .i64 x4))).keep (set_keep HBX.out.1 4 (.int .i64 x5))).keep (set_keep HBX.out.1 5 (.slice (some ⟨g6, 0, none⟩) x6.length x6.length))).low HBX.out.2.2), (((((((K6.out.keep (set_keep HBX.out.1 0 (.int .i64 x1))).keep (set_keep HBX.out.1 1 (.slice (some ⟨g2, 0, none⟩) x2.length x2.length))).keep (set_keep HBX.out.1 2 (.slice (some ⟨g3, 0, none⟩) x3.length x3.length))).keep (set_keep HBX.out.1 3 (.int .i64 x4))).keep (set_keep HBX.out.1 4 (.int .i64 x5))).keep (set_keep HBX.out.1 5 (.slice (some ⟨g6, 0, none⟩) x6.length x6.length))).low HBX.out.2.2), HW1.out, HW4.out, HW5.out⟩, S7.rd⟩
              have b0 := S6.out.box.cell (i := 0) rfl
              have z0 := S6.out.box.fz 0
              have b1 := S6.out.box.cell (i := 1) rfl
              have z1 := S6.out.box.fz 1
              have b2 := S6.out.box.cell (i := 2) rfl
              have z2 := S6.out.box.fz 2
              have b3 := S6.out.box.cell (i := 3) rfl
              have z3 := S6.out.box.fz 3
              have b4 := S6.out.box.cell (i := 4) rfl
              have z4 := S6.out.box.fz 4
              have b5 := S6.out.box.cell (i := 5) rfl
              have z5 := S6.out.box.fz 5
              have l0 := S6.out.box.lt
              clear S6 S7 K2 K3 K6 Q1 Q2 Q3 Q4 Q5 Q6 HW1 HW4 HW5
              go_wp2
              exact bodyPost_ret (v := .agg #[.int .i64 x1, .slice (some ⟨g2, 0, none⟩) x2.length x2.length, .slice (some ⟨g3, 0, none⟩) x3.length x3.length, .int .i64 x4, .int .i64 x5, .slice (some ⟨g6, 0, none⟩) x6.length x6.length]) (by simp [results, Tryz.results122, go_sem, *]) rfl HE.out
end Go.Proofs.YtedeiaokohdhpaaGreat
