/- What cut does. -/
import Derived.Test.YtlnkfgdepddmlacTGrow
namespace Go.Proofs.Ytlnkfgdepddmlac
open Go.RowKit Mth

/-- what is left of the nodes behind cut -/
structure CutTo (w w' : World) (B p W : Nat) (N : Ways) (C : Told2) (wd most many : Int) (i v : Nat) (r : Bool) (N' : Ways) : Prop where
  t : Trie w' B p W N' C
  same : ∀ m u, m ≤ i → N' m u = N m u
  hd : Head w' p wd most many
  bel : Below B w w'
  mov : Moved w w'
  leaf : r = true → N' (i + 1) (2 * v) = none ∧ N' (i + 1) (2 * v + 1) = none ∧ C i v = none

def CutDone (w w' : World) (B p W : Nat) (N : Ways) (C : Told2) (wd most many : Int) (i v : Nat) (e : Ending) : Prop := ∃ r N', e = .returned (.bool r) ∧ CutTo w w' B p W N C wd most many i v r N'

/-- what cut tells of a node -/
theorem cut_leaf {w w' : World} {B p W : Nat} {N N' : Ways} {C : Told2} {wd most many : Int} {i v : Nat} (t : Trie w' B p W N' C) (same : ∀ m u, m ≤ i → N' m u = N m u) (hd : Head w' p wd most many) (hb : Below B w w') (hm : Moved w w')
    (h1 : N' (i + 1) (2 * v) = none) (h2 : N' (i + 1) (2 * v + 1) = none) (h3 : C i v = none) : CutTo w w' B p W N C wd most many i v true N' := ⟨t, same, hd, hb, hm, fun _ => ⟨h1, h2, h3⟩⟩

theorem cut_more {w w' : World} {B p W : Nat} {N N' : Ways} {C : Told2} {wd most many : Int} {i v : Nat} (t : Trie w' B p W N' C) (same : ∀ m u, m ≤ i → N' m u = N m u) (hd : Head w' p wd most many) (hb : Below B w w') (hm : Moved w w') :
    CutTo w w' B p W N C wd most many i v false N' := ⟨t, same, hd, hb, hm, fun h => by cases h⟩

/-- a node's three cells -/
theorem Trie.three {w : World} {B p W : Nat} {N : Ways} {C : Told2} (t : Trie w B p W N C) {n v b o : Nat} (ha : N n v = some (b, o)) :
    w.cell? ⟨b, o, none⟩ = some (ptr (N (n + 1) (2 * v))) ∧ w.cell? ⟨b, o + 1, none⟩ = some (ptr (N (n + 1) (2 * v + 1))) ∧ ∃ x, w.cell? ⟨b, o + 2, none⟩ = some x ∧ Said w x (C n v) :=
  ⟨(t.node _ _ _ ha).c0, (t.node _ _ _ ha).c1, (t.node _ _ _ ha).c2⟩

set_option maxHeartbeats 2000000 in
set_option maxRecDepth 20000 in
theorem cut_any (d : Nat) : ∀ {w : World} {B p W key n i : Nat} {N : Ways} {C : Told2} {most many : Int} {a z : Loc}, n = i + d → Trie w B p W N C → Head w p W most many → W ≤ 64 → n ≤ W → N i (key / 2 ^ (W - i)) = some a → N n (key / 2 ^ (W - n)) = some z →
    Calls Try.prog 43 #[.pointer (some ⟨p, 0, none⟩), ptr (some a), .int .u64 key, .int .i64 i, .int .i64 n] w fun e w' => CutDone w w' B p W N (upC C n (key / 2 ^ (W - n)) none) W most many i (key / 2 ^ (W - i)) e := by
  induction d with
  | zero =>
    intro w B p W key n i N C most many a z hd0 t hd hW hn ha hz
    have e : n = i := by omega
    subst e
    obtain ⟨b, o⟩ := a
    generalize hC' : upC C n (key / 2 ^ (W - n)) none = C' at *
    have hC0 : C' n (key / 2 ^ (W - n)) = none := by rw [← hC', upC_same]
    have t2 : Trie (w.setCell ⟨b, o + 2, none⟩ (.pointer none)) B p W N C' := by rw [← hC']; exact t.say ha (x := .pointer none) (s := none) rfl
    have h2 := t.head ha hd 2 (.pointer none)
    have bb : Below B w (w.setCell ⟨b, o + 2, none⟩ (.pointer none)) := (Below.refl _ _).setCell (t.base _ _ _ ha) _
    have mm : Moved w (w.setCell ⟨b, o + 2, none⟩ (.pointer none)) := moved_set (t.node _ _ _ ha).lo _
    obtain ⟨k0, k1, x, k2, _⟩ := t.three ha
    obtain ⟨m0, m1, _⟩ := t2.three ha
    have f2 := (t.node _ _ _ ha).f2
    clear t hd hz hC' hd0
    have hself : ((n : Int) == (n : Int)) = true := by simp
    generalize key / 2 ^ (W - n) = v at *
    cases hl : N (n + 1) (2 * v) with
    | some l =>
      have HR := hid (cut_more (N := N) t2 (fun _ _ _ => rfl) h2 bb mm (i := n) (v := v))
      rw [hl] at k0 m0
      clear t2 h2 bb mm ha hl k1 m1
      simp only [ptr] at k0 m0 ⊢
      go_enter Try.func43, Try.ntmps43
      go_wp2
      go_ret
      exact ⟨_, _, rfl, HR.out⟩
    | none =>
      cases hr : N (n + 1) (2 * v + 1) with
      | some l =>
        have HR := hid (cut_more (N := N) t2 (fun _ _ _ => rfl) h2 bb mm (i := n) (v := v))
        rw [hl] at k0 m0
        rw [hr] at k1 m1
        clear t2 h2 bb mm ha hl hr
        simp only [ptr] at k0 m0 k1 m1 ⊢
        go_enter Try.func43, Try.ntmps43
        go_wp2
        go_ret
        exact ⟨_, _, rfl, HR.out⟩
      | none =>
        have HR := hid (cut_leaf (N := N) t2 (fun _ _ _ => rfl) h2 bb mm (i := n) (v := v) hl hr hC0)
        rw [hl] at k0 m0
        rw [hr] at k1 m1
        clear t2 h2 bb mm ha hl hr
        simp only [ptr] at k0 m0 k1 m1 ⊢
        go_enter Try.func43, Try.ntmps43
        go_wp2
        go_ret
        exact ⟨_, _, rfl, HR.out⟩
  | succ d ih =>
    intro w B p W key n i N C most many a z hd0 t hd hW hn ha hz
    obtain ⟨b, o⟩ := a
    have hiW : i < W := by omega
    have hbit := bitAt_lt W key i
    have hway := way_next W key i hiW
    obtain ⟨c, hc⟩ : ∃ c, N (i + 1) (key / 2 ^ (W - (i + 1))) = some c := by
      cases h : N (i + 1) (key / 2 ^ (W - (i + 1))) with
      | none => rw [t.gone (by omega) hn h] at hz; cases hz
      | some c => exact ⟨c, rfl⟩
    have hI := ih (by omega : n = i + 1 + d) t hd hW hn hc hz
    rw [show (((i + 1 : Nat)) : Int) = (i : Int) + 1 from by omega] at hI
    have HI := hid hI
    clear hI
    have HB := hid (bit_any (key := key) hd.c0 hW hiW)
    have kc := t.on (key := key) hiW ha
    rw [hc] at kc
    have hne : ((i : Int) == (n : Int)) = false := by simp; omega
    generalize hC' : upC C n (key / 2 ^ (W - n)) none = C' at *
    have HA := hid ha
    have HCC := hid hc
    have HW := hid hway
    clear t hd hz ih hC' ha hc hway hd0
    generalize bitAt W key i = β at *
    have hb0 : (β : Int) < 2 := by omega
    simp only [ptr] at kc HI ⊢
    go_enter Try.func43, Try.ntmps43
    go_wp2_with (go_at_call 44; refine HB.out.mono ?_; rintro e w1 ⟨rfl, rfl⟩)
    refine HI.out.mono ?_
    rintro e w2 ⟨r, N', rfl, hcut⟩
    have ha2 : N' i (key / 2 ^ (W - i)) = some (b, o) := by rw [hcut.same _ _ (by omega)]; exact HA.out
    have hc2 : N' (i + 1) (2 * (key / 2 ^ (W - i)) + β) = some c := by rw [hcut.same _ _ (by omega), ← HW.out]; exact HCC.out
    cases r with
    | true =>
      obtain ⟨l1, l2, l3⟩ := hcut.leaf rfl
      rw [HW.out] at l1 l2 l3
      have t3 := hcut.t.unlink (by omega : β < 2) ha2 hc2 l1 l2 l3
      have h3 := hcut.t.head ha2 hcut.hd β (.pointer none)
      have bb : Below B w1 (w2.setCell ⟨b, o + β, none⟩ (.pointer none)) := hcut.bel.setCell (hcut.t.base _ _ _ ha2) _
      have mm : Moved w1 (w2.setCell ⟨b, o + β, none⟩ (.pointer none)) := hcut.mov.trans (moved_set (hcut.t.node _ _ _ ha2).lo _)
      have kk := (hcut.t.node _ _ _ ha2).child (N := N') β hbit
      rw [hc2] at kk
      obtain ⟨kk, kf⟩ := kk
      simp only [ptr] at kk
      generalize hNN : upN N' (i + 1) (2 * (key / 2 ^ (W - i)) + β) none = NN at *
      have ha3 : NN i (key / 2 ^ (W - i)) = some (b, o) := by rw [← hNN, upN_other _ _ (by omega)]; exact ha2
      have sm : ∀ m u, m ≤ i → NN m u = N m u := fun m u hm => by rw [← hNN, upN_other _ _ (by omega)]; exact hcut.same m u (by omega)
      obtain ⟨m0, m1, x, m2, hs⟩ := t3.three ha3
      clear hcut ha2 hc2 ha3 hNN l1 l2 l3 HA HCC HW HB HI kc
      cases hC : C' i (key / 2 ^ (W - i)) with
      | some x =>
        have HR := hid (cut_more (N := N) t3 sm h3 bb mm (i := i) (v := key / 2 ^ (W - i)))
        rw [hC] at hs
        obtain ⟨q, rfl, _⟩ := hs
        clear t3 sm h3 bb mm hC
        go_wp2
        go_ret
        exact ⟨_, _, rfl, HR.out⟩
      | none =>
        rw [hC] at hs
        have e : x = .pointer none := hs
        subst e
        cases hl : NN (i + 1) (2 * (key / 2 ^ (W - i))) with
        | some l =>
          have HR := hid (cut_more (N := N) t3 sm h3 bb mm (i := i) (v := key / 2 ^ (W - i)))
          rw [hl] at m0
          simp only [ptr] at m0
          clear t3 sm h3 bb mm hC hl m1
          go_wp2
          go_ret
          exact ⟨_, _, rfl, HR.out⟩
        | none =>
          cases hr : NN (i + 1) (2 * (key / 2 ^ (W - i)) + 1) with
          | some l =>
            have HR := hid (cut_more (N := N) t3 sm h3 bb mm (i := i) (v := key / 2 ^ (W - i)))
            rw [hl] at m0
            rw [hr] at m1
            simp only [ptr] at m0 m1
            clear t3 sm h3 bb mm hC hl hr
            go_wp2
            go_ret
            exact ⟨_, _, rfl, HR.out⟩
          | none =>
            have HR := hid (cut_leaf (N := N) t3 sm h3 bb mm (i := i) (v := key / 2 ^ (W - i)) hl hr hC)
            rw [hl] at m0
            rw [hr] at m1
            simp only [ptr] at m0 m1
            clear t3 sm h3 bb mm hC hl hr
            go_wp2
            go_ret
            exact ⟨_, _, rfl, HR.out⟩
    | false =>
      obtain ⟨t3, same, h3, bb, mm, _⟩ := hcut
      have sm : ∀ m u, m ≤ i → N' m u = N m u := fun m u hm => same m u (by omega)
      obtain ⟨m0, m1, x, m2, hs⟩ := t3.three ha2
      clear same ha2 hc2 HA HCC HW HB HI kc
      generalize hNN : N' = NN at *
      clear hNN
      cases hC : C' i (key / 2 ^ (W - i)) with
      | some x =>
        have HR := hid (cut_more (N := N) t3 sm h3 bb mm (i := i) (v := key / 2 ^ (W - i)))
        rw [hC] at hs
        obtain ⟨q, rfl, _⟩ := hs
        clear t3 sm h3 bb mm hC
        go_wp2
        go_ret
        exact ⟨_, _, rfl, HR.out⟩
      | none =>
        rw [hC] at hs
        have e : x = .pointer none := hs
        subst e
        cases hl : NN (i + 1) (2 * (key / 2 ^ (W - i))) with
        | some l =>
          have HR := hid (cut_more (N := N) t3 sm h3 bb mm (i := i) (v := key / 2 ^ (W - i)))
          rw [hl] at m0
          simp only [ptr] at m0
          clear t3 sm h3 bb mm hC hl m1
          go_wp2
          go_ret
          exact ⟨_, _, rfl, HR.out⟩
        | none =>
          cases hr : NN (i + 1) (2 * (key / 2 ^ (W - i)) + 1) with
          | some l =>
            have HR := hid (cut_more (N := N) t3 sm h3 bb mm (i := i) (v := key / 2 ^ (W - i)))
            rw [hl] at m0
            rw [hr] at m1
            simp only [ptr] at m0 m1
            clear t3 sm h3 bb mm hC hl hr
            go_wp2
            go_ret
            exact ⟨_, _, rfl, HR.out⟩
          | none =>
            have HR := hid (cut_leaf (N := N) t3 sm h3 bb mm (i := i) (v := key / 2 ^ (W - i)) hl hr hC)
            rw [hl] at m0
            rw [hr] at m1
            simp only [ptr] at m0 m1
            clear t3 sm h3 bb mm hC hl hr
            go_wp2
            go_ret
            exact ⟨_, _, rfl, HR.out⟩
end Go.Proofs.Ytlnkfgdepddmlac
