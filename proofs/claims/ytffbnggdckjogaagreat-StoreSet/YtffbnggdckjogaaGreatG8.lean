/- Texts of one chain, joined: TCut, TFind. -/
import Derived.Test.YtffbnggdckjogaaGreatG6
namespace Go.Proofs.YtffbnggdckjogaaGreat
open Go.RowKit Mth
structure CutTo (w w' : World) (B : Nat → Prop) (p W : Nat) (N : Ways) (C : Told2) (wd most many : Int) (i v : Nat) (r : Bool) (N' : Ways) : Prop where
  t : Trie w' B p W N' C
  same : ∀ m u, m ≤ i → N' m u = N m u
  hd : Head w' p wd most many
  bel : BelZ B w w'
  mov : Moved w w'
  leaf : r = true → N' (i + 1) (2 * v) = none ∧ N' (i + 1) (2 * v + 1) = none ∧ C i v = none
def CutDone (w w' : World) (B : Nat → Prop) (p W : Nat) (N : Ways) (C : Told2) (wd most many : Int) (i v : Nat) (e : Ending) : Prop := ∃ r N', e = .returned (.bool r) ∧ CutTo w w' B p W N C wd most many i v r N'
theorem cut_leaf {w w' : World} {B : Nat → Prop} {p W : Nat} {N N' : Ways} {C : Told2} {wd most many : Int} {i v : Nat} (t : Trie w' B p W N' C) (same : ∀ m u, m ≤ i → N' m u = N m u) (hd : Head w' p wd most many) (hb : BelZ B w w') (hm : Moved w w')
    (h1 : N' (i + 1) (2 * v) = none) (h2 : N' (i + 1) (2 * v + 1) = none) (h3 : C i v = none) : CutTo w w' B p W N C wd most many i v true N' := ⟨t, same, hd, hb, hm, fun _ => ⟨h1, h2, h3⟩⟩
theorem cut_more {w w' : World} {B : Nat → Prop} {p W : Nat} {N N' : Ways} {C : Told2} {wd most many : Int} {i v : Nat} (t : Trie w' B p W N' C) (same : ∀ m u, m ≤ i → N' m u = N m u) (hd : Head w' p wd most many) (hb : BelZ B w w') (hm : Moved w w') :
    CutTo w w' B p W N C wd most many i v false N' := ⟨t, same, hd, hb, hm, fun h => by cases h⟩
theorem Trie.three {w : World} {B : Nat → Prop} {p W : Nat} {N : Ways} {C : Told2} (t : Trie w B p W N C) {n v b o : Nat} (ha : N n v = some (b, o)) :
    w.cell? ⟨b, o, none⟩ = some (ptr (N (n + 1) (2 * v))) ∧ w.cell? ⟨b, o + 1, none⟩ = some (ptr (N (n + 1) (2 * v + 1))) ∧ ∃ x, w.cell? ⟨b, o + 2, none⟩ = some x ∧ Said w x (C n v) :=
  ⟨(t.node _ _ _ ha).c0, (t.node _ _ _ ha).c1, (t.node _ _ _ ha).c2⟩
set_option maxHeartbeats 2000000 in
set_option maxRecDepth 20000 in
theorem cut_any (d : Nat) : ∀ {w : World} {B : Nat → Prop} {p W key n i : Nat} {N : Ways} {C : Told2} {most many : Int} {a z : Loc}, n = i + d → Trie w B p W N C → Head w p W most many → W ≤ 64 → n ≤ W → N i (key / 2 ^ (W - i)) = some a → N n (key / 2 ^ (W - n)) = some z →
    Calls Tryz.prog 106 #[.pointer (some ⟨p, 0, none⟩), ptr (some a), .int .u64 key, .int .i64 i, .int .i64 n] w fun e w' => CutDone w w' B p W N (upC C n (key / 2 ^ (W - n)) none) W most many i (key / 2 ^ (W - i)) e := by
  induction d with
  | zero =>
    intro w B p W key n i N C most many a z hd0 t hd hW hn ha hz
    have e : n = i := by omega
    subst e
    obtain ⟨b, o⟩ := a
    generalize hC' : upC C n (key / 2 ^ (W - n)) none = C' at *
    have hC0 : C' n (key / 2 ^ (W - n)) = none := by rw [← hC', upC_same]
    have t2 : Trie (w.setCell ⟨b, o + 2, none⟩ (.pointer none)) B p W N C' := by rw [← hC']; exact t.say ha (x := .pointer none) (s := none) rfl
    have h2 := t.head ha hd 2 (.pointer none)
    have bb : BelZ B w (w.setCell ⟨b, o + 2, none⟩ (.pointer none)) := (BelZ.refl _ _).setCell (t.base _ _ _ ha) _
    have mm : Moved w (w.setCell ⟨b, o + 2, none⟩ (.pointer none)) := moved_set (t.node _ _ _ ha).lo _
    obtain ⟨k0, k1, x, k2, _⟩ := t.three ha
    obtain ⟨m0, m1, _⟩ := t2.three ha
    have f2 := (t.node _ _ _ ha).f2
    clear t hd hz hC' hd0
    have hself : ((n : Int) == (n : Int)) = true := by simp
    generalize key / 2 ^ (W - n) = v at *
    cases hl : N (n + 1) (2 * v) with
    | some l =>
      have HR := hid (cut_more (N := N) t2 (fun _ _ _ => rfl) h2 bb mm (i := n) (v := v))
      rw [hl] at k0 m0
      clear t2 h2 bb mm ha hl k1 m1
      simp only [ptr] at k0 m0 ⊢
      go_enter Tryz.func106, Tryz.ntmps106
      go_wp2
      go_ret
      exact ⟨_, _, rfl, HR.out⟩
    | none =>
      cases hr : N (n + 1) (2 * v + 1) with
      | some l =>
        have HR := hid (cut_more (N := N) t2 (fun _ _ _ => rfl) h2 bb mm (i := n) (v := v))
        rw [hl] at k0 m0
        rw [hr] at k1 m1
        clear t2 h2 bb mm ha hl hr
        simp only [ptr] at k0 m0 k1 m1 ⊢
        go_enter Tryz.func106, Tryz.ntmps106
        go_wp2
        go_ret
        exact ⟨_, _, rfl, HR.out⟩
      | none =>
        have HR := hid (cut_leaf (N := N) t2 (fun _ _ _ => rfl) h2 bb mm (i := n) (v := v) hl hr hC0)
        rw [hl] at k0 m0
        rw [hr] at k1 m1
        clear t2 h2 bb mm ha hl hr
        simp only [ptr] at k0 m0 k1 m1 ⊢
        go_enter Tryz.func106, Tryz.ntmps106
        go_wp2
        go_ret
        exact ⟨_, _, rfl, HR.out⟩
  | succ d ih =>
    intro w B p W key n i N C most many a z hd0 t hd hW hn ha hz
    obtain ⟨b, o⟩ := a
    have hiW : i < W := by omega
    have hbit := bitAt_lt W key i
    have hway := way_next W key i hiW
    obtain ⟨c, hc⟩ : ∃ c, N (i + 1) (key / 2 ^ (W - (i + 1))) = some c := by
      cases h : N (i + 1) (key / 2 ^ (W - (i + 1))) with
      | none => rw [t.gone (by omega) hn h] at hz; cases hz
      | some c => exact ⟨c, rfl⟩
    have hI := ih (by omega : n = i + 1 + d) t hd hW hn hc hz
    rw [show (((i + 1 : Nat)) : Int) = (i : Int) + 1 from by omega] at hI
    have HI := hid hI
    clear hI
    have HB := hid (bit_any (key := key) hd.c0 hW hiW)
    have kc := t.on (key := key) hiW ha
    rw [hc] at kc
    have hne : ((i : Int) == (n : Int)) = false := by simp; omega
    generalize hC' : upC C n (key / 2 ^ (W - n)) none = C' at *
    have HA := hid ha
    have HCC := hid hc
    have HW := hid hway
    clear t hd hz ih hC' ha hc hway hd0
    generalize bitAt W key i = β at *
    have hb0 : (β : Int) < 2 := by omega
    simp only [ptr] at kc HI ⊢
    go_enter Tryz.func106, Tryz.ntmps106
    go_wp2_with (go_at_call 107; refine HB.out.mono ?_; rintro e w1 ⟨rfl, rfl⟩)
    refine HI.out.mono ?_
    rintro e w2 ⟨r, N', rfl, hcut⟩
    have ha2 : N' i (key / 2 ^ (W - i)) = some (b, o) := by rw [hcut.same _ _ (by omega)]; exact HA.out
    have hc2 : N' (i + 1) (2 * (key / 2 ^ (W - i)) + β) = some c := by rw [hcut.same _ _ (by omega), ← HW.out]; exact HCC.out
    cases r with
    | true =>
      obtain ⟨l1, l2, l3⟩ := hcut.leaf rfl
      rw [HW.out] at l1 l2 l3
      have t3 := hcut.t.unlink (by omega : β < 2) ha2 hc2 l1 l2 l3
      have h3 := hcut.t.head ha2 hcut.hd β (.pointer none)
      have bb : BelZ B w1 (w2.setCell ⟨b, o + β, none⟩ (.pointer none)) := hcut.bel.setCell (hcut.t.base _ _ _ ha2) _
      have mm : Moved w1 (w2.setCell ⟨b, o + β, none⟩ (.pointer none)) := hcut.mov.trans (moved_set (hcut.t.node _ _ _ ha2).lo _)
      have kk := (hcut.t.node _ _ _ ha2).child (N := N') β hbit
      rw [hc2] at kk
      obtain ⟨kk, kf⟩ := kk
      simp only [ptr] at kk
      generalize hNN : upN N' (i + 1) (2 * (key / 2 ^ (W - i)) + β) none = NN at *
      have ha3 : NN i (key / 2 ^ (W - i)) = some (b, o) := by rw [← hNN, upN_other _ _ (by omega)]; exact ha2
      have sm : ∀ m u, m ≤ i → NN m u = N m u := fun m u hm => by rw [← hNN, upN_other _ _ (by omega)]; exact hcut.same m u (by omega)
      obtain ⟨m0, m1, x, m2, hs⟩ := t3.three ha3
      clear hcut ha2 hc2 ha3 hNN l1 l2 l3 HA HCC HW HB HI kc
      cases hC : C' i (key / 2 ^ (W - i)) with
      | some x =>
        have HR := hid (cut_more (N := N) t3 sm h3 bb mm (i := i) (v := key / 2 ^ (W - i)))
        rw [hC] at hs
        obtain ⟨q, rfl, _⟩ := hs
        clear t3 sm h3 bb mm hC
        go_wp2
        go_ret
        exact ⟨_, _, rfl, HR.out⟩
      | none =>
        rw [hC] at hs
        have e : x = .pointer none := hs
        subst e
        cases hl : NN (i + 1) (2 * (key / 2 ^ (W - i))) with
        | some l =>
          have HR := hid (cut_more (N := N) t3 sm h3 bb mm (i := i) (v := key / 2 ^ (W - i)))
          rw [hl] at m0
          simp only [ptr] at m0
          clear t3 sm h3 bb mm hC hl m1
          go_wp2
          go_ret
          exact ⟨_, _, rfl, HR.out⟩
        | none =>
          cases hr : NN (i + 1) (2 * (key / 2 ^ (W - i)) + 1) with
          | some l =>
            have HR := hid (cut_more (N := N) t3 sm h3 bb mm (i := i) (v := key / 2 ^ (W - i)))
            rw [hl] at m0
            rw [hr] at m1
            simp only [ptr] at m0 m1
            clear t3 sm h3 bb mm hC hl hr
            go_wp2
            go_ret
            exact ⟨_, _, rfl, HR.out⟩
          | none =>
            have HR := hid (cut_leaf (N := N) t3 sm h3 bb mm (i := i) (v := key / 2 ^ (W - i)) hl hr hC)
            rw [hl] at m0
            rw [hr] at m1
            simp only [ptr] at m0 m1
            clear t3 sm h3 bb mm hC hl hr
            go_wp2
            go_ret
            exact ⟨_, _, rfl, HR.out⟩
    | false =>
      obtain ⟨t3, same, h3, bb, mm, _⟩ := hcut
      have sm : ∀ m u, m ≤ i → N' m u = N m u := fun m u hm => same m u (by omega)
      obtain ⟨m0, m1, x, m2, hs⟩ := t3.three ha2
      clear same ha2 hc2 HA HCC HW HB HI kc
      generalize hNN : N' = NN at *
      clear hNN
      cases hC : C' i (key / 2 ^ (W - i)) with
      | some x =>
        have HR := hid (cut_more (N := N) t3 sm h3 bb mm (i := i) (v := key / 2 ^ (W - i)))
        rw [hC] at hs
        obtain ⟨q, rfl, _⟩ := hs
        clear t3 sm h3 bb mm hC
        go_wp2
        go_ret
        exact ⟨_, _, rfl, HR.out⟩
      | none =>
        rw [hC] at hs
        have e : x = .pointer none := hs
        subst e
        cases hl : NN (i + 1) (2 * (key / 2 ^ (W - i))) with
        | some l =>
          have HR := hid (cut_more (N := N) t3 sm h3 bb mm (i := i) (v := key / 2 ^ (W - i)))
          rw [hl] at m0
          simp only [ptr] at m0
          clear t3 sm h3 bb mm hC hl m1
          go_wp2
          go_ret
          exact ⟨_, _, rfl, HR.out⟩
        | none =>
          cases hr : NN (i + 1) (2 * (key / 2 ^ (W - i)) + 1) with
          | some l =>
            have HR := hid (cut_more (N := N) t3 sm h3 bb mm (i := i) (v := key / 2 ^ (W - i)))
            rw [hl] at m0
            rw [hr] at m1
            simp only [ptr] at m0 m1
            clear t3 sm h3 bb mm hC hl hr
            go_wp2
            go_ret
            exact ⟨_, _, rfl, HR.out⟩
          | none =>
            have HR := hid (cut_leaf (N := N) t3 sm h3 bb mm (i := i) (v := key / 2 ^ (W - i)) hl hr hC)
            rw [hl] at m0
            rw [hr] at m1
            simp only [ptr] at m0 m1
            clear t3 sm h3 bb mm hC hl hr
            go_wp2
            go_ret
            exact ⟨_, _, rfl, HR.out⟩
end Go.Proofs.YtffbnggdckjogaaGreat

namespace Go.Proofs.YtffbnggdckjogaaGreat
open Go.RowKit Mth
theorem put_cells {X : World} {f : Nat} {x y : Value} (c0 : X.cell? ⟨f, 0, none⟩ = some x) (c1 : X.cell? ⟨f, 1, none⟩ = some y) (u v : Value) :
    ((X.setCell ⟨f, 0, none⟩ u).setCell ⟨f, 1, none⟩ v).cell? ⟨f, 0, none⟩ = some u ∧ ((X.setCell ⟨f, 0, none⟩ u).setCell ⟨f, 1, none⟩ v).cell? ⟨f, 1, none⟩ = some v := by
  have e1 : (X.setCell ⟨f, 0, none⟩ u).cell? ⟨f, 1, none⟩ = some y := (World.cell?_setCell_other _ _ _ _ (by simp)).trans c1
  refine ⟨?_, World.cell?_setCell_same _ _ _ e1⟩
  rw [World.cell?_setCell_other _ _ _ _ (by simp)]
  exact World.cell?_setCell_same _ _ _ c0
theorem Has.over {w : World} {a : Option Addr} {len : Nat} {zs : List Int} (h : Has .u64 w a len zs) {p : Addr} {u : Value} (hp : w.cell? p = .some u) (hu : ∀ x, u ≠ .int .u64 x) (v : Value) : Has .u64 (w.setCell p v) a len zs := by
  refine ⟨h.1, h.2.1, ?_⟩
  rcases h.2.2 with h | ⟨b, off, rfl, hlt, hc⟩
  · exact .inl h
  · refine .inr ⟨b, off, rfl, by simpa [World.setCell] using hlt, fun i hi => ?_⟩
    rw [World.cell?_setCell_other]
    · exact hc i hi
    · intro e
      have := hc i hi
      rw [← e, hp] at this
      exact hu _ (by simpa using this)
theorem Says.over {w : World} {v : Value} {h : HitM} (s : Says w v h) {r : Nat} {y : Int} {a : Option Addr} {n c : Nat} (c0 : w.cell? ⟨r, 0, none⟩ = some (.int .i64 y)) (c1 : w.cell? ⟨r, 1, none⟩ = some (.slice a n c)) (x z : Value) :
    Says ((w.setCell ⟨r, 0, none⟩ x).setCell ⟨r, 1, none⟩ z) v h := by
  obtain ⟨d, m, e, hv, hn, hm, hh⟩ := s
  have e1 : (w.setCell ⟨r, 0, none⟩ x).cell? ⟨r, 1, none⟩ = some (.slice a n c) := (World.cell?_setCell_other _ _ _ _ (by simp)).trans c1
  exact ⟨d, m, e, hv, hn, hm, (hh.over c0 (by intro _ h; cases h) x).over e1 (by intro _ h; cases h) z⟩
def foundIn (C : Told2) (wd : Int) (key : Nat) : Option (HitM × Nat) := if 1 ≤ wd ∧ wd ≤ 64 ∧ key < 2 ^ wd.toNat then best C wd.toNat key (wd.toNat + 1) else none
def BestAt (w : World) (x y : Value) : Option (HitM × Nat) → Prop
  | none => x = .pointer none ∧ y = .int .i64 0
  | some (h, n) => ∃ q, x = .pointer (some ⟨q, 0, none⟩) ∧ y = .int .i64 n ∧ Lies w q h
def FindDone (w w' : World) (r : Option (HitM × Nat)) (e : Ending) : Prop :=
  ∃ v, e = .returned (.tuple #[v, .int .i64 ((r.getD ((0, []), 0)).2 : Int), .bool r.isSome]) ∧ Says w' v (r.getD ((0, []), 0)).1 ∧ Below w.heap.size w w'
theorem hit_block (w : World) : (w.alloc (HC 0 none 0 0)).cell? ⟨w.heap.size, 0, none⟩ = some (.int .i64 0) ∧ (w.alloc (HC 0 none 0 0)).cell? ⟨w.heap.size, 1, none⟩ = some (.slice none 0 0) ∧ (w.alloc (HC 0 none 0 0)).frozen? ⟨w.heap.size, 0, none⟩ = false ∧ (w.alloc (HC 0 none 0 0)).frozen? ⟨w.heap.size, 1, none⟩ = false := new_two w _ _ _
set_option maxHeartbeats 1000000 in
set_option maxRecDepth 20000 in
theorem find_out {w : World} {p key : Nat} {wd most many : Int} (hd : Head w p wd most many) (hk : key < 18446744073709551616) (hg : ¬ (1 ≤ wd ∧ wd ≤ 64 ∧ key < 2 ^ wd.toNat)) :
    Calls Tryz.prog 99 #[.pointer (some ⟨p, 0, none⟩), .int .u64 key] w fun e w' => FindDone w w' none e := by
  have hd1 := hd.step (bl_alloc (o := HC 0 none 0 0) (Below.refl w.heap.size w))
  have HG : Hid (¬ Good wd key wd) := by rintro ⟨a, b, c, d, e, f⟩; exact hg ⟨a, b, e⟩
  have c0 := hd1.c0
  have HB := hid (beg_any (n := wd) c0 hk)
  clear hd hd1 hg
  go_enter Tryz.func99, Tryz.ntmps99
  go_wp2_with fail
  refine HB.out.mono ?_
  rintro e w1 ⟨b, rfl, hb, rfl⟩
  cases b with
  | true => exact absurd (hb.1 rfl) HG.out
  | false =>
    clear HB HG hb
    go_wp2
    exact bodyPost_ret (v := .tuple #[NoHit, .int .i64 0, .bool false]) (by simp [results, Tryz.results99, go_sem]) rfl ⟨_, rfl, says_none _, bl_alloc (Below.refl _ _)⟩
theorem BestAt.step {w w' : World} {x y : Value} {r : Option (HitM × Nat)} (h : BestAt w x y r) (g : Moved w w') : BestAt w' x y r := by
  cases r with
  | none => exact h
  | some r => obtain ⟨h', n⟩ := r; obtain ⟨q, e1, e2, l⟩ := h; exact ⟨q, e1, e2, l.moved g⟩
structure FindAt (w0 wr : World) (W key i : Nat) (N : Ways) (C : Told2) (x7 x8 x9 : Value) : Prop where
  x9 : x9 = ptr (N i (key / 2 ^ (W - i)))
  bst : BestAt w0 x7 x8 (best C W key i)
  wr : ∃ s, wr = w0.drewN s
theorem Trie.last {w : World} {B : Nat → Prop} {p W : Nat} {N : Ways} {C : Told2} (t : Trie w B p W N C) (v : Nat) : N (W + 1) v = none := by
  cases h : N (W + 1) v with
  | none => rfl
  | some a => have := (t.rng _ _ _ h).1; omega
theorem Trie.next {w : World} {B : Nat → Prop} {p W : Nat} {N : Ways} {C : Told2} (t : Trie w B p W N C) {key i : Nat} {a : Loc} (hi : i ≤ W) (ha : N i (key / 2 ^ (W - i)) = some a) :
    w.cell? ⟨a.1, a.2 + bitAt W key i, none⟩ = some (ptr (N (i + 1) (key / 2 ^ (W - (i + 1))))) := by
  by_cases h : i < W
  · exact t.on h ha
  · have e : i = W := by omega
    subst e
    rw [t.last]
    have h2 := ((t.node _ _ _ ha).child (N := N) _ (bitAt_lt i key i)).1
    rw [t.last] at h2
    exact h2
theorem bit_all {w : World} {p W key i : Nat} (c0 : w.cell? ⟨p, 0, none⟩ = some (.int .i64 W)) (hW : W ≤ 64) (hi : i ≤ W) :
    Calls Tryz.prog 107 #[.pointer (some ⟨p, 0, none⟩), .int .u64 key, .int .i64 i] w fun e w' => e = .returned (.int .i64 (bitAt W key i)) ∧ w' = w := by
  by_cases h : i < W
  · exact bit_any c0 hW h
  · have e : i = W := by omega
    subst e
    exact bit_end c0 hW
theorem best_end {w : World} {B : Nat → Prop} {p W : Nat} {N : Ways} {C : Told2} (t : Trie w B p W N C) {key i : Nat} (hi : i ≤ W + 1) (h : N i (key / 2 ^ (W - i)) = none) : best C W key (W + 1) = best C W key i :=
  best_up hi fun j h1 h2 => t.cn _ _ (t.gone h1 (by omega) h)
theorem end_find {w w1 w2 : World} {r : Option (HitM × Nat)} {h : HitM} {n : Nat} {a : Option Addr} {k c : Nat} (hb : Below (w.alloc (HC 0 none 0 0)).heap.size (w.alloc (HC 0 none 0 0)) w1) (hf : Below w1.heap.size w1 w2)
    (hs : Says w2 (.agg #[.int .i64 h.1, .slice a k c]) h) (hr : r = some (h, n)) :
    FindDone w ((w2.setCell ⟨w.heap.size, 0, none⟩ (.int .i64 h.1)).setCell ⟨w.heap.size, 1, none⟩ (.slice a k c)) r (.returned (.tuple #[.agg #[.int .i64 h.1, .slice a k c], .int .i64 n, .bool true])) := by
  subst hr
  have hh := hit_block w
  have B2 := bl_step hb hf
  have g0 := (B2.cell (p := ⟨w.heap.size, 0, none⟩) (by simp)).trans hh.1
  have g1 := (B2.cell (p := ⟨w.heap.size, 1, none⟩) (by simp)).trans hh.2.1
  have BW : Below w.heap.size w w2 := (bl_alloc (Below.refl _ _)).trans (B2.mono (by simp))
  exact ⟨_, rfl, hs.over g0 g1 _ _, (BW.setCell (by simp) _).setCell (by simp) _⟩
set_option maxHeartbeats 2000000 in
set_option maxRecDepth 20000 in
theorem find_in {w : World} {B : Nat → Prop} {p W key : Nat} {N : Ways} {C : Told2} {most many : Int} (t : Trie w B p W N C) (hd : Head w p W most many) (h1 : 1 ≤ W) (hW : W ≤ 64) (hk : key < 2 ^ W) :
    Calls Tryz.prog 99 #[.pointer (some ⟨p, 0, none⟩), .int .u64 key] w fun e w' => FindDone w w' (best C W key (W + 1)) e := by
  have hk2 : key < 18446744073709551616 := by
    have : 2 ^ W ≤ 2 ^ 64 := Nat.pow_le_pow_right (by decide) hW
    omega
  have T1 := hid (t.step (bl_alloc (o := HC 0 none 0 0) (Below.refl w.heap.size w)))
  have D1 := hid (hd.step (bl_alloc (o := HC 0 none 0 0) (Below.refl w.heap.size w)))
  have HG : Hid (Good W key W) := ⟨by omega, by omega, by omega, by omega, by rw [Int.toNat_natCast]; exact hk, by simp [Nat.mod_one]⟩
  have c0 := D1.out.c0
  have HB := hid (beg_any (n := W) c0 hk2)
  have H0 : Hid (FindAt (w.alloc (HC 0 none 0 0)) (w.alloc (HC 0 none 0 0)) W key 0 N C (.pointer none) (.int .i64 0) (.pointer (some ⟨p, 3, none⟩))) := ⟨by rw [way_zero W key hk, t.root]; rfl, ⟨rfl, rfl⟩, 0, rfl⟩
  have HHB := hid (hit_block w)
  clear t hd hk hk2
  generalize hR : best C W key (W + 1) = R
  have HR := hid hR
  clear hR
  go_enter Tryz.func99, Tryz.ntmps99
  go_wp2_with fail
  refine HB.out.mono ?_
  rintro e w1 ⟨b, rfl, hb, rfl⟩
  have eb : b = true := hb.2 HG.out
  subst eb
  clear HB HG hb
  generalize hw0 : w.alloc (HC 0 none 0 0) = w0 at *
  have HW0 := hid hw0
  clear hw0
  go_wp2
  go_loopw [7, 8, 9, 10] (fun x7 x8 x9 q wr => ∃ i : Nat, i ≤ W + 1 ∧ q = .int .i64 i ∧ FindAt w0 wr W key i N C x7 x8 x9) (fun _ _ _ q _ => W + 1 - (intOf q).toNat)
  case atStart => exact ⟨0, Nat.zero_le _, rfl, H0.out⟩
  case round =>
    obtain ⟨i, hi, rfl, hF⟩ := hrel
    obtain ⟨rfl, hbest, hwr⟩ := hF
    have HWR := hid hwr
    clear hwr
    cases hN : N i (key / 2 ^ (W - i)) with
    | none =>
      have hE := best_end T1.out hi hN
      rw [HR.out] at hE
      rw [← hE] at hbest
      have G0 : wr.cell? ⟨w.heap.size, 0, none⟩ = some (.int .i64 0) := by obtain ⟨s, e⟩ := HWR.out; rw [e]; exact HHB.out.1
      have G1 : wr.cell? ⟨w.heap.size, 1, none⟩ = some (.slice none 0 0) := by obtain ⟨s, e⟩ := HWR.out; rw [e]; exact HHB.out.2.1
      have F0 : wr.frozen? ⟨w.heap.size, 0, none⟩ = false := by obtain ⟨s, e⟩ := HWR.out; rw [e]; exact HHB.out.2.2.1
      have F1 : wr.frozen? ⟨w.heap.size, 1, none⟩ = false := by obtain ⟨s, e⟩ := HWR.out; rw [e]; exact HHB.out.2.2.2
      have BW : Hid (Below (w.alloc (HC 0 none 0 0)).heap.size (w.alloc (HC 0 none 0 0)) wr) := by
        obtain ⟨s, e⟩ := HWR.out
        rw [e, ← HW0.out]
        exact below_drewN (Below.refl _ _) s
      have MW : Moved w0 wr := by
        obtain ⟨s, e⟩ := HWR.out
        rw [e]
        exact moved_below (below_drewN (Below.refl _ _) s)
      simp only [ptr]
      clear T1 D1 H0 HHB hN HR hE HWR c0
      cases hRR : R with
      | none =>
        rw [hRR] at hbest
        obtain ⟨rfl, rfl⟩ := hbest
        subst hRR
        go_wp2
        have hB : Below w.heap.size w wr := (bl_alloc (Below.refl _ _)).trans (BW.out.mono (by simp))
        exact bodyPost_ret (v := .tuple #[NoHit, .int .i64 0, .bool false]) (by simp [results, Tryz.results99, go_sem, G0, G1]) rfl ⟨_, rfl, says_none _, (hB.setCell (by simp) _).setCell (by simp) _⟩
      | some r =>
        obtain ⟨h, n⟩ := r
        rw [hRR] at hbest
        obtain ⟨q, rfl, rfl, hl⟩ := hbest
        have HS : Hid (∃ a k c, Says wr (.agg #[.int .i64 h.1, .slice a k c]) h ∧ wr.cell? ⟨q, 0, none⟩ = some (.int .i64 h.1) ∧ wr.cell? ⟨q, 1, none⟩ = some (.slice a k c)) := by
          obtain ⟨a, k, c, l0, l1, l2, l3, l4, _⟩ := hl.moved MW
          exact ⟨a, k, c, ⟨a, k, c, rfl, l2, l3, l4⟩, l0, l1⟩
        obtain ⟨a, k, c, hsay, l0, l1⟩ := HS.out
        have HSAY := hid hsay
        clear hl hsay HS MW
        subst hRR
        go_wp2_with fail
        refine (copied_any HSAY.out).mono ?_
        rintro e w2 ⟨q2, rfl, _, hl2, hf2⟩
        obtain ⟨a2, k2, c2, m0, m1, m2, m3, m4, _⟩ := hl2
        have HEND := hid (end_find (n := n) BW.out hf2 ⟨a2, k2, c2, rfl, m2, m3, m4⟩ rfl)
        have hlt := World.block_lt_of_cell? wr _ G0
        have G0' := (hf2.cell (p := ⟨w.heap.size, 0, none⟩) hlt).trans G0
        have G1' := (hf2.cell (p := ⟨w.heap.size, 1, none⟩) hlt).trans G1
        have F0' := (hf2.frozen (p := ⟨w.heap.size, 0, none⟩) hlt).trans F0
        have F1' := (hf2.frozen (p := ⟨w.heap.size, 1, none⟩) hlt).trans F1
        clear m2 m3 m4 hf2 G0 G1 F0 F1 l0 l1 HSAY BW
        go_wp2
        exact bodyPost_ret (v := .tuple #[.agg #[.int .i64 h.1, .slice a2 k2 c2], .int .i64 n, .bool true]) (by simp [results, Tryz.results99, go_sem, G0', G1']) rfl HEND.out
    | some a =>
      obtain ⟨b, o⟩ := a
      have hiW : i ≤ W := (T1.out.rng _ _ _ hN).1
      have hc := T1.out.next hiW hN
      have hbit := bitAt_lt W key i
      have hc1 : wr.cell? ⟨b, o + bitAt W key i, none⟩ = some (ptr (N (i + 1) (key / 2 ^ (W - (i + 1))))) := by obtain ⟨s, e⟩ := HWR.out; rw [e]; exact hc
      have hc2 : wr.cell? ⟨p, 0, none⟩ = some (.int .i64 W) := by obtain ⟨s, e⟩ := HWR.out; rw [e]; exact D1.out.c0
      have HBB := hid (fun m => bit_all (w := wr.drewN m) (key := key) (i := i) hc2 hW hiW)
      obtain ⟨v, hv, hs⟩ := (T1.out.node _ _ _ hN).c2
      have hv1 : wr.cell? ⟨b, o + 2, none⟩ = some v := by obtain ⟨s, e⟩ := HWR.out; rw [e]; exact hv
      clear hv hc
      generalize bitAt W key i = β at *
      generalize hP : ptr (N (i + 1) (key / 2 ^ (W - (i + 1)))) = P at *
      have HP := hid hP
      clear hP
      have hb0 : (β : Int) < 2 := by omega
      simp only [ptr]
      cases hC : C i (key / 2 ^ (W - i)) with
      | none =>
        rw [hC] at hs
        have e : v = .pointer none := hs
        subst e
        have HBT := hid hbest
        have HCN := hid hC
        clear hbest hC hN hs
        go_wp2
        go_quiet ((go_at_call 107; exact Calls.quiet_of_same (HBB.out _)))
        go_wp2
        go_roundw
        case rel => exact ⟨i + 1, by omega, by go_num, HP.out.symm, by rw [best_none HCN.out]; exact HBT.out, by obtain ⟨s, e⟩ := HWR.out; rw [e]; exact ⟨_, World.drewN_drewN _ _ _⟩⟩
        case measure => simp [intOf]; omega
      | some h =>
        rw [hC] at hs
        obtain ⟨q, e, hl⟩ := hs
        subst e
        have HL := hid hl
        have HCN := hid hC
        clear hbest hC hN hl
        go_wp2
        go_quiet ((go_at_call 107; exact Calls.quiet_of_same (HBB.out _)))
        go_wp2
        go_roundw
        case rel => exact ⟨i + 1, by omega, by go_num, HP.out.symm, by rw [best_some HCN.out]; exact ⟨q, rfl, rfl, HL.out⟩, by obtain ⟨s, e⟩ := HWR.out; rw [e]; exact ⟨_, World.drewN_drewN _ _ _⟩⟩
        case measure => simp [intOf]; omega
end Go.Proofs.YtffbnggdckjogaaGreat
