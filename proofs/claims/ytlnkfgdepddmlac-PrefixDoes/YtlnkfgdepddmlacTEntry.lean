/- What entry does. -/
import Derived.Test.YtlnkfgdepddmlacTSmall
namespace Go.Proofs.Ytlnkfgdepddmlac
open Go.RowKit Mth

/-- the node for a key's first i bits, by its bit to the next -/
theorem Trie.on {w : World} {B p W : Nat} {N : Ways} {C : Told2} (t : Trie w B p W N C) {key i : Nat} {a : Loc} (hi : i < W) (ha : N i (key / 2 ^ (W - i)) = some a) :
    w.cell? ⟨a.1, a.2 + bitAt W key i, none⟩ = some (ptr (N (i + 1) (key / 2 ^ (W - (i + 1))))) := by
  rw [way_next W key i hi]
  exact ((t.node _ _ _ ha).child (N := N) _ (bitAt_lt W key i)).1

theorem Trie.drewN {w : World} {B p W : Nat} {N : Ways} {C : Told2} (t : Trie w B p W N C) (s : Nat) : Trie (w.drewN s) B p W N C :=
  t.step ⟨rfl, rfl, rfl, Nat.le_refl _, fun _ _ => rfl⟩

theorem below_drewN {B : Nat} {w w' : World} (h : Below B w w') (s : Nat) : Below B w (w'.drewN s) := ⟨h.os, h.tape, h.output, h.size, h.block⟩

/-- nothing is said where no node leads -/
theorem Trie.gone {w : World} {B p W : Nat} {N : Ways} {C : Told2} (t : Trie w B p W N C) {key i n : Nat} (hi : i ≤ n) (hn : n ≤ W) (h : N i (key / 2 ^ (W - i)) = none) : N n (key / 2 ^ (W - n)) = none := by
  refine t.none_up h n _ hi ?_
  rw [Nat.div_div_eq_div_mul, ← Nat.pow_add, show W - n + (n - i) = W - i from by omega]

set_option maxHeartbeats 1000000 in
set_option maxRecDepth 20000 in
theorem entry_any {w : World} {B p W key n : Nat} {N : Ways} {C : Told2} (t : Trie w B p W N C) (c0 : w.cell? ⟨p, 0, none⟩ = some (.int .i64 W)) (hW : W ≤ 64) (hk : key < 2 ^ W) (hn : n ≤ W) :
    Calls Try.prog 37 #[.pointer (some ⟨p, 0, none⟩), .int .u64 key, .int .i64 n] w fun e w' => e = .returned (if (C n (key / 2 ^ (W - n))).isSome = true then ptr (N n (key / 2 ^ (W - n))) else .pointer none) ∧ ∃ s, w' = w.drewN s := by
  have HT := hid t
  have H0 : Hid (N 0 (key / 2 ^ (W - 0)) = some (p, 3)) := by rw [way_zero W key hk]; exact t.root
  have HC0 := hid c0
  clear t hk c0
  generalize hR : (if (C n (key / 2 ^ (W - n))).isSome = true then ptr (N n (key / 2 ^ (W - n))) else Value.pointer none) = R
  have HR := hid hR
  clear hR
  go_enter Try.func37, Try.ntmps37
  go_wp2
  go_loopw [7, 8] (fun x q wr => ∃ i : Nat, i ≤ n ∧ q = .int .i64 i ∧ x = ptr (N i (key / 2 ^ (W - i))) ∧ Hid (∃ s, wr = w.drewN s)) (fun _ q _ => n - (intOf q).toNat)
  case atStart => exact ⟨0, Nat.zero_le _, rfl, by rw [H0.out]; rfl, 0, rfl⟩
  case round =>
    obtain ⟨i, hi, rfl, rfl, hq⟩ := hrel
    clear H0
    cases hN : N i (key / 2 ^ (W - i)) with
    | none =>
      have hE : R = .pointer none := by rw [← HR.out, HT.out.cn _ _ (HT.out.gone hi hn hN)]; rfl
      simp only [ptr]
      clear HT HR hN HC0
      subst hE
      by_cases hlt : (i : Int) < (n : Int)
      · go_wp2
        go_ret
        exact ⟨rfl, hq⟩
      · go_wp2
        go_ret
        exact ⟨rfl, hq⟩
    | some a =>
      obtain ⟨b, o⟩ := a
      by_cases hlt : (i : Int) < (n : Int)
      · have hc := HT.out.on (key := key) (i := i) (by omega) hN
        have hb := bitAt_lt W key i
        have hc1 : wr.cell? ⟨b, o + bitAt W key i, none⟩ = some (ptr (N (i + 1) (key / 2 ^ (W - (i + 1))))) := by obtain ⟨s, e⟩ := hq; rw [e]; exact hc
        have hc2 : wr.cell? ⟨p, 0, none⟩ = some (.int .i64 W) := by obtain ⟨s, e⟩ := hq; rw [e]; exact HC0.out
        have hB := fun m => bit_any (w := wr.drewN m) (key := key) (i := i) hc2 hW (by omega)
        clear hc HT HR hN HC0
        generalize bitAt W key i = β at *
        generalize hP : ptr (N (i + 1) (key / 2 ^ (W - (i + 1)))) = P at *
        have HP := hid hP
        have HBB := hid hB
        clear hP hB
        have hb0 : (β : Int) < 2 := by omega
        simp only [ptr]
        go_wp2
        go_quiet ((go_at_call 44; exact Calls.quiet_of_same (HBB.out _)))
        go_wp2
        go_roundw
        case rel => exact ⟨i + 1, by omega, by go_num, HP.out.symm, by obtain ⟨s, e⟩ := hq; rw [e]; exact ⟨_, World.drewN_drewN _ _ _⟩⟩
        case measure => simp [intOf]; omega
      · have ei : i = n := by omega
        subst ei
        obtain ⟨v, hv, hs⟩ := (HT.out.node _ _ _ hN).c2
        have hv1 : wr.cell? ⟨b, o + 2, none⟩ = some v := by obtain ⟨s, e⟩ := hq; rw [e]; exact hv
        clear hv HC0
        cases hC : C i (key / 2 ^ (W - i)) with
        | none =>
          rw [hC] at hs
          have e : v = .pointer none := hs
          subst e
          have hE : R = .pointer none := by rw [← HR.out, hC]; rfl
          subst hE
          clear HT HR hN hC hs
          simp only [ptr]
          go_wp2
          go_ret
          exact ⟨rfl, hq⟩
        | some h =>
          rw [hC] at hs
          obtain ⟨x, e, _⟩ := hs
          subst e
          have hE : R = .pointer (some ⟨b, o, none⟩) := by rw [← HR.out, hC, hN]; rfl
          subst hE
          clear HT HR hN hC
          simp only [ptr]
          go_wp2
          go_ret
          exact ⟨rfl, hq⟩
end Go.Proofs.Ytlnkfgdepddmlac
