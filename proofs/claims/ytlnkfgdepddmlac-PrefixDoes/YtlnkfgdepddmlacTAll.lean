/- What All does. -/
import Derived.Test.YtlnkfgdepddmlacTGather
namespace Go.Proofs.Ytlnkfgdepddmlac
open Go.RowKit Mth

/-- all entries of a table, in order -/
def allOf (C : Told2) (wd : Int) : List Ent := (pre C (wid wd + 1) 0 0).map (entOf C (wid wd))

theorem Tab.rng {w : World} {B p : Nat} {wd most : Int} {C : Told2} {es : List (Nat × Nat)} (t : Tab w B p wd most C es) (n v : Nat) (h : (C n v).isSome = true) : n ≤ wid wd ∧ v < 2 ^ n := by
  obtain ⟨N, tr⟩ := t.tr
  cases hN : N n v with
  | none => rw [tr.cn _ _ hN] at h; cases h
  | some a => exact tr.rng _ _ _ hN

theorem Tab.perm {w : World} {B p : Nat} {wd most : Int} {C : Told2} {es : List (Nat × Nat)} (t : Tab w B p wd most C es) : (pre C (wid wd + 1) 0 0).Perm es :=
  perm_of_mem (pre_nodup _ _ _ _) t.nd fun ⟨m, u⟩ => (pre_all C (wid wd) t.rng m u).trans (t.mem m u).symm

theorem allOf_length {w : World} {B p : Nat} {wd most : Int} {C : Told2} {es : List (Nat × Nat)} (t : Tab w B p wd most C es) : (allOf C wd).length = es.length := by
  unfold allOf
  rw [List.length_map]
  exact t.perm.length_eq

def AllDone (w w' : World) (C : Told2) (wd : Int) (n : Nat) (e : Ending) : Prop := ∃ a c, e = .returned (.slice a n c) ∧ Ents w' a n (allOf C wd) ∧ Below w.heap.size w w'

set_option maxHeartbeats 2000000 in
set_option maxRecDepth 20000 in
theorem all_any {w : World} {B p : Nat} {wd most : Int} {C : Told2} {es : List (Nat × Nat)} (t : Tab w B p wd most C es) (hl : es.length ≤ 100000) :
    Calls Try.prog 23 #[.pointer (some ⟨p, 0, none⟩)] w fun e w' => AllDone w w' C wd es.length e := by
  have c2 := t.hd.c2
  obtain ⟨N, tr⟩ := t.tr
  have hlen := t.perm.length_eq
  have HL := hid (allOf_length t)
  obtain ⟨i0, hi, hz0, hz1, hz2⟩ := info_parts Try.infoEntry
  obtain ⟨w1, hrun, r1, r2⟩ := run_make_own (P := Try.prog) w.drew w.heap.size 28 33 i0 NoEntry 6 Try.underlying28 hi hz0 hz1 .i64 .i64 es.length (by rw [hz2]; omega) (by unfold maxLen; omega) (Nat.le_refl _)
  have hb1 : Below w.heap.size w w1 := (Below.refl w.heap.size w).drew.grown r2 (Nat.le_refl _) (by intro k hk; cases hk)
  have hG : GAt w w1 es.length [] (.slice (some ⟨w.heap.size, 0, none⟩) 0 es.length) := ⟨rfl, ⟨[], rfl, r1, by simp⟩, hb1, (r1.lt w.heap.size rfl).2⟩
  have hC := gather_any (wid wd + 1) w w1 B p (wid wd) 0 0 es.length N C wd most es.length (p, 3) [] _ (by omega) tr t.hd (fun h => by
    unfold wid at h ⊢
    split at h
    · rename_i hh; rw [if_pos hh]; omega
    · omega) (wid_le wd) tr.root hG (by simp; omega) hl
  rw [Nat.zero_mul, List.nil_append] at hC
  simp only [ptr] at hC
  have HC := hid hC
  clear t tr hC hG r1 r2 hb1 hlen hi hz0 hz1 hz2
  go_enter Try.func23, Try.ntmps23
  go_wp2
  go_region_with (go_at_call 49; refine HC.out.mono ?_; rintro e w2 ⟨x, rfl, hG2⟩)
  all_goals
    have hE : AllDone w w2 C wd es.length (.returned x) := by
      obtain ⟨rfl, hO, hB, _⟩ := hG2
      have h := hO.ents
      have e : ((pre C (wid wd + 1) 0 0).map (entOf C (wid wd))).length = es.length := HL.out
      rw [e] at h ⊢
      exact ⟨_, _, rfl, h, hB⟩
    have HE := hid hE
    clear hG2 hE
    go_wp2
    go_ret
    exact HE.out
end Go.Proofs.Ytlnkfgdepddmlac
