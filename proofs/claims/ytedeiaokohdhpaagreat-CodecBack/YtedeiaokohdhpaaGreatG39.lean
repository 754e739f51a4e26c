/- Texts of one chain, joined: QAll, QUniq. -/
import Derived.Test.YtedeiaokohdhpaaGreatG33
import Derived.Test.YtedeiaokohdhpaaGreatG34
import Derived.Test.YtedeiaokohdhpaaGreatG35
import Derived.Test.YtedeiaokohdhpaaGreatG36
import Derived.Test.YtedeiaokohdhpaaGreatG37
import Derived.Test.YtedeiaokohdhpaaGreatG38
namespace Go.Proofs.YtedeiaokohdhpaaGreat
open Go.RowKit
def codeP (p : PPlan) : Nat → Nat → Int
  | 0, n => sizeC (p.hs.getD n [])
  | 1, n => widC (p.ms.getD n 0)
  | 2, n => stateC p n (p.ss.getD n PState.z)
  | 3, n => actC p (p.al.getD n PAct.z)
  | 4, n => tabC p (p.ts.getD n PTab.z)
  | 5, n => nodeC p n (p.ns.getD n PNode.z)
  | _, n => outC p n
theorem map_getD {α β : Type} {l : List α} {f : α → β} {n : Nat} {x : α} (h : l[n]? = some x) (y : β) : (l.map f).getD n y = f x := by
  rw [List.getD_eq_getElem?_getD, List.getElem?_map, h]
  rfl
theorem check_plan (d : PlanD) (w : World) (hl : d.lie w) (hs : d.small) : Calls Tryz.prog 19 #[d.v] w (CheckDone d (codeP d.p) w) := by
  refine check_any d _ w fun k hk w' hb n hn => ?_
  have hl' := hl.step hb
  rcases seven_ways hk with rfl | rfl | rfl | rfl | rfl | rfl | rfl
  · exact head_any d w' hl' n hn
  · exact meta_any d w' hl' n hn
  · obtain ⟨g, off, x, _, hx, _⟩ := row_at hl'.ss hn
    have e : codeP d.p 2 n = stateC d.p n x.p := by
      show stateC d.p n (d.p.ss.getD n PState.z) = _
      rw [show d.p.ss.getD n PState.z = x.p from map_getD hx _]
    rw [e]
    exact state_any d w' hl' n hn x hx
  · obtain ⟨g, off, x, _, hx, _⟩ := row_at hl'.al hn
    have e : codeP d.p 3 n = actC d.p x.p := by
      show actC d.p (d.p.al.getD n PAct.z) = _
      rw [show d.p.al.getD n PAct.z = x.p from map_getD hx _]
    rw [e]
    exact action_any d w' hl' n hn x hx
  · obtain ⟨g, off, x, _, hx, _⟩ := row_at hl'.ts hn
    have e : codeP d.p 4 n = tabC d.p x.p := by
      show tabC d.p (d.p.ts.getD n PTab.z) = _
      rw [show d.p.ts.getD n PTab.z = x.p from map_getD hx _]
    rw [e]
    exact table_any d w' hl' hs n hn x hx
  · obtain ⟨g, off, x, _, hx, _⟩ := row_at hl'.ns hn
    have e : codeP d.p 5 n = nodeC d.p n x.p := by
      show nodeC d.p n (d.p.ns.getD n PNode.z) = _
      rw [show d.p.ns.getD n PNode.z = x.p from map_getD hx _]
    rw [e]
    exact node_any d w' hl' n hn x hx
  · exact out_any d w' hl' (by have := hs.on; omega) n hn
end Go.Proofs.YtedeiaokohdhpaaGreat

namespace Go.Proofs.YtedeiaokohdhpaaGreat
open Go.RowKit
theorem fault_one {num least most : Int} {many : Nat} {c : Nat → Int} {C A C' A' : Int} (h : FaultIs num many least most c C A) (h' : FaultIs num many least most c C' A') : C = C' ∧ A = A' := by
  rcases h with ⟨h1, rfl, rfl⟩ | ⟨h1, h2⟩
  · rcases h' with ⟨_, rfl, rfl⟩ | ⟨h3, _⟩
    · exact ⟨rfl, rfl⟩
    · exact absurd h1 h3
  · rcases h' with ⟨h3, _⟩ | ⟨_, h3⟩
    · exact absurd h3 h1
    · rcases h2 with ⟨n, hn, hc, hj, rfl, rfl⟩ | ⟨hz, rfl, rfl⟩
      · rcases h3 with ⟨n', hn', hc', hj', rfl, rfl⟩ | ⟨hz', rfl, rfl⟩
        · have : n = n' := by
            rcases Nat.lt_trichotomy n n' with h | h | h
            · exact absurd (hj' n h) hc
            · exact h
            · exact absurd (hj n' h) hc'
          subst this
          exact ⟨rfl, rfl⟩
        · exact absurd (hz' n hn) hc
      · rcases h3 with ⟨n', hn', hc', hj', rfl, rfl⟩ | ⟨hz', rfl, rfl⟩
        · exact absurd (hz n' hn') hc'
        · exact ⟨rfl, rfl⟩
theorem check_one {d : PlanD} {cs : Nat → Nat → Int} {C A C' A' : Int} (h : CheckIs d cs C A) (h' : CheckIs d cs C' A') : C = C' ∧ A = A' := by
  rcases h with ⟨k, hk, hf, hC, hj⟩ | ⟨hz, rfl, rfl⟩
  · rcases h' with ⟨k', hk', hf', hC', hj'⟩ | ⟨hz', rfl, rfl⟩
    · have : k = k' := by
        rcases Nat.lt_trichotomy k k' with h | h | h
        · obtain ⟨A0, h0⟩ := hj' k h
          exact absurd (fault_one hf h0).1 hC
        · exact h
        · obtain ⟨A0, h0⟩ := hj k' h
          exact absurd (fault_one hf' h0).1 hC'
      subst this
      exact fault_one hf hf'
    · obtain ⟨A0, h0⟩ := hz' k hk
      exact absurd (fault_one hf h0).1 hC
  · rcases h' with ⟨k', hk', hf', hC', hj'⟩ | ⟨hz', rfl, rfl⟩
    · obtain ⟨A0, h0⟩ := hz k' hk'
      exact absurd (fault_one hf' h0).1 hC'
    · exact ⟨rfl, rfl⟩
def manyP (p : PPlan) : Nat → Nat
  | 0 => p.hs.length
  | 1 => p.ms.length
  | 2 => p.ss.length
  | 3 => p.al.length
  | 4 => p.ts.length
  | 5 => p.ns.length
  | _ => p.os.length
def partF (num : Int) (many : Nat) (least most : Int) (c : Nat → Int) : Int × Int :=
  if (many : Int) < least ∨ most < (many : Int) then (2, -num) else match (List.range many).find? (fun n => c n != 0) with
    | some n => (c n, 1000 * num + n)
    | none => (0, 0)
theorem partF_is (num : Int) (many : Nat) (least most : Int) (c : Nat → Int) : FaultIs num many least most c (partF num many least most c).1 (partF num many least most c).2 := by
  unfold partF
  by_cases h : (many : Int) < least ∨ most < (many : Int)
  · rw [if_pos h]
    exact .inl ⟨h, rfl, rfl⟩
  · rw [if_neg h]
    refine .inr ⟨h, ?_⟩
    rcases first_of (fun n => c n = 0) many with hz | ⟨n, hn, hc, hj⟩
    · have : (List.range many).find? (fun n => c n != 0) = none := by
        rw [List.find?_eq_none]
        intro x hx
        simp [hz x (List.mem_range.1 hx)]
      rw [this]
      exact .inr ⟨hz, rfl, rfl⟩
    · have : (List.range many).find? (fun n => c n != 0) = some n := by
        rw [List.find?_range_eq_some]
        exact ⟨by simpa using hc, List.mem_range.2 hn, fun j hj' => by simpa using hj j hj'⟩
      rw [this]
      exact .inl ⟨n, hn, hc, hj, rfl, rfl⟩
def chkGo (p : PPlan) (cs : Nat → Nat → Int) : Nat → Int × Int
  | 0 => (0, 0)
  | m + 1 => if (partF (((6 - m : Nat) : Int) + 1) (manyP p (6 - m)) (leastOf (6 - m)) (mostOf (6 - m)) (cs (6 - m))).1 ≠ 0 then partF (((6 - m : Nat) : Int) + 1) (manyP p (6 - m)) (leastOf (6 - m)) (mostOf (6 - m)) (cs (6 - m)) else chkGo p cs m
def chkP (p : PPlan) : Int × Int := chkGo p (codeP p) 7
theorem many_p {d : PlanD} {w : World} (hl : d.lie w) (k : Nat) : manyOf d k = manyP d.p k := by
  unfold manyOf manyP PlanD.p
  split <;> simp [hl.hs.1, hl.ms.1, hl.ss.1, hl.al.1, hl.ts.1, hl.ns.1, hl.os.1]
theorem chkGo_is {d : PlanD} {w : World} (hl : d.lie w) (cs : Nat → Nat → Int) : ∀ m, m ≤ 7 → (∀ j, j < 7 - m → NoFault d cs j) → CheckIs d cs (chkGo d.p cs m).1 (chkGo d.p cs m).2
  | 0, _, h => .inr ⟨fun j hj => h j (by omega), rfl, rfl⟩
  | m + 1, hm, h => by
    have hf := partF_is (((6 - m : Nat) : Int) + 1) (manyP d.p (6 - m)) (leastOf (6 - m)) (mostOf (6 - m)) (cs (6 - m))
    rw [← many_p hl] at hf
    unfold chkGo
    rw [← many_p hl]
    by_cases hc : (partF (((6 - m : Nat) : Int) + 1) (manyOf d (6 - m)) (leastOf (6 - m)) (mostOf (6 - m)) (cs (6 - m))).1 ≠ 0
    · rw [if_pos hc]
      exact .inl ⟨6 - m, by omega, hf, hc, fun j hj => h j (by omega)⟩
    · rw [if_neg hc]
      refine chkGo_is hl cs m (by omega) fun j hj => ?_
      by_cases e : j = 6 - m
      · subst e
        have : (partF (((6 - m : Nat) : Int) + 1) (manyOf d (6 - m)) (leastOf (6 - m)) (mostOf (6 - m)) (cs (6 - m))).1 = 0 := by omega
        rw [this] at hf
        exact ⟨_, hf⟩
      · exact h j (by omega)
theorem chk_is {d : PlanD} {w : World} (hl : d.lie w) {C A : Int} (h : CheckIs d (codeP d.p) C A) : C = (chkP d.p).1 ∧ A = (chkP d.p).2 :=
  check_one h (chkGo_is hl _ 7 (Nat.le_refl _) fun j hj => absurd hj (by omega))
theorem check_told (d : PlanD) (w : World) (hl : d.lie w) (hs : d.small) : Calls Tryz.prog 19 #[d.v] w fun e w' => e = .returned (.agg #[.int .i64 (chkP d.p).1, .int .i64 (chkP d.p).2]) ∧ Below w.heap.size w w' :=
  (check_plan d w hl hs).mono fun e w' ⟨C, A, hC, he, hb⟩ => by
    obtain ⟨rfl, rfl⟩ := chk_is hl hC
    exact ⟨he, hb⟩
end Go.Proofs.YtedeiaokohdhpaaGreat
