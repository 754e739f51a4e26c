/- A state of the guard as it lies: 147 cells. -/
import Derived.Test.YtjmlkaciibdpaaaHJoin
import Derived.Test.YtjmlkaciibdpaaaGOwn
import Derived.Deep.MidRow
namespace Go.Proofs.Ytjmlkaciibdpaaa
open Go.RowKit

def regC (r : RD) : List Value := [.bool r.set, .bool r.just.isSome, .int .u64 ((r.just.getD 0 : Nat) : Int), .bool r.room.isSome, .int .u64 ((r.room.getD 0 : Nat) : Int)]
def stC (t : Bool) (s : SD) : List Value := .bool t :: ((List.range 10).flatMap fun i => regC (s.reg i)) ++ (List.range 96).map fun i => .bool (s.slot i)
def stO : Option SD → List Value
  | none => stC false SD.none
  | some s => stC true s

theorem regs_len (s : SD) : ((List.range 10).flatMap fun i => regC (s.reg i)).length = 50 := by
  rw [gflat_n (k := 5) (fun _ => rfl)]
  rfl
theorem stC_len (t : Bool) (s : SD) : (stC t s).length = 147 := by
  simp only [stC, List.cons_append, List.length_cons, List.length_append, regs_len, List.length_map, List.length_range]
theorem stO_len (o : Option SD) : (stO o).length = 147 := by cases o <;> exact stC_len _ _

/-- five cells -/
theorem range_reg {w : World} {b o : Nat} {r : RD} : w.rangeAt b o (regC r) ↔ w.cell? ⟨b, o, none⟩ = some (.bool r.set) ∧ w.cell? ⟨b, o + 1, none⟩ = some (.bool r.just.isSome) ∧ w.cell? ⟨b, o + 2, none⟩ = some (.int .u64 ((r.just.getD 0 : Nat) : Int)) ∧ w.cell? ⟨b, o + 3, none⟩ = some (.bool r.room.isSome) ∧ w.cell? ⟨b, o + 4, none⟩ = some (.int .u64 ((r.room.getD 0 : Nat) : Int)) := by
  constructor
  · intro h
    exact ⟨h 0 _ rfl, h 1 _ rfl, h 2 _ rfl, h 3 _ rfl, h 4 _ rfl⟩
  · rintro ⟨h0, h1, h2, h3, h4⟩ j v hv
    match j with
    | 0 => simp only [regC, List.getElem?_cons_zero, Option.some.injEq] at hv; subst hv; exact h0
    | 1 => simp only [regC, List.getElem?_cons_succ, List.getElem?_cons_zero, Option.some.injEq] at hv; subst hv; exact h1
    | 2 => simp only [regC, List.getElem?_cons_succ, List.getElem?_cons_zero, Option.some.injEq] at hv; subst hv; exact h2
    | 3 => simp only [regC, List.getElem?_cons_succ, List.getElem?_cons_zero, Option.some.injEq] at hv; subst hv; exact h3
    | 4 => simp only [regC, List.getElem?_cons_succ, List.getElem?_cons_zero, Option.some.injEq] at hv; subst hv; exact h4
    | j + 5 => simp [regC] at hv

theorem range_st {w : World} {b o : Nat} {t : Bool} {s : SD} : w.rangeAt b o (stC t s) ↔ w.cell? ⟨b, o, none⟩ = some (.bool t) ∧ (∀ i, i < 10 → w.rangeAt b (o + 1 + i * 5) (regC (s.reg i))) ∧ ∀ i, i < 96 → w.cell? ⟨b, o + 51 + i, none⟩ = some (.bool (s.slot i)) := by
  have hl := regs_len s
  constructor
  · intro h
    refine ⟨h 0 _ rfl, fun i hi j v hv => ?_, fun i hi => ?_⟩
    · have hj : j < 5 := (List.getElem?_eq_some_iff.1 hv).1
      have hf : ((List.range 10).flatMap fun i => regC (s.reg i))[i * 5 + j]? = some v := gflat_to (k := 5) (fun _ => rfl) (s := i) (by rw [List.getElem?_range hi]) hv
      have := h (1 + (i * 5 + j)) v (by
        unfold stC
        rw [List.cons_append, Nat.add_comm 1, List.getElem?_cons_succ, List.getElem?_append_left (by rw [hl]; omega)]
        exact hf)
      rw [show o + 1 + i * 5 + j = o + (1 + (i * 5 + j)) by omega]
      exact this
    · have := h (51 + i) (.bool (s.slot i)) (by
        unfold stC
        rw [List.cons_append, show 51 + i = (50 + i) + 1 by omega, List.getElem?_cons_succ, List.getElem?_append_right (by rw [hl]; omega), hl, show 50 + i - 50 = i by omega, List.getElem?_map, List.getElem?_range hi]
        rfl)
      rw [show o + 51 + i = o + (51 + i) by omega]
      exact this
  · rintro ⟨h0, hr, hs⟩ j v hv
    unfold stC at hv
    rw [List.cons_append] at hv
    cases j with
    | zero =>
      simp only [List.getElem?_cons_zero, Option.some.injEq] at hv
      subst hv
      exact h0
    | succ j =>
      rw [List.getElem?_cons_succ] at hv
      rcases Nat.lt_or_ge j 50 with h | h
      · rw [List.getElem?_append_left (by rw [hl]; omega)] at hv
        obtain ⟨i, r, x, hx, hu, rfl⟩ := gflat_at (k := 5) (fun _ => rfl) hv
        have hi : i < 10 := by
          have := (List.getElem?_eq_some_iff.1 hx).1
          simpa using this
        rw [List.getElem?_range hi] at hx
        cases hx
        have := hr i hi r v hu
        rw [show o + (i * 5 + r + 1) = o + 1 + i * 5 + r by omega]
        exact this
      · rw [List.getElem?_append_right (by rw [hl]; omega), hl, List.getElem?_map] at hv
        have hj : j - 50 < 96 := by
          rcases Nat.lt_or_ge (j - 50) 96 with h2 | h2
          · exact h2
          · rw [List.getElem?_eq_none (by simpa using h2)] at hv; cases hv
        rw [List.getElem?_range hj] at hv
        simp only [Option.map_some, Option.some.injEq] at hv
        subst hv
        have := hs (j - 50) hj
        rw [show o + 51 + (j - 50) = o + (j + 1) by omega] at this
        exact this

theorem regC_one (r : RD) : ∀ v ∈ regC r, v.oneCell' = true := by
  intro v hv
  simp only [regC, List.mem_cons, List.not_mem_nil, or_false] at hv
  rcases hv with rfl | rfl | rfl | rfl | rfl <;> rfl
theorem stC_one (t : Bool) (s : SD) : ∀ v ∈ stC t s, v.oneCell' = true := by
  intro v hv
  unfold stC at hv
  rw [List.cons_append] at hv
  rcases List.mem_cons.1 hv with rfl | hv
  · rfl
  rcases List.mem_append.1 hv with hv | hv
  · obtain ⟨i, _, hi⟩ := List.mem_flatMap.1 hv
    exact regC_one _ v hi
  · obtain ⟨i, _, rfl⟩ := List.mem_map.1 hv
    rfl
theorem stO_one (o : Option SD) : ∀ v ∈ stO o, v.oneCell' = true := by cases o <;> exact stC_one _ _

theorem range_step {w w' : World} {b o : Nat} {cs : List Value} (h : w.rangeAt b o cs) (hb : Below w.heap.size w w') : w'.rangeAt b o cs := fun j v hv => cell_keep (h j v hv) hb
theorem there_step {w w' : World} {b o n : Nat} (h : w.there b o n) (hb : Below w.heap.size w w') : w'.there b o n := fun j hj => by
  obtain ⟨h1, h2⟩ := h j hj
  obtain ⟨u, hu⟩ := Option.isSome_iff_exists.1 h1
  have hbl := World.block_lt_of_cell? w _ hu
  exact ⟨by rw [cell_keep hu hb]; rfl, by
    have := hb.block b hbl
    unfold World.frozen? at h2 ⊢
    rw [this]
    exact h2⟩
/-- a new block -/
theorem range_new (w : World) (cs : List Value) (T : TypeId) : (w.alloc (.cells cs.toArray T)).rangeAt w.heap.size 0 cs := fun j v hv => by
  have := (boxc_new (w := w) cs.toArray T _ rfl).cell (0 + j)
  rw [this]
  simpa using hv
theorem there_new (w : World) (cs : List Value) (T : TypeId) : (w.alloc (.cells cs.toArray T)).there w.heap.size 0 cs.length := fun j hj => by
  have h := boxc_new (w := w) cs.toArray T _ rfl
  exact ⟨by rw [h.cell (0 + j)]; simp [hj], h.fz _⟩

set_option maxRecDepth 20000 in
theorem Try.zeroSt : (Try.prog.info? 49).map (fun i => i.zero) = some (some (.agg (stC false SD.none).toArray)) := by kernel_rfl
set_option maxRecDepth 20000 in
theorem Try.sizeSt : (Try.prog.info? 49).map (fun i => i.size) = some 147 := by kernel_rfl
theorem zero_st (w : World) : (zeroValue 49).run Try.prog w = .ok (.agg (stC false SD.none).toArray) w := by
  have h := Try.zeroSt
  cases hi : Try.prog.info? 49 with
  | none => rw [hi] at h; cases h
  | some i =>
    rw [hi] at h
    simp only [Option.map_some, Option.some.injEq] at h
    unfold zeroValue typeInfo
    simp [hi, h]
end Go.Proofs.Ytjmlkaciibdpaaa
