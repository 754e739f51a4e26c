/- The document's Ways: all ways of a plan, each with all its beginnings. -/
import Derived.Test.YtkggocdannkdmaaGreatVWLeads
import Derived.Test.YtkggocdannkdmaaGreatJ17
namespace Go.Proofs.YtkggocdannkdmaaGreat
open Go.RowKit

theorem Tryz.infoWay : (Tryz.prog.info? 148).map (fun i => (i.zero, i.size, i.bytes)) = some (some (.agg #[.int .i64 0, .int .u64 0, .int .i64 0]), 3, 24) := by kernel_rfl

/-- the cells of ways -/
def wcell (y : Wk.Way) : List Value := [.int .i64 (y.st : Int), .int .u64 (y.tk : Int), .int .i64 (y.by_ : Int)]

theorem wcell_at {L : List Wk.Way} {i : Nat} {y : Wk.Way} (h : L[i]? = some y) (k : Nat) (hk : k < 3) : (L.flatMap wcell)[i * 3 + k]? = (wcell y)[k]? := by
  induction L generalizing i with
  | nil => simp at h
  | cons x L ih =>
    rw [List.flatMap_cons]
    cases i with
    | zero =>
      simp only [List.getElem?_cons_zero, Option.some.injEq] at h
      subst h
      rw [Nat.zero_mul, Nat.zero_add, List.getElem?_append_left (by simp [wcell]; omega)]
    | succ i =>
      rw [List.getElem?_append_right (by simp [wcell]; omega)]
      have e : (i + 1) * 3 + k - (wcell x).length = i * 3 + k := by simp [wcell]; omega
      rw [e]
      exact ih (by simpa using h)

theorem wcell_len (L : List Wk.Way) : (L.flatMap wcell).length = L.length * 3 := by
  induction L with
  | nil => rfl
  | cons x L ih => rw [List.flatMap_cons, List.length_append, ih, List.length_cons]; simp [wcell]; omega

theorem wcell_one (L : List Wk.Way) : ∀ u ∈ L.flatMap wcell, u.oneCell' = true := by
  intro u hu
  obtain ⟨y, _, hy⟩ := List.mem_flatMap.1 hu
  simp only [wcell, List.mem_cons, List.not_mem_nil, or_false] at hy
  rcases hy with rfl | rfl | rfl <;> rfl

/-- ways in a list of the call's own -/
def OwnW (B : Nat) (a : Option Addr) (c : Nat) (L : List Wk.Way) (w : World) : Prop := w.ownsRow B 148 3 (.slice a L.length c) L.length (L.flatMap wcell)

theorem OwnW.step {B : Nat} {a : Option Addr} {c : Nat} {L : List Wk.Way} {w w' : World} (h : OwnW B a c L w) (b : Below w.heap.size w w') : OwnW B a c L w' := owns_belowK h b

theorem OwnW.at {B : Nat} {a : Option Addr} {c : Nat} {L : List Wk.Way} {w : World} (h : OwnW B a c L w) {i : Nat} {y : Wk.Way} (hy : L[i]? = some y) : ∃ g, a = some ⟨g, 0, none⟩ ∧ B ≤ g ∧ w.cell? ⟨g, i * 3, none⟩ = some (.int .i64 (y.st : Int)) ∧ w.cell? ⟨g, i * 3 + 1, none⟩ = some (.int .u64 (y.tk : Int)) ∧ w.cell? ⟨g, i * 3 + 2, none⟩ = some (.int .i64 (y.by_ : Int)) := by
  have hi := (List.getElem?_eq_some_iff.1 hy).1
  unfold OwnW at h
  rcases h.2 with ⟨_, e⟩ | ⟨g, cap, cur, e, hb, hh, h1, _, h3, h4⟩
  · omega
  · simp only [Value.slice.injEq, true_and] at e
    obtain ⟨rfl, rfl⟩ := e
    have key : ∀ k, k < 3 → w.cell? ⟨g, i * 3 + k, none⟩ = (wcell y)[k]? := fun k hk => by
      have hc : cur[i * 3 + k]? = (L.flatMap wcell)[i * 3 + k]? := by
        rw [← h4, List.getElem?_take_of_lt (by omega), Array.getElem?_toList]
      rw [wcell_at hy k hk] at hc
      simp [World.cell?, hh, hc]
    exact ⟨g, rfl, hb, key 0 (by decide), key 1 (by decide), key 2 (by decide)⟩

/-- one way more: the run of the append -/
theorem OwnW.push {B : Nat} {a : Option Addr} {c : Nat} {L : List Wk.Way} {w : World} (h : OwnW B a c L w) (y : Wk.Way) (hn : L.length ≤ 100000) (hB : B ≤ w.heap.size) :
    ∃ g cap w6, (Builtin.append_ #[144, 144] 144 #[.slice a L.length c, .slice (some ⟨w.heap.size, 0, none⟩) 1 1]).run Tryz.prog (w.alloc (.cells #[.int .i64 (y.st : Int), .int .u64 (y.tk : Int), .int .i64 (y.by_ : Int)] 148)) = .ok (.slice (some ⟨g, 0, none⟩) (L.length + 1) cap) w6 ∧ OwnW B (some ⟨g, 0, none⟩) cap (L ++ [y]) w6 ∧ (w.alloc (.cells #[.int .i64 (y.st : Int), .int .u64 (y.tk : Int), .int .i64 (y.by_ : Int)] 148)).grownBy w6 (Value.slice a L.length c).ownBlock := by
  have b1 : Below w.heap.size w (w.alloc (.cells #[.int .i64 (y.st : Int), .int .u64 (y.tk : Int), .int .i64 (y.by_ : Int)] 148)) := bl_alloc (Below.refl _ _)
  obtain ⟨g, cap, w6, hrun, ho, hg, _⟩ := run_appK (w := w.alloc (.cells #[.int .i64 (y.st : Int), .int .u64 (y.tk : Int), .int .i64 (y.by_ : Int)] 148)) (ad := ⟨w.heap.size, 0, none⟩) (m := 1) (c := 1) (news := wcell y) 144 Tryz.underlying144 Tryz.infoWay rfl (by decide) (owns_belowK h b1) rfl src_of (fun u hu => wcell_one [y] u (by simpa using hu)) (by decide) (by unfold maxLen; omega) (by omega) (by have := b1.size; omega)
  refine ⟨g, cap, w6, hrun, ?_, hg⟩
  unfold OwnW
  rw [List.length_append, List.length_singleton, List.flatMap_append, List.flatMap_cons, List.flatMap_nil, List.append_nil]
  exact ho

theorem ways_new (w : World) : OwnW w.heap.size (some ⟨w.heap.size, 0, none⟩) 1 [⟨0, 0, 0⟩] (w.alloc (.cells #[.int .i64 0, .int .u64 0, .int .i64 0] 148)) := by
  unfold OwnW
  refine ⟨rfl, .inr ⟨w.heap.size, 1, #[.int .i64 0, .int .u64 0, .int .i64 0], rfl, Nat.le_refl _, heap_alloc_new w _, Nat.le_refl _, by decide, rfl, rfl⟩⟩

/-- where each state of a right plan leads, as the document has it -/
def ldOf (p : PPlan) (i : Nat) : List Nat := leadR p.ss.length (outsP (p.ss.getD i PState.z))

def WaysDone (p : PPlan) (h : (chkP p).1 = 0) (w : World) (e : Ending) (w' : World) : Prop := ∃ (a : Option Addr) (c : Nat) (L : List Wk.Way), e = .returned (.slice a L.length c) ∧ L = ⟨0, 0, 0⟩ :: L.flatMap (Wk.succW (parOf p h) (ldOf p)) ∧ (∀ y ∈ L, y.st ≤ p.ss.length) ∧ L.length ≤ 2 ^ (p.ss.length + 1) ∧ OwnW w.heap.size a c L w' ∧ Below w.heap.size w w'

/-- a way's numbers are small -/
theorem gone_small {p : PPlan} (h : (chkP p).1 = 0) {i : Nat} {L : List Wk.Way} (hg : Wk.Gone (parOf p h) (ldOf p) i L) : ∀ y ∈ L, y.tk < 2 ^ 6 ∧ y.by_ ≤ 256 := by
  have h8 : (p.ss.length : Int) ≤ 8 := (chk_zero h 2 (by decide)).2.1
  have key : ∀ y ∈ L, Wk.Wy (parOf p h) y.st y.tk y.by_ := by
    have e := hg.eq
    have st := hg.st
    have mem : ∀ y ∈ L, y = ⟨0, 0, 0⟩ ∨ ∃ v ∈ L, y ∈ Wk.succW (parOf p h) (ldOf p) v := fun y hy => by
      rw [e] at hy
      rcases List.mem_cons.1 hy with rfl | hy
      · exact .inl rfl
      · obtain ⟨v, hv, hs⟩ := List.mem_flatMap.1 hy
        exact .inr ⟨v, List.mem_of_mem_take hv, hs⟩
    have go : ∀ (n : Nat) (y : Wk.Way), y.st = n → y ∈ L → Wk.Wy (parOf p h) y.st y.tk y.by_ := by
      intro n
      induction n using Nat.strongRecOn with
      | ind n ih =>
        intro y hn hy
        rcases mem y hy with rfl | ⟨v, hv, hs⟩
        · exact Wk.Wy.nil
        · have hvn := st v hv
          unfold Wk.succW at hs
          by_cases e2 : v.st = (parOf p h).n
          · rw [if_pos e2] at hs; simp at hs
          · rw [if_neg e2, List.mem_map] at hs
            obtain ⟨j, hj, rfl⟩ := hs
            have hj' := (leads_same h v.st (by omega) j).1 hj
            have hlt := ((parOf p h).on v.st j (by omega) hj').1
            exact (ih v.st (by have : j = n := hn; omega) v rfl hv).step (by omega) hj'
    exact fun y hy => go y.st y rfl hy
  intro y hy
  have := Wk.wy_small (K := 6) (Z := 32) (bitN_lt h) (szP_le h) (key y hy)
  have hs := hg.st y hy
  have hs' : y.st ≤ p.ss.length := hs
  exact ⟨this.1, by omega⟩
end Go.Proofs.YtkggocdannkdmaaGreat
