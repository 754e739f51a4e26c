/- What the document's WalkOf stands on. -/
import Derived.Test.YtkggocdannkdmaaGreatVWWays2
import Derived.Test.YtkggocdannkdmaaGreatJ17
import Derived.Test.YtkggocdannkdmaaGreatJ18
namespace Go.Proofs.YtkggocdannkdmaaGreat
open Go.RowKit

theorem Tryz.infoRSets : (Tryz.prog.info? 101).map (fun i => (i.zero, i.size, i.bytes)) = some (some (.agg #[.int .u64 0, .int .u64 0, .int .i64 0, .int .i64 0, .bool false]), 5, 40) := by kernel_rfl

theorem wform_told (d : PlanD) (w : World) (hl : d.lie w) (hm : d.p.little) : Calls Tryz.prog 48 #[d.v] w fun e w' => e = .returned (.agg #[.int .i64 (chkP d.p).1, .int .i64 (chkP d.p).2]) ∧ Below w.heap.size w w' :=
  (form_any d w hl hm).mono fun e w' ⟨C, A, hC, he, hb⟩ => by
    obtain ⟨rfl, rfl⟩ := chk_is hl hC
    exact ⟨he, hb⟩

theorem few_single {t b : Nat} (ht : t < 2 ^ 6) (hb : b ≤ 256) : (⟨t, t, b, b, true⟩ : Wk.Sets).few := ⟨ht, ht, by show b ≤ 1000; omega, by show b ≤ 1000; omega⟩

theorem few_add {A : List Wk.Sets} {y : Wk.Way} (h : Few A) (hy : y.tk < 2 ^ 6 ∧ y.by_ ≤ 256) : Few (Wk.addW A y) := h.set (few_join (h.at _) (few_single hy.1 hy.2))

/-- the sets of so many ways -/
def sumK (n : Nat) (L : List Wk.Way) (k : Nat) : List Wk.Sets := (L.take k).foldl Wk.addW (List.replicate (n + 1) Wk.zero)

theorem sumK_next {n : Nat} {L : List Wk.Way} {k : Nat} {y : Wk.Way} (h : L[k]? = some y) : sumK n L (k + 1) = Wk.addW (sumK n L k) y := by
  unfold sumK
  rw [List.take_add_one, h]
  simp

theorem sumK_all (n : Nat) (L : List Wk.Way) : sumK n L L.length = Wk.sumW n L := by
  unfold sumK Wk.sumW
  rw [List.take_length]

theorem sumK_few {n : Nat} {L : List Wk.Way} (h : ∀ y ∈ L, y.tk < 2 ^ 6 ∧ y.by_ ≤ 256) : ∀ k, Few (sumK n L k) ∧ (sumK n L k).length = n + 1 := by
  intro k
  have go : ∀ (M : List Wk.Way) (A : List Wk.Sets), (∀ y ∈ M, y.tk < 2 ^ 6 ∧ y.by_ ≤ 256) → Few A → Few (M.foldl Wk.addW A) ∧ (M.foldl Wk.addW A).length = A.length := by
    intro M
    induction M with
    | nil => exact fun A _ hA => ⟨hA, rfl⟩
    | cons y M ih =>
      intro A hM hA
      have := ih (Wk.addW A y) (fun z hz => hM z (List.mem_cons_of_mem _ hz)) (few_add hA (hM y List.mem_cons_self))
      exact ⟨this.1, this.2.trans (by unfold Wk.addW; simp)⟩
  have := go (L.take k) (List.replicate (n + 1) Wk.zero) (fun y hy => h y (List.mem_of_mem_take hy)) (fun s hs => by rw [List.eq_of_mem_replicate hs]; exact few_zero)
  exact ⟨this.1, by rw [sumK, this.2, List.length_replicate]⟩

/-- one place is turned -/
theorem ahd_set {g : Nat} {A : List Wk.Sets} {w w' : World} {j : Nat} {x s : Wk.Sets} (h : Ahd g A w) (hj : A[j]? = some x) (far : ∀ k, k < j * 5 ∨ j * 5 + 5 ≤ k → w'.cell? ⟨g, k, none⟩ = w.cell? ⟨g, k, none⟩) (hf : Five w' g (j * 5) s) (hz : ∀ o, w'.frozen? ⟨g, o, none⟩ = w.frozen? ⟨g, o, none⟩) (hs : w.heap.size ≤ w'.heap.size) : Ahd g (A.set j s) w' := by
  refine ⟨fun i y hy => ?_, fun o => (hz o).trans (h.fz o), Nat.lt_of_lt_of_le h.lt hs⟩
  rw [List.getElem?_set] at hy
  by_cases e : j = i
  · subst e
    rw [if_pos rfl, if_pos (List.getElem?_eq_some_iff.1 hj).1] at hy
    cases hy
    exact hf
  · rw [if_neg e] at hy
    have hq := h.cs i y hy
    have fr : ∀ k, k < 5 → w'.cell? ⟨g, i * 5 + k, none⟩ = w.cell? ⟨g, i * 5 + k, none⟩ := fun k hk => far _ (by omega)
    exact ⟨(fr 0 (by decide)).trans hq.c0, (fr 1 (by decide)).trans hq.c1, (fr 2 (by decide)).trans hq.c2, (fr 3 (by decide)).trans hq.c3, (fr 4 (by decide)).trans hq.c4⟩

/-- ways as they lie, while only another block turns -/
def WaysAt (w : World) (a : Option Addr) (L : List Wk.Way) (g : Nat) : Prop := ∀ i y, L[i]? = some y → ∃ lg, a = some ⟨lg, 0, none⟩ ∧ lg ≠ g ∧ w.cell? ⟨lg, i * 3, none⟩ = some (.int .i64 (y.st : Int)) ∧ w.cell? ⟨lg, i * 3 + 1, none⟩ = some (.int .u64 (y.tk : Int)) ∧ w.cell? ⟨lg, i * 3 + 2, none⟩ = some (.int .i64 (y.by_ : Int))

theorem WaysAt.but {w w' : World} {a : Option Addr} {L : List Wk.Way} {g : Nat} (h : WaysAt w a L g) (b : But g w w') : WaysAt w' a L g := fun i y hy => by
  obtain ⟨lg, e, hne, h0, h1, h2⟩ := h i y hy
  exact ⟨lg, e, hne, b.cell hne h0, b.cell hne h1, b.cell hne h2⟩

theorem ways_at {B : Nat} {w w' : World} {a : Option Addr} {c : Nat} {L : List Wk.Way} (h : OwnW B a c L w) (b : Below w.heap.size w w') (g : Nat) (hg : w.heap.size ≤ g) : WaysAt w' a L g := fun i y hy => by
  obtain ⟨lg, e, _, h0, h1, h2⟩ := h.at hy
  have hl : lg < w.heap.size := World.block_lt_of_cell? w _ h0
  exact ⟨lg, e, by omega, cell_keep h0 b, cell_keep h1 b, cell_keep h2 b⟩
end Go.Proofs.YtkggocdannkdmaaGreat
