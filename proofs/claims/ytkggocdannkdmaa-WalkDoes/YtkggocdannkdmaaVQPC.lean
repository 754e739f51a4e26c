/- The walk of the law PlanChecks. -/
import Derived.Test.YtkggocdannkdmaaJ18
import Derived.Test.YtkggocdannkdmaaJ15
import Derived.Test.YtkggocdannkdmaaJ8
import Derived.Test.YtkggocdannkdmaaVQDup2
import Derived.Test.YtkggocdannkdmaaVQBegun
namespace Go.Proofs.Ytkggocdannkdmaa
open Go.RowKit

/-- no list of it is beyond what a copy takes -/
theorem fits_of {d : PlanD} {w : World} (hl : d.lie w) (h : d.p.little) : d.fits := by
  have mem : ∀ {α β : Type} {L : List α} {f : α → β} {x : α}, x ∈ L → f x ∈ L.map f := fun hx => List.mem_map.2 ⟨_, hx, rfl⟩
  have lie_at : ∀ {α : Type} {k : Nat} {P : α → World → Nat → Nat → Prop} {w : World} {s : QSl} {S : List α}, QRow k P w s S → ∀ y ∈ S, ∃ g o, P y w g o := fun h y hy => by
    obtain ⟨i, hi, rfl⟩ := List.getElem_of_mem hy
    obtain ⟨g, off, _, hp⟩ := h.2 i _ (List.getElem?_eq_getElem hi)
    exact ⟨g, _, hp⟩
  refine ⟨⟨?_, fun x hx => ?_⟩, ?_, ⟨?_, fun x hx => ?_⟩, ⟨?_, fun x hx => ?_⟩, ⟨?_, fun x hx => ?_⟩, ⟨?_, fun x hx => ?_⟩, ?_⟩
  · have := h.hs; simp [PlanD.p, hl.hs.1] at this; omega
  · obtain ⟨g, o, hp⟩ := lie_at hl.hs x hx
    have : x.ws.length ≤ 500 := h.hw _ (mem hx)
    have e := hp.2.1
    omega
  · have := h.ms; simp [PlanD.p, hl.ms.1] at this; omega
  · have := h.ss; simp [PlanD.p, hl.ss.1] at this; omega
  · obtain ⟨g, o, hp⟩ := lie_at hl.ss x hx
    have : x.cs.length ≤ 500 := h.sc _ (mem hx)
    have e := hp.2.2.2.2.2.1
    omega
  · have := h.al; simp [PlanD.p, hl.al.1] at this; omega
  · obtain ⟨g, o, hp⟩ := lie_at hl.al x hx
    have h1 := h.aw _ (mem hx)
    have h2 : x.ws.length ≤ 500 := h1.1
    have h3 : (x.os.map OpD.p).length ≤ 50 := h1.2
    rw [List.length_map] at h3
    have e := hp.2.2.1.1
    have e2 := hp.2.2.2.1
    refine ⟨by omega, by omega, fun y hy => ?_⟩
    obtain ⟨g', o', hp'⟩ := lie_at hp.2.2.2 y hy
    have : y.es.length ≤ 500 := h.ae _ (mem hx) _ (mem hy)
    have e3 := hp'.2.2.2.2.2.1
    omega
  · have := h.ts; simp [PlanD.p, hl.ts.1] at this; omega
  · obtain ⟨g, o, hp⟩ := lie_at hl.ts x hx
    have h1 := h.tl _ (mem hx)
    have h2 : x.ks.length ≤ 500 := h1.1
    have h3 : x.al.length ≤ 500 := h1.2.1
    have h4 : x.zs.length ≤ 500 := h1.2.2
    have e := hp.2.2.2.2.2.2.1.1
    have e2 := hp.2.2.2.2.2.2.2.1.1
    have e3 := hp.2.2.2.2.2.2.2.2.1
    omega
  · have := h.ns; simp [PlanD.p, hl.ns.1] at this; omega
  · obtain ⟨g, o, hp⟩ := lie_at hl.ns x hx
    have : x.es.length ≤ 500 := h.ne _ (mem hx)
    have e := hp.2.2.2.2.2.1
    omega
  · have := h.os; simp [PlanD.p, hl.os.1] at this; omega

theorem form_told (d : PlanD) (w : World) (hl : d.lie w) (hm : d.p.little) : Calls Try.prog 19 #[d.v] w fun e w' => e = .returned (.agg #[.int .i64 (chkP d.p).1, .int .i64 (chkP d.p).2]) ∧ Below w.heap.size w w' :=
  (form_any d w hl hm).mono fun e w' ⟨C, A, hC, he, hb⟩ => by
    obtain ⟨rfl, rfl⟩ := chk_is hl hC
    exact ⟨he, hb⟩

theorem pkeep14 {w w' : World} {s t : Nat} {v0 v1 v2 v3 v4 v5 v6 u0 u1 u2 u3 u4 u5 u6 : Value} (h : w.cell? ⟨s, 0, none⟩ = some v0 ∧ w.cell? ⟨s, 1, none⟩ = some v1 ∧ w.cell? ⟨s, 2, none⟩ = some v2 ∧ w.cell? ⟨s, 3, none⟩ = some v3 ∧ w.cell? ⟨s, 4, none⟩ = some v4 ∧ w.cell? ⟨s, 5, none⟩ = some v5 ∧ w.cell? ⟨s, 6, none⟩ = some v6 ∧ w.cell? ⟨t, 0, none⟩ = some u0 ∧ w.cell? ⟨t, 1, none⟩ = some u1 ∧ w.cell? ⟨t, 2, none⟩ = some u2 ∧ w.cell? ⟨t, 3, none⟩ = some u3 ∧ w.cell? ⟨t, 4, none⟩ = some u4 ∧ w.cell? ⟨t, 5, none⟩ = some u5 ∧ w.cell? ⟨t, 6, none⟩ = some u6) (b : Below w.heap.size w w') : w'.cell? ⟨s, 0, none⟩ = some v0 ∧ w'.cell? ⟨s, 1, none⟩ = some v1 ∧ w'.cell? ⟨s, 2, none⟩ = some v2 ∧ w'.cell? ⟨s, 3, none⟩ = some v3 ∧ w'.cell? ⟨s, 4, none⟩ = some v4 ∧ w'.cell? ⟨s, 5, none⟩ = some v5 ∧ w'.cell? ⟨s, 6, none⟩ = some v6 ∧ w'.cell? ⟨t, 0, none⟩ = some u0 ∧ w'.cell? ⟨t, 1, none⟩ = some u1 ∧ w'.cell? ⟨t, 2, none⟩ = some u2 ∧ w'.cell? ⟨t, 3, none⟩ = some u3 ∧ w'.cell? ⟨t, 4, none⟩ = some u4 ∧ w'.cell? ⟨t, 5, none⟩ = some u5 ∧ w'.cell? ⟨t, 6, none⟩ = some u6 :=
  ⟨cell_keep h.1 b, cell_keep h.2.1 b, cell_keep h.2.2.1 b, cell_keep h.2.2.2.1 b, cell_keep h.2.2.2.2.1 b, cell_keep h.2.2.2.2.2.1 b, cell_keep h.2.2.2.2.2.2.1 b, cell_keep h.2.2.2.2.2.2.2.1 b, cell_keep h.2.2.2.2.2.2.2.2.1 b, cell_keep h.2.2.2.2.2.2.2.2.2.1 b, cell_keep h.2.2.2.2.2.2.2.2.2.2.1 b, cell_keep h.2.2.2.2.2.2.2.2.2.2.2.1 b, cell_keep h.2.2.2.2.2.2.2.2.2.2.2.2.1 b, cell_keep h.2.2.2.2.2.2.2.2.2.2.2.2.2 b⟩

end Go.Proofs.Ytkggocdannkdmaa
