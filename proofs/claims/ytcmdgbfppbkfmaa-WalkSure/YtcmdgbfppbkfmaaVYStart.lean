/- Yard.start, as Parse asks for it. -/
import Derived.Test.YtcmdgbfppbkfmaaVYParse
import Derived.Test.YtcmdgbfppbkfmaaVYBeg
namespace Go.Proofs.Ytcmdgbfppbkfmaa
open Go.RowKit

theorem thereN_none (n : Nat) : thereN (List.replicate n false) = 0 := by
  refine Nat.eq_of_testBit_eq fun k => ?_
  rw [thereN_bit, Nat.zero_testBit, List.getD_eq_getElem?_getD, List.getElem?_replicate]
  by_cases h : k < n
  · rw [if_pos h]; rfl
  · rw [if_neg h]; rfl

/-- start is as Parse asks for it -/
theorem start_any (d : PlanD) (hc : (chkP d.p).1 = 0) (yb : Nat) (b : QSl) (bs : List Int) (port : Int) (w : World) (hl : d.lie w) (hy : YBox d yb w) (hb : Has .u8 w b.a b.n bs) (hbc : b.n ≤ b.c) (hp : 0 ≤ port ∧ port < 65536) :
    Calls Try.prog 16 #[.pointer (some ⟨yb, 0, none⟩), .slice b.a b.n b.c, .int .i64 port] w (StartDone d yb b bs w) := by
  have e0 : d.p.hs.length = d.heads.n := by simp [PlanD.p, hl.hs.1]
  have e1 : d.p.ms.length = d.mta.n := by simp [PlanD.p]; exact hl.ms.1
  have h6 : (d.p.hs.length : Int) ≤ mostOf 0 := (chk_zero hc 0 (by decide)).2.1
  have hm : (d.p.ms.length : Int) ≤ mostOf 1 := (chk_zero hc 1 (by decide)).2.1
  have m0 : mostOf 0 ≤ 100 := by decide
  have m1 : mostOf 1 ≤ 100 := by decide
  have hyl : yb < w.heap.size := World.block_lt_of_cell? _ _ hy.1
  have hw : ∀ x ∈ d.hs, x.w.n ≤ 1000 := fun x hx => by
    obtain ⟨i, hi, rfl⟩ := List.getElem_of_mem hx
    have hi' : i < manyP d.p 0 := by show i < d.p.hs.length; simpa [PlanD.p] using hi
    have hs : sizeC (d.p.hs.getD i []) = 0 := (chk_zero hc 0 (by decide)).2.2 i hi'
    have h8 := (sizeC_good hs).2.1
    have e : d.p.hs.getD i [] = d.hs[i].ws := by simp [PlanD.p, List.getD_eq_getElem?_getD, hi]
    rw [e] at h8
    obtain ⟨g, off, _, hh⟩ := hl.hs.2 i _ (List.getElem?_eq_getElem hi)
    have := hh.2.1
    omega
  refine (start_raw d yb b port w hl.hs hy.1 hy.2.1 (by omega) (by omega) hw hp).mono fun e w' ⟨q, th, mt, va, vc, V, he, h⟩ => ?_
  have hbel := h.bel
  have hyb : yb ≠ q := by have := h.ot; have := h.tq; omega
  have hql := h.ql
  have htq := h.tq
  have hmq := h.mq
  have hot := h.ot
  have hom := h.om
  have htm := h.tm
  have hvb : ∃ vb, w.heap.size ≤ vb ∧ vb < w'.heap.size ∧ vb ≠ q ∧ vb ≠ th ∧ (∀ o, w'.frozen? ⟨vb, o, none⟩ = false) ∧ (0 < d.heads.n → va = some ⟨vb, 0, none⟩) := by
    by_cases h0 : 0 < d.heads.n
    · obtain ⟨g, cap, ev, hle, _⟩ : ∃ g cap, Value.slice va d.heads.n vc = .slice (some ⟨g, 0, none⟩) d.heads.n cap ∧ q + 1 ≤ g ∧ g < w'.heap.size := by
        rcases h.own.2 with ⟨_, e2⟩ | ⟨g, cap, cur, e2, hg, _⟩
        · omega
        · have := h.own.lt g (by rw [e2]; rfl)
          exact ⟨g, cap, e2, this.1, this.2⟩
      simp only [Value.slice.injEq, true_and] at ev
      obtain ⟨rfl, rfl⟩ := ev
      have hlt := h.own.lt g rfl
      exact ⟨g, by omega, hlt.2, by omega, by omega, fun o => h.own.frozenAt o, fun _ => rfl⟩
    · exact ⟨mt, hom, by omega, by omega, fun e => htm e.symm, h.mf, fun h => absurd h h0⟩
  obtain ⟨vb, v1, v2, v3, v4, v5, v6⟩ := hvb
  refine ⟨⟨q, yb, th, vb, b, bs, ⟨va, d.heads.n, vc⟩, V.map (fun x => (⟨some ⟨x.1, 0, none⟩, x.2, x.2⟩, List.replicate x.2 0)), List.replicate d.heads.n false, ⟨some ⟨mt, 0, none⟩, d.mta.n, d.mta.n⟩, List.replicate d.mta.n 0, port, false⟩, he, ?_, rfl, rfl, rfl, thereN_none _, by dsimp only; omega, hot, v1, hbel⟩
  have zz : ∀ {bk n : Nat}, (∀ j, j < n → w'.cell? ⟨bk, j, none⟩ = some (.int .u64 0)) → bk < w'.heap.size → Has .u64 w' (some ⟨bk, 0, none⟩) n (List.replicate n 0) := fun {bk n} hz hlt => ⟨by simp, fun m hm => by rw [List.eq_of_mem_replicate hm]; decide, .inr ⟨bk, 0, rfl, hlt, fun i hi => by
    rw [Nat.zero_add, hz i hi, List.getD_eq_getElem?_getD, List.getElem?_replicate, if_pos hi]
    rfl⟩⟩
  refine ⟨h.c0, h.c1, h.c2, h.c3, h.c4, h.c5, h.c8, h.fq, hy.step hbel, fun i x hx => ?_, h.tf, by simp, ⟨rfl, v6⟩, by simp [h.vl], fun i x hx => ?_, v5, hb.step hbel, zz h.ms (by omega), e1.symm, wf_u64 _ (by dsimp only; omega), by dsimp only; omega, fun e => v3 e.symm, fun e => hyb e.symm, fun e => v4 e.symm, by dsimp only; omega, by dsimp only; omega, by dsimp only; omega, v2, hbc⟩
  · dsimp only at hx
    rw [List.getElem?_replicate] at hx
    by_cases hi : i < d.heads.n
    · rw [if_pos hi] at hx
      cases hx
      exact h.ts i hi
    · rw [if_neg hi] at hx
      cases hx
  · dsimp only at hx ⊢
    rw [List.getElem?_map] at hx
    obtain ⟨y, hy1, rfl⟩ := Option.map_eq_some_iff.1 hx
    obtain ⟨r1, r2, r3, r4, hd, r5, r6⟩ := h.vs i y hy1
    have hi : i < d.heads.n := by
      have := (List.getElem?_eq_some_iff.1 hy1).1
      rw [h.vl] at this
      exact this
    refine ⟨?_, zz r4 r2, ?_⟩
    · have hva := v6 (by omega)
      have ho := h.own
      rw [hva] at ho
      have := ho.cellAt i (by omega)
      rw [this, List.getElem?_map, hy1]
      rfl
    · have e : d.p.hs.getD i [] = hd.ws := by simp [PlanD.p, List.getD_eq_getElem?_getD, r5]
      rw [e]
      obtain ⟨g, off, _, hh⟩ := hl.hs.2 i _ r5
      have := hh.2.1
      dsimp only
      omega
end Go.Proofs.Ytcmdgbfppbkfmaa
