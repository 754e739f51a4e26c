/- The bytes of a right plan are not too many. -/
import Derived.Test.YthekochmeihdfaaGreatJ10
import Derived.Test.YthekochmeihdfaaGreatJ9
namespace Go.Proofs.YthekochmeihdfaaGreat
open Go.RowKit

theorem plain_len : ∀ (k n : Nat), n < 128 ^ (k + 1) → (plainL n).length ≤ k + 1
  | 0, n, h => by rw [plain_small (by simpa using h)]; simp
  | k + 1, n, h => by
    by_cases hn : n < 128
    · rw [plain_small hn]; simp
    · rw [plain_great hn, List.length_cons]
      have := plain_len k (n / 128) (Nat.div_lt_of_lt_mul (by rw [Nat.mul_comm, ← Nat.pow_succ]; exact h))
      omega

theorem plain_ten {n : Nat} (h : n < 18446744073709551616) : (plainL n).length ≤ 10 := plain_len 9 n (Nat.lt_of_lt_of_le h (by decide))
theorem num_ten {n : Int} (h : wfI n) : (numL n).length ≤ 10 := plain_ten (fold_lt h)
theorem wf_nat {n : Nat} (h : n ≤ 100000) : wfI (n : Int) := by
  unfold wfI
  simp [Lit.wf, IntKind.min, IntKind.max, IntKind.bits, IntKind.signed]
  omega
theorem cnt_ten {n : Nat} (h : n ≤ 100000) : (numL (n : Int)).length ≤ 10 := num_ten (wf_nat h)

theorem flatL_len {α : Type} {f : α → List Int} {b : Nat} : ∀ {L : List α}, (∀ x ∈ L, (f x).length ≤ b) → (L.flatMap f).length ≤ L.length * b
  | [], _ => by simp
  | x :: L, h => by
    have ih := flatL_len (L := L) fun y hy => h y (List.mem_cons_of_mem _ hy)
    have h1 := h x List.mem_cons_self
    rw [List.flatMap_cons, List.length_append, List.length_cons, Nat.add_mul, Nat.one_mul]
    omega

theorem ints_len {ns : List Int} (h : ∀ x ∈ ns, wfI x) {k : Nat} (hk : ns.length ≤ k) (k5 : k ≤ 100000) : (intsL ns).length ≤ 10 + k * 10 := by
  unfold intsL
  have h1 := cnt_ten (show ns.length ≤ 100000 by omega)
  have h2 := flatL_len (f := numL) (b := 10) fun x hx => num_ten (h x hx)
  have h3 : ns.length * 10 ≤ k * 10 := Nat.mul_le_mul_right _ hk
  rw [List.length_append]
  omega

theorem nums_len {zs : List Int} (h : ∀ x ∈ zs, (Lit.int .u64 x).wf = true) {k : Nat} (hk : zs.length ≤ k) (k5 : k ≤ 100000) : (numsL zs).length ≤ 10 + k * 10 := by
  unfold numsL
  have h1 := cnt_ten (show zs.length ≤ 100000 by omega)
  have h2 := flatL_len (f := fun z : Int => plainL z.toNat) (b := 10) (L := zs) fun x hx => plain_ten (by have := bounds_u64 (h x hx); omega)
  have h3 : zs.length * 10 ≤ k * 10 := Nat.mul_le_mul_right _ hk
  rw [List.length_append]
  omega

theorem ref_len {r : RefD} (h1 : wfI r.h) (h2 : wfI r.f) : (refL r).length ≤ 20 := by
  have := num_ten h1
  have := num_ten h2
  unfold refL
  rw [List.length_append]
  omega

theorem step_len {x : PushD} (h : wfI x.op ∧ wfI x.r.h ∧ wfI x.r.f ∧ (Lit.int .u64 x.n).wf = true) : (stepL x).length ≤ 30 := by
  have h1 := num_ten h.1
  have h2 := ref_len h.2.1 h.2.2.1
  have h3 := plain_ten (n := x.n.toNat) (by have := bounds_u64 h.2.2.2; omega)
  unfold stepL
  rw [List.length_append]
  split
  · omega
  · split
    · omega
    · simp; omega

theorem tree_len {es : List PushD} (h : ∀ x ∈ es, wfI x.op ∧ wfI x.r.h ∧ wfI x.r.f ∧ (Lit.int .u64 x.n).wf = true) (hk : es.length ≤ 500) : (treeL es).length ≤ 15010 := by
  unfold treeL
  have h1 := cnt_ten (show es.length ≤ 100000 by omega)
  have h2 := flatL_len (f := stepL) (b := 30) fun x hx => step_len (h x hx)
  rw [List.length_append]
  omega

theorem push_wf {w : World} {s : QSl} {S : List PushD} (h : QRow 4 PushD.lie w s S) : ∀ x ∈ S, wfI x.op ∧ wfI x.r.h ∧ wfI x.r.f ∧ (Lit.int .u64 x.n).wf = true := fun x hx => by
  obtain ⟨i, hi, rfl⟩ := List.getElem_of_mem hx
  obtain ⟨g, off, _, hp⟩ := h.2 i _ (List.getElem?_eq_getElem hi)
  exact ⟨hp.1.2, hp.2.1.2, hp.2.2.1.2, hp.2.2.2.2⟩

theorem row_mem {α : Type} {k : Nat} {P : α → World → Nat → Nat → Prop} {w : World} {s : QSl} {S : List α} (h : QRow k P w s S) : ∀ y ∈ S, ∃ g o, P y w g o := fun y hy => by
  obtain ⟨i, hi, rfl⟩ := List.getElem_of_mem hy
  obtain ⟨g, off, _, hp⟩ := h.2 i _ (List.getElem?_eq_getElem hi)
  exact ⟨g, _, hp⟩

theorem head_len {w : World} {g o : Nat} {x : HeadD} (h : x.lie w g o) (hk : x.ws.length ≤ 500) : (headL x).length ≤ 5010 := ints_len h.2.2.1 hk (by decide)

theorem case_len {w : World} {g o : Nat} {x : CaseD} (h : x.lie w g o) : (caseL x).length ≤ 30 := by
  have h1 := plain_ten (n := x.value.toNat) (by have := bounds_u64 h.1.2; omega)
  have h2 := plain_ten (n := x.mask.toNat) (by have := bounds_u64 h.2.1.2; omega)
  have h3 := num_ten h.2.2.2
  unfold caseL
  simp only [List.length_append]
  omega

theorem state_len {w : World} {g o : Nat} {x : StateD} (h : x.lie w g o) (hk : x.cs.length ≤ 500) : (stateL x).length ≤ 15100 := by
  have h1 := num_ten h.1.2
  have h2 := cnt_ten (n := x.cases.n) (by have := h.2.2.2.2.2.1; omega)
  have h3 := ref_len h.2.1.2 h.2.2.1.2
  have h4 := flatL_len (f := caseL) (b := 30) (L := x.cs) fun y hy => by obtain ⟨g', o', hp⟩ := row_mem h.2.2.2.2.2 y hy; exact case_len hp
  have h5 := num_ten h.2.2.2.2.1.2
  unfold stateL
  simp only [List.length_append]
  split
  · simp only [List.length_nil]; omega
  · omega

theorem op_len {w : World} {g o : Nat} {x : OpD} (h : x.lie w g o) (hk : x.es.length ≤ 500) : (opL x).length ≤ 15100 := by
  have h1 := num_ten h.1.2
  have h2 := ref_len h.2.1.2 h.2.2.1.2
  have h3 := num_ten h.2.2.2.1.2
  have h4 := tree_len (push_wf h.2.2.2.2.2) hk
  unfold opL
  rw [List.length_append]
  (repeat' split) <;> first | omega | (simp only [List.length_append]; omega) | (simp only [List.length_nil]; omega)

theorem act_len {w : World} {g o : Nat} {x : ActD} (h : x.lie w g o) (hw : x.ws.length ≤ 500) (ho : x.os.length ≤ 50) (hk : ∀ y ∈ x.os, y.es.length ≤ 500) : (actL x).length ≤ 770000 := by
  have h1 := ints_len h.2.2.1.2.1 hw (by decide)
  have h2 := cnt_ten (n := x.ops.n) (by have := h.2.2.2.1; omega)
  have h3 := flatL_len (f := opL) (b := 15100) (L := x.os) fun y hy => by obtain ⟨g', o', hp⟩ := row_mem h.2.2.2 y hy; exact op_len hp (hk y hy)
  unfold actL
  simp only [List.length_append]
  omega

theorem tab_len {w : World} {g o : Nat} {x : TabD} (h : x.lie w g o) (hk : x.ks.length ≤ 500) (ha : x.al.length ≤ 500) (hz : x.zs.length ≤ 500) : (tabL x).length ≤ 30000 := by
  have h1 := num_ten h.1.2
  have h2 := cnt_ten (n := x.keys.n) (by have := h.2.2.2.2.2.2.1.1; omega)
  have h3 := flatL_len (f := refL) (b := 20) (L := x.ks) fun y hy => by obtain ⟨g', o', hp⟩ := row_mem h.2.2.2.2.2.2.1 y hy; exact ref_len hp.1.2 hp.2.2
  have h4 := ints_len h.2.2.2.2.2.2.2.1.2.1 ha (by decide)
  have h5 := num_ten h.2.2.2.1.2
  have h6 := num_ten h.2.2.2.2.1.2
  have h7 := nums_len h.2.2.2.2.2.2.2.2.2.1 hz (by decide)
  unfold tabL
  simp only [List.length_append]
  omega

theorem node_len {w : World} {g o : Nat} {x : NodeD} (h : x.lie w g o) (hk : x.es.length ≤ 500) : (nodeL x).length ≤ 15100 := by
  have h1 := num_ten h.1.2
  have h2 := num_ten h.2.1.2
  have h3 := num_ten h.2.2.2.1.2
  have h4 := num_ten h.2.2.2.2.1.2
  have h5 := tree_len (push_wf h.2.2.2.2.2) hk
  unfold nodeL
  rw [List.length_append]
  (repeat' split) <;> first | omega | (simp only [List.length_append]; omega)

/-- a right plan's bytes -/
theorem body_len {d : PlanD} {w : World} (hl : d.lie w) (hm : d.p.little) (hc : (chkP d.p).1 = 0) : (bodyL d).length ≤ 9000000 := by
  have mem : ∀ {α β : Type} {L : List α} {f : α → β} {x : α}, x ∈ L → f x ∈ L.map f := fun hx => List.mem_map.2 ⟨_, hx, rfl⟩
  have n0 : (d.p.hs.length : Int) ≤ 6 := (chk_zero hc 0 (by decide)).2.1
  have n2 : (d.p.ss.length : Int) ≤ 8 := (chk_zero hc 2 (by decide)).2.1
  have n3 : (d.p.al.length : Int) ≤ 8 := (chk_zero hc 3 (by decide)).2.1
  have n4 : (d.p.ts.length : Int) ≤ 5 := (chk_zero hc 4 (by decide)).2.1
  have n5 : (d.p.ns.length : Int) ≤ 10 := (chk_zero hc 5 (by decide)).2.1
  have m1 := hm.ms
  have m6 := hm.os
  simp only [PlanD.p, List.length_map] at n0 n2 n3 n4 n5 m1 m6
  have e0 := hl.hs.1
  have e2 := hl.ss.1
  have e3 := hl.al.1
  have e4 := hl.ts.1
  have e5 := hl.ns.1
  have a0 := flatL_len (f := headL) (b := 5010) (L := d.hs) fun y hy => by obtain ⟨g, o, hp⟩ := row_mem hl.hs y hy; exact head_len hp (hm.hw _ (mem hy))
  have a1 := ints_len hl.ms.2.1 m1 (by decide)
  have a2 := flatL_len (f := stateL) (b := 15100) (L := d.ss) fun y hy => by obtain ⟨g, o, hp⟩ := row_mem hl.ss y hy; exact state_len hp (hm.sc _ (mem hy))
  have a3 := flatL_len (f := actL) (b := 770000) (L := d.al) fun y hy => by
    obtain ⟨g, o, hp⟩ := row_mem hl.al y hy
    have h1 := hm.aw _ (mem hy)
    have h3 : (y.os.map OpD.p).length ≤ 50 := h1.2
    rw [List.length_map] at h3
    exact act_len hp h1.1 h3 fun z hz => hm.ae _ (mem hy) _ (mem hz)
  have a4 := flatL_len (f := tabL) (b := 30000) (L := d.ts) fun y hy => by
    obtain ⟨g, o, hp⟩ := row_mem hl.ts y hy
    have h1 := hm.tl _ (mem hy)
    exact tab_len hp h1.1 h1.2.1 h1.2.2
  have a5 := flatL_len (f := nodeL) (b := 15100) (L := d.ns) fun y hy => by obtain ⟨g, o, hp⟩ := row_mem hl.ns y hy; exact node_len hp (hm.ne _ (mem hy))
  have a6 := ints_len hl.os.2.1 m6 (by decide)
  have c0 := cnt_ten (n := d.heads.n) (by omega)
  have c2 := cnt_ten (n := d.states.n) (by omega)
  have c3 := cnt_ten (n := d.acts.n) (by omega)
  have c4 := cnt_ten (n := d.tabs.n) (by omega)
  have c5 := cnt_ten (n := d.nodes.n) (by omega)
  unfold bodyL planL
  simp only [List.length_append, List.length_cons, List.length_nil]
  omega

theorem wfew_of {d : PlanD} {w : World} (hl : d.lie w) (h : d.p.little) : d.wfew := by
  have mem : ∀ {α β : Type} {L : List α} {f : α → β} {x : α}, x ∈ L → f x ∈ L.map f := fun hx => List.mem_map.2 ⟨_, hx, rfl⟩
  refine ⟨⟨?_, fun x hx => ?_⟩, ?_, ⟨?_, fun x hx => ?_⟩, ⟨?_, fun x hx => ?_⟩, ⟨?_, fun x hx => ?_⟩, ⟨?_, fun x hx => ?_⟩, ?_⟩
  · have := h.hs; simp [PlanD.p, hl.hs.1] at this; omega
  · obtain ⟨g, o, hp⟩ := row_mem hl.hs x hx
    have : x.ws.length ≤ 500 := h.hw _ (mem hx)
    have e := hp.2.1
    omega
  · have := h.ms; simp [PlanD.p, hl.ms.1] at this; omega
  · have := h.ss; simp [PlanD.p, hl.ss.1] at this; omega
  · obtain ⟨g, o, hp⟩ := row_mem hl.ss x hx
    have : x.cs.length ≤ 500 := h.sc _ (mem hx)
    have e := hp.2.2.2.2.2.1
    omega
  · have := h.al; simp [PlanD.p, hl.al.1] at this; omega
  · obtain ⟨g, o, hp⟩ := row_mem hl.al x hx
    have h1 := h.aw _ (mem hx)
    have h2 : x.ws.length ≤ 500 := h1.1
    have h3 : (x.os.map OpD.p).length ≤ 50 := h1.2
    rw [List.length_map] at h3
    have e := hp.2.2.1.1
    have e2 := hp.2.2.2.1
    refine ⟨by omega, by omega, fun y hy => ?_⟩
    obtain ⟨g', o', hp'⟩ := row_mem hp.2.2.2 y hy
    have : y.es.length ≤ 500 := h.ae _ (mem hx) _ (mem hy)
    have e3 := hp'.2.2.2.2.2.1
    omega
  · have := h.ts; simp [PlanD.p, hl.ts.1] at this; omega
  · obtain ⟨g, o, hp⟩ := row_mem hl.ts x hx
    have h1 := h.tl _ (mem hx)
    have h2 : x.ks.length ≤ 500 := h1.1
    have h3 : x.al.length ≤ 500 := h1.2.1
    have h4 : x.zs.length ≤ 500 := h1.2.2
    have e := hp.2.2.2.2.2.2.1.1
    have e2 := hp.2.2.2.2.2.2.2.1.1
    have e3 := hp.2.2.2.2.2.2.2.2.1
    omega
  · have := h.ns; simp [PlanD.p, hl.ns.1] at this; omega
  · obtain ⟨g, o, hp⟩ := row_mem hl.ns x hx
    have : x.es.length ≤ 500 := h.ne _ (mem hx)
    have e := hp.2.2.2.2.2.1
    omega
  · have := h.os; simp [PlanD.p, hl.os.1] at this; omega

/-- what Encode does with a plan that is not great -/
theorem encode_little (d : PlanD) (w : World) (hl : d.lie w) (hm : d.p.little) : Calls Tryz.prog 9 #[d.v] w (EncDone d w) := by
  by_cases hc : (chkP d.p).1 = 0
  · exact enc_good d w hl (small_of hl hm) (wfew_of hl hm) (body_len hl hm hc) hc
  · exact enc_bad d w hl (small_of hl hm) hc
end Go.Proofs.YthekochmeihdfaaGreat
