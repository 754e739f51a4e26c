/- Texts of one chain, joined: ZBk2, ZBk3, ZBk4, ZBk5, ZBk8. -/
import Derived.Test.YtedeiaokohdhpaaGreatG24
import Derived.Test.YtedeiaokohdhpaaGreatG27
import Derived.Test.YtedeiaokohdhpaaGreatG12
import Derived.Test.YtedeiaokohdhpaaGreatG28
import Derived.Test.YtedeiaokohdhpaaGreatG17
namespace Go.Proofs.YtedeiaokohdhpaaGreat
open Go.RowKit
theorem rds_ref {x : RefD} (hh : wfI x.h) (hf : wfI x.f) : Rds fieldR (refL x) (x.h, x.f) :=
  (rds_num hh).next (g := fun h zs u => thenR (numR zs u) fun f u' => .ok ((h, f), u')) (Rds.last ((rds_num hf).next (g := fun f _ u' => .ok ((x.h, f), u')) (Rds.done _)))
theorem rds_case {x : CaseD} (h1 : 0 ≤ x.value ∧ x.value < 18446744073709551616) (h2 : 0 ≤ x.mask ∧ x.mask < 18446744073709551616) (h3 : wfI x.to) : Rds caseR (caseL x) (x.value, x.mask, x.to) :=
  (rds_plainI h1.1 h1.2).next (g := fun v zs u => thenR (plainI zs u) fun m u' => thenR (numR zs u') fun n u'' => .ok ((v, m, n), u'')) ((rds_plainI h2.1 h2.2).next (g := fun m zs u' => thenR (numR zs u') fun n u'' => .ok ((x.value, m, n), u'')) (Rds.last ((rds_num h3).next (g := fun n _ u'' => .ok ((x.value, x.mask, n), u'')) (Rds.done _))))
theorem plain1 (n : Nat) : 1 ≤ (plainL n).length := by
  by_cases h : n < 128
  · rw [plain_small h]; exact Nat.le_refl _
  · rw [plain_great h, List.length_cons]; omega
theorem num1 (x : Int) : 1 ≤ (numL x).length := plain1 _
def stepX (x : PushD) : Int × Int × Int × Int := if x.op = 1 then (x.op, 0, 0, x.n) else if x.op = 2 then (x.op, x.r.h, x.r.f, 0) else (x.op, 0, 0, 0)
theorem rds_step {x : PushD} (h0 : wfI x.op) (h1 : wfI x.r.h) (h2 : wfI x.r.f) (h3 : 0 ≤ x.n ∧ x.n < 18446744073709551616) : Rds stepR (stepL x) (stepX x) := by
  refine (rds_num h0).next (g := fun op zs u => if op = 1 then thenR (plainI zs u) fun n u' => .ok ((op, 0, 0, n), u') else if op = 2 then thenR (fieldR zs u) fun r u' => .ok ((op, r.1, r.2, 0), u') else .ok ((op, 0, 0, 0), u)) ?_
  unfold stepX
  by_cases e1 : x.op = 1
  · simp only [if_pos e1]
    exact Rds.last ((rds_plainI h3.1 h3.2).next (g := fun n _ u' => .ok ((x.op, 0, 0, n), u')) (Rds.done _))
  · by_cases e2 : x.op = 2
    · simp only [if_neg e1, if_pos e2]
      exact Rds.last ((rds_ref h1 h2).next (g := fun r _ u' => .ok ((x.op, r.1, r.2, 0), u')) (Rds.done _))
    · simp only [if_neg e1, if_neg e2]
      exact Rds.done _
theorem step1 (x : PushD) : 1 ≤ (stepL x).length := by
  unfold stepL
  rw [List.length_append]
  have := num1 x.op
  omega
def PushD.nums (x : PushD) : Prop := wfI x.op ∧ wfI x.r.h ∧ wfI x.r.f ∧ 0 ≤ x.n ∧ x.n < 18446744073709551616
theorem rds_tree {es : List PushD} (hn : es.length ≤ 100000) (h : ∀ y ∈ es, y.nums) : Rds (fun zs t => listC zs (stepR zs) t) (treeL es) (es.map stepX) :=
  rds_listC es hn (fun y hy => rds_step (h y hy).1 (h y hy).2.1 (h y hy).2.2.1 (h y hy).2.2.2) (fun y _ => step1 y)
theorem cnt_of {n : Nat} (hn : n ≤ 100000) (pre post : List Int) (hp : n ≤ post.length) : cntR (pre ++ (numL n ++ post)) pre.length = .ok (n, pre.length + (numL n).length) := by
  have e := rds_num (x := (n : Int)) (wf_i64 _ (by omega)) pre post
  unfold cntR
  rw [e]
  dsimp only
  rw [if_neg (by simp only [List.length_append]; omega), Int.toNat_natCast]
def caseX (x : CaseD) : Int × Int × Int := (x.value, x.mask, x.to)
def CaseD.nums (x : CaseD) : Prop := (0 ≤ x.value ∧ x.value < 18446744073709551616) ∧ (0 ≤ x.mask ∧ x.mask < 18446744073709551616) ∧ wfI x.to
theorem case1 (x : CaseD) : 1 ≤ (caseL x).length := by
  unfold caseL
  rw [List.length_append]
  have := plain1 x.value.toNat
  omega
theorem flat1 {γ : Type} {enc : γ → List Int} : ∀ (ys : List γ), (∀ y ∈ ys, 1 ≤ (enc y).length) → ys.length ≤ (ys.flatMap enc).length
  | [], _ => Nat.le_refl _
  | y :: ys, h => by
    have a := h y (List.mem_cons_self ..)
    have b := flat1 ys fun z hz => h z (List.mem_cons_of_mem _ hz)
    rw [List.flatMap_cons, List.length_append, List.length_cons]
    omega
def stateX (x : StateD) : StateX := ⟨x.head, if x.cases.n = 0 then (0, 0) else (x.r.h, x.r.f), x.cs.map caseX, x.els⟩
theorem rds_state {x : StateD} (hn : x.cases.n ≤ 100000) (hl : x.cs.length = x.cases.n) (h0 : wfI x.head) (h1 : wfI x.r.h) (h2 : wfI x.r.f) (h3 : wfI x.els) (h : ∀ y ∈ x.cs, y.nums) : Rds stateR (stateL x) (stateX x) := by
  have hc := rds_list (f := caseR) (enc := caseL) (val := caseX) x.cs (fun y hy => rds_case (h y hy).1 (h y hy).2.1 (h y hy).2.2)
  have hf := flat1 x.cs (fun y _ => case1 y)
  rw [hl] at hc hf
  have hr : Rds (fun zs u2 => thenR (if x.cases.n = 0 then .ok ((0, 0), u2) else fieldR zs u2) fun on u3 => thenR (listR (caseR zs) x.cases.n u3) fun cs u4 => thenR (numR zs u4) fun el u5 => .ok ((⟨x.head, on, cs, el⟩ : StateX), u5)) ((if x.cases.n = 0 then [] else refL x.r) ++ (x.cs.flatMap caseL ++ numL x.els)) (stateX x) := by
    refine Rds.next (f := fun zs u2 => if x.cases.n = 0 then .ok ((0, 0), u2) else fieldR zs u2) (g := fun on zs u3 => thenR (listR (caseR zs) x.cases.n u3) fun cs u4 => thenR (numR zs u4) fun el u5 => .ok ((⟨x.head, on, cs, el⟩ : StateX), u5)) (x := if x.cases.n = 0 then (0, 0) else (x.r.h, x.r.f)) ?_ ?_
    · by_cases e : x.cases.n = 0
      · simp only [if_pos e]; exact Rds.done _
      · simp only [if_neg e]; exact rds_ref h1 h2
    · exact hc.next (g := fun cs zs u4 => thenR (numR zs u4) fun el u5 => .ok ((⟨x.head, if x.cases.n = 0 then (0, 0) else (x.r.h, x.r.f), cs, el⟩ : StateX), u5)) (Rds.last ((rds_num h3).next (g := fun el _ u5 => .ok ((⟨x.head, if x.cases.n = 0 then (0, 0) else (x.r.h, x.r.f), x.cs.map caseX, el⟩ : StateX), u5)) (Rds.done _)))
  intro pre post
  have a1 := rds_num h0 pre (numL (x.cases.n : Int) ++ (((if x.cases.n = 0 then [] else refL x.r) ++ (x.cs.flatMap caseL ++ numL x.els)) ++ post))
  have a2 := cnt_of hn (pre ++ numL x.head) (((if x.cases.n = 0 then [] else refL x.r) ++ (x.cs.flatMap caseL ++ numL x.els)) ++ post) (by simp only [List.length_append]; omega)
  have a3 := hr (pre ++ numL x.head ++ numL (x.cases.n : Int)) post
  dsimp only at a3
  rw [List.append_assoc, List.length_append] at a2
  rw [show pre ++ numL x.head ++ numL (x.cases.n : Int) ++ (((if x.cases.n = 0 then [] else refL x.r) ++ (x.cs.flatMap caseL ++ numL x.els)) ++ post) = pre ++ (numL x.head ++ (numL (x.cases.n : Int) ++ (((if x.cases.n = 0 then [] else refL x.r) ++ (x.cs.flatMap caseL ++ numL x.els)) ++ post))) by simp only [List.append_assoc], show (pre ++ numL x.head ++ numL (x.cases.n : Int)).length = pre.length + (numL x.head).length + (numL (x.cases.n : Int)).length by simp only [List.length_append]] at a3
  unfold stateR stateL
  rw [List.append_assoc, List.append_assoc, a1]
  show thenR (cntR _ _) _ = _
  rw [a2]
  refine Eq.trans a3 ?_
  simp only [List.length_append, Nat.add_assoc]
end Go.Proofs.YtedeiaokohdhpaaGreat

namespace Go.Proofs.YtedeiaokohdhpaaGreat
open Go.RowKit
theorem rds_ints {ns : List Int} (hn : ns.length ≤ 100000) (h : ∀ y ∈ ns, wfI y) : Rds (fun zs t => listC zs (numR zs) t) (intsL ns) ns := by
  have := rds_listC (f := numR) (enc := numL) (val := id) ns hn (fun y hy => rds_num (h y hy)) (fun y _ => num1 y)
  rwa [List.map_id] at this
theorem rds_nums {ns : List Int} (hn : ns.length ≤ 100000) (h : ∀ y ∈ ns, 0 ≤ y ∧ y < 18446744073709551616) : Rds (fun zs t => listC zs (plainI zs) t) (numsL ns) ns := by
  have := rds_listC (f := plainI) (enc := fun z => plainL z.toNat) (val := id) ns hn (fun y hy => rds_plainI (h y hy).1 (h y hy).2) (fun y _ => plain1 y.toNat)
  rwa [List.map_id] at this
def deedX (x : OpD) : DeedX := if x.kind = 1 then ⟨x.kind, x.r.h, x.r.f, 0, some (x.es.map stepX)⟩ else if x.kind = 2 then ⟨x.kind, 0, 0, x.head, none⟩ else if x.kind = 3 then ⟨x.kind, 0, 0, x.head, none⟩ else if x.kind = 5 then ⟨x.kind, 0, 0, 0, some (x.es.map stepX)⟩ else if x.kind = 6 then ⟨x.kind, x.r.h, x.r.f, x.head, none⟩ else ⟨x.kind, 0, 0, 0, none⟩
def OpD.nums (x : OpD) : Prop := wfI x.kind ∧ wfI x.r.h ∧ wfI x.r.f ∧ wfI x.head ∧ x.es.length ≤ 100000 ∧ ∀ y ∈ x.es, y.nums
theorem rds_deed {x : OpD} (h : x.nums) : Rds deedR (opL x) (deedX x) := by
  obtain ⟨h0, h1, h2, h3, h4, h5⟩ := h
  have ht := rds_tree h4 h5
  refine (rds_num h0).next (g := fun x1 zs u1 => if x1 = 1 then thenR (fieldR zs u1) fun r u2 => thenR (listC zs (stepR zs) u2) fun x3 u3 => .ok ((⟨x1, r.1, r.2, 0, some x3⟩ : DeedX), u3)
    else if x1 = 2 then thenR (numR zs u1) fun x2 u2 => .ok ((⟨x1, 0, 0, x2, none⟩ : DeedX), u2)
    else if x1 = 3 then thenR (numR zs u1) fun x2 u2 => .ok ((⟨x1, 0, 0, x2, none⟩ : DeedX), u2)
    else if x1 = 5 then thenR (listC zs (stepR zs) u1) fun x2 u2 => .ok ((⟨x1, 0, 0, 0, some x2⟩ : DeedX), u2)
    else if x1 = 6 then thenR (fieldR zs u1) fun r u2 => thenR (numR zs u2) fun x3 u3 => .ok ((⟨x1, r.1, r.2, x3, none⟩ : DeedX), u3)
    else .ok ((⟨x1, 0, 0, 0, none⟩ : DeedX), u1)) ?_
  unfold deedX
  by_cases e1 : x.kind = 1
  · simp only [if_pos e1]
    exact (rds_ref h1 h2).next (g := fun r zs u2 => thenR (listC zs (stepR zs) u2) fun x3 u3 => .ok ((⟨x.kind, r.1, r.2, 0, some x3⟩ : DeedX), u3)) (Rds.last (ht.next (g := fun x3 _ u3 => .ok ((⟨x.kind, x.r.h, x.r.f, 0, some x3⟩ : DeedX), u3)) (Rds.done _)))
  by_cases e2 : x.kind = 2
  · simp only [if_neg e1, if_pos e2]
    exact Rds.last ((rds_num h3).next (g := fun x2 _ u2 => .ok ((⟨x.kind, 0, 0, x2, none⟩ : DeedX), u2)) (Rds.done _))
  by_cases e3 : x.kind = 3
  · simp only [if_neg e1, if_neg e2, if_pos e3]
    exact Rds.last ((rds_num h3).next (g := fun x2 _ u2 => .ok ((⟨x.kind, 0, 0, x2, none⟩ : DeedX), u2)) (Rds.done _))
  by_cases e5 : x.kind = 5
  · simp only [if_neg e1, if_neg e2, if_neg e3, if_pos e5]
    exact Rds.last (ht.next (g := fun x3 _ u3 => .ok ((⟨x.kind, 0, 0, 0, some x3⟩ : DeedX), u3)) (Rds.done _))
  by_cases e6 : x.kind = 6
  · simp only [if_neg e1, if_neg e2, if_neg e3, if_neg e5, if_pos e6]
    exact (rds_ref h1 h2).next (g := fun r zs u2 => thenR (numR zs u2) fun x3 u3 => .ok ((⟨x.kind, r.1, r.2, x3, none⟩ : DeedX), u3)) (Rds.last ((rds_num h3).next (g := fun x3 _ u3 => .ok ((⟨x.kind, x.r.h, x.r.f, x3, none⟩ : DeedX), u3)) (Rds.done _)))
  · simp only [if_neg e1, if_neg e2, if_neg e3, if_neg e5, if_neg e6]
    exact Rds.done _
theorem deed1 (x : OpD) : 1 ≤ (opL x).length := by
  unfold opL
  rw [List.length_append]
  have := num1 x.kind
  omega
def actX (x : ActD) : ActX := ⟨x.ws, x.os.map deedX⟩
def ActD.nums (x : ActD) : Prop := x.ws.length ≤ 100000 ∧ (∀ y ∈ x.ws, wfI y) ∧ x.os.length ≤ 100000 ∧ x.os.length = x.ops.n ∧ ∀ y ∈ x.os, y.nums
theorem rds_act {x : ActD} (h : x.nums) : Rds actR (actL x) (actX x) := by
  obtain ⟨h0, h1, h2, h3, h4⟩ := h
  have hd := rds_listC (f := deedR) (enc := opL) (val := deedX) x.os h2 (fun y hy => rds_deed (h4 y hy)) (fun y _ => deed1 y)
  rw [h3] at hd
  exact (rds_ints h0 h1).next (g := fun x1 zs u1 => thenR (listC zs (deedR zs) u1) fun x2 u2 => .ok ((⟨x1, x2⟩ : ActX), u2)) (Rds.last (hd.next (g := fun x2 _ u2 => .ok ((⟨x.ws, x2⟩ : ActX), u2)) (Rds.done _)))
theorem ints1 (ns : List Int) : 1 ≤ (intsL ns).length := by
  unfold intsL
  rw [List.length_append]
  have := num1 (ns.length : Int)
  omega
theorem act1 (x : ActD) : 1 ≤ (actL x).length := by
  unfold actL
  rw [List.length_append]
  have := ints1 x.ws
  omega
def nodeX (x : NodeD) : NodeX := if x.kind = 3 then ⟨x.kind, 0, some (x.es.map stepX), x.yes, x.no⟩ else if x.kind = 4 then ⟨x.kind, x.n, none, x.yes, x.no⟩ else ⟨x.kind, x.n, none, x.yes, 0⟩
def NodeD.nums (x : NodeD) : Prop := wfI x.kind ∧ wfI x.n ∧ wfI x.yes ∧ wfI x.no ∧ x.es.length ≤ 100000 ∧ ∀ y ∈ x.es, y.nums
theorem rds_node {x : NodeD} (h : x.nums) : Rds nodeR (nodeL x) (nodeX x) := by
  obtain ⟨h0, h1, h2, h3, h4, h5⟩ := h
  have ht := rds_tree h4 h5
  unfold nodeL
  rw [List.append_assoc]
  refine (rds_num h0).next (g := fun x1 zs u1 => thenR (numR zs u1) fun x2 u2 =>
    if x1 = 3 then thenR (listC zs (stepR zs) u2) fun x3 u3 => thenR (numR zs u3) fun x4 u4 => .ok ((⟨x1, 0, some x3, x2, x4⟩ : NodeX), u4)
    else if x1 = 4 then thenR (numR zs u2) fun x3 u3 => thenR (numR zs u3) fun x4 u4 => .ok ((⟨x1, x3, none, x2, x4⟩ : NodeX), u4)
    else thenR (numR zs u2) fun x3 u3 => .ok ((⟨x1, x3, none, x2, 0⟩ : NodeX), u3)) ?_
  refine (rds_num h2).next (g := fun x2 zs u2 => if x.kind = 3 then thenR (listC zs (stepR zs) u2) fun x3 u3 => thenR (numR zs u3) fun x4 u4 => .ok ((⟨x.kind, 0, some x3, x2, x4⟩ : NodeX), u4)
    else if x.kind = 4 then thenR (numR zs u2) fun x3 u3 => thenR (numR zs u3) fun x4 u4 => .ok ((⟨x.kind, x3, none, x2, x4⟩ : NodeX), u4)
    else thenR (numR zs u2) fun x3 u3 => .ok ((⟨x.kind, x3, none, x2, 0⟩ : NodeX), u3)) ?_
  unfold nodeX
  by_cases e3 : x.kind = 3
  · simp only [if_pos e3]
    exact ht.next (g := fun x3 zs u3 => thenR (numR zs u3) fun x4 u4 => .ok ((⟨x.kind, 0, some x3, x.yes, x4⟩ : NodeX), u4)) (Rds.last ((rds_num h3).next (g := fun x4 _ u4 => .ok ((⟨x.kind, 0, some (x.es.map stepX), x.yes, x4⟩ : NodeX), u4)) (Rds.done _)))
  by_cases e4 : x.kind = 4
  · simp only [if_neg e3, if_pos e4]
    exact (rds_num h1).next (g := fun x3 zs u3 => thenR (numR zs u3) fun x4 u4 => .ok ((⟨x.kind, x3, none, x.yes, x4⟩ : NodeX), u4)) (Rds.last ((rds_num h3).next (g := fun x4 _ u4 => .ok ((⟨x.kind, x.n, none, x.yes, x4⟩ : NodeX), u4)) (Rds.done _)))
  · simp only [if_neg e3, if_neg e4]
    exact Rds.last ((rds_num h1).next (g := fun x3 _ u3 => .ok ((⟨x.kind, x3, none, x.yes, 0⟩ : NodeX), u3)) (Rds.done _))
def tabX (x : TabD) : TabX := ⟨x.kind, x.ks.map (fun r => (r.h, r.f)), x.al, x.cap, x.dflt, x.zs⟩
def TabD.nums (x : TabD) : Prop := wfI x.kind ∧ (x.ks.length ≤ 100000 ∧ x.ks.length = x.keys.n ∧ ∀ y ∈ x.ks, wfI y.h ∧ wfI y.f) ∧ (x.al.length ≤ 100000 ∧ ∀ y ∈ x.al, wfI y) ∧ wfI x.cap ∧ wfI x.dflt ∧ x.zs.length ≤ 100000 ∧ ∀ y ∈ x.zs, 0 ≤ y ∧ y < 18446744073709551616
theorem rds_tab {x : TabD} (h : x.nums) : Rds tabR (tabL x) (tabX x) := by
  obtain ⟨h0, ⟨k0, k1, k2⟩, ⟨a0, a1⟩, h3, h4, h5, h6⟩ := h
  have hk := rds_listC (f := fieldR) (enc := refL) (val := fun r => (r.h, r.f)) x.ks k0 (fun y hy => rds_ref (k2 y hy).1 (k2 y hy).2) (fun y _ => by unfold refL; rw [List.length_append]; have := num1 y.h; omega)
  rw [k1] at hk
  unfold tabL
  rw [List.append_assoc (numL x.cap)]
  refine (rds_num h0).next (g := fun x1 zs u1 => thenR (listC zs (fieldR zs) u1) fun x2 u2 => thenR (listC zs (numR zs) u2) fun x3 u3 => thenR (numR zs u3) fun x4 u4 => thenR (numR zs u4) fun x5 u5 => thenR (listC zs (plainI zs) u5) fun x6 u6 => .ok ((⟨x1, x2, x3, x4, x5, x6⟩ : TabX), u6)) ?_
  refine hk.next (g := fun x2 zs u2 => thenR (listC zs (numR zs) u2) fun x3 u3 => thenR (numR zs u3) fun x4 u4 => thenR (numR zs u4) fun x5 u5 => thenR (listC zs (plainI zs) u5) fun x6 u6 => .ok ((⟨x.kind, x2, x3, x4, x5, x6⟩ : TabX), u6)) ?_
  refine (rds_ints a0 a1).next (g := fun x3 zs u3 => thenR (numR zs u3) fun x4 u4 => thenR (numR zs u4) fun x5 u5 => thenR (listC zs (plainI zs) u5) fun x6 u6 => .ok ((⟨x.kind, x.ks.map (fun r => (r.h, r.f)), x3, x4, x5, x6⟩ : TabX), u6)) ?_
  refine (rds_num h3).next (g := fun x4 zs u4 => thenR (numR zs u4) fun x5 u5 => thenR (listC zs (plainI zs) u5) fun x6 u6 => .ok ((⟨x.kind, x.ks.map (fun r => (r.h, r.f)), x.al, x4, x5, x6⟩ : TabX), u6)) ?_
  refine (rds_num h4).next (g := fun x5 zs u5 => thenR (listC zs (plainI zs) u5) fun x6 u6 => .ok ((⟨x.kind, x.ks.map (fun r => (r.h, r.f)), x.al, x.cap, x5, x6⟩ : TabX), u6)) ?_
  exact Rds.last ((rds_nums h5 h6).next (g := fun x6 _ u6 => .ok ((⟨x.kind, x.ks.map (fun r => (r.h, r.f)), x.al, x.cap, x.dflt, x6⟩ : TabX), u6)) (Rds.done _))
end Go.Proofs.YtedeiaokohdhpaaGreat

namespace Go.Proofs.YtedeiaokohdhpaaGreat
open Go.RowKit
theorem state1 (x : StateD) : 1 ≤ (stateL x).length := by
  unfold stateL
  rw [List.length_append, List.length_append]
  have := num1 x.head
  omega
theorem node1 (x : NodeD) : 1 ≤ (nodeL x).length := by
  unfold nodeL
  rw [List.length_append, List.length_append]
  have := num1 x.kind
  omega
theorem tab1 (x : TabD) : 1 ≤ (tabL x).length := by
  unfold tabL
  rw [List.length_append]
  have := num1 x.kind
  omega
def StateD.nums (x : StateD) : Prop := x.cases.n ≤ 100000 ∧ x.cs.length = x.cases.n ∧ wfI x.head ∧ wfI x.r.h ∧ wfI x.r.f ∧ wfI x.els ∧ ∀ y ∈ x.cs, y.nums
structure PlanD.nums (x : PlanD) : Prop where
  hs : x.hs.length = x.heads.n ∧ ∀ y ∈ x.hs, y.ws.length ≤ 100000 ∧ ∀ z ∈ y.ws, wfI z
  ms : x.ms.length ≤ 100000 ∧ ∀ y ∈ x.ms, wfI y
  ss : x.ss.length = x.states.n ∧ ∀ y ∈ x.ss, y.nums
  al : x.al.length = x.acts.n ∧ ∀ y ∈ x.al, y.nums
  ts : x.ts.length = x.tabs.n ∧ ∀ y ∈ x.ts, y.nums
  ns : x.ns.length = x.nodes.n ∧ ∀ y ∈ x.ns, y.nums
  os : x.os.length ≤ 100000 ∧ ∀ y ∈ x.os, wfI y
def planX (x : PlanD) : PlanX := ⟨x.hs.map (fun y => y.ws), x.ms, x.ss.map stateX, x.al.map actX, x.ts.map tabX, x.ns.map nodeX, x.os⟩
theorem rds_planL {x : PlanD} (h : x.nums) (hw : x.wfew) : Rds planR (planL x) (planX x) := by
  have rds1 := rds_listC (f := fun zs t => listC zs (numR zs) t) (enc := headL) (val := fun y => y.ws) x.hs (by rw [h.hs.1]; exact hw.hs.1) (fun y hy => rds_ints (h.hs.2 y hy).1 (h.hs.2 y hy).2) (fun y _ => ints1 y.ws)
  have rds2 := rds_ints h.ms.1 h.ms.2
  have rds3 := rds_listC (f := stateR) (enc := stateL) (val := stateX) x.ss (by rw [h.ss.1]; exact hw.ss.1) (fun y hy => rds_state (h.ss.2 y hy).1 (h.ss.2 y hy).2.1 (h.ss.2 y hy).2.2.1 (h.ss.2 y hy).2.2.2.1 (h.ss.2 y hy).2.2.2.2.1 (h.ss.2 y hy).2.2.2.2.2.1 (h.ss.2 y hy).2.2.2.2.2.2) (fun y _ => state1 y)
  have rds4 := rds_listC (f := actR) (enc := actL) (val := actX) x.al (by rw [h.al.1]; exact hw.al.1) (fun y hy => rds_act (h.al.2 y hy)) (fun y _ => act1 y)
  have rds5 := rds_listC (f := tabR) (enc := tabL) (val := tabX) x.ts (by rw [h.ts.1]; exact hw.ts.1) (fun y hy => rds_tab (h.ts.2 y hy)) (fun y _ => tab1 y)
  have rds6 := rds_listC (f := nodeR) (enc := nodeL) (val := nodeX) x.ns (by rw [h.ns.1]; exact hw.ns.1) (fun y hy => rds_node (h.ns.2 y hy)) (fun y _ => node1 y)
  have rds7 := rds_ints h.os.1 h.os.2
  rw [h.hs.1] at rds1
  rw [h.ss.1] at rds3
  rw [h.al.1] at rds4
  rw [h.ts.1] at rds5
  rw [h.ns.1] at rds6
  refine rds1.next (g := fun x1 zs u1 => thenR (listC zs (numR zs) u1) fun x2 u2 => thenR (listC zs (stateR zs) u2) fun x3 u3 => thenR (listC zs (actR zs) u3) fun x4 u4 => thenR (listC zs (tabR zs) u4) fun x5 u5 => thenR (listC zs (nodeR zs) u5) fun x6 u6 => thenR (listC zs (numR zs) u6) fun x7 u7 => .ok ((⟨x1, x2, x3, x4, x5, x6, x7⟩ : PlanX), u7)) ?_
  refine rds2.next (g := fun x2 zs u2 => thenR (listC zs (stateR zs) u2) fun x3 u3 => thenR (listC zs (actR zs) u3) fun x4 u4 => thenR (listC zs (tabR zs) u4) fun x5 u5 => thenR (listC zs (nodeR zs) u5) fun x6 u6 => thenR (listC zs (numR zs) u6) fun x7 u7 => .ok ((⟨x.hs.map (fun y => y.ws), x2, x3, x4, x5, x6, x7⟩ : PlanX), u7)) ?_
  refine rds3.next (g := fun x3 zs u3 => thenR (listC zs (actR zs) u3) fun x4 u4 => thenR (listC zs (tabR zs) u4) fun x5 u5 => thenR (listC zs (nodeR zs) u5) fun x6 u6 => thenR (listC zs (numR zs) u6) fun x7 u7 => .ok ((⟨x.hs.map (fun y => y.ws), x.ms, x3, x4, x5, x6, x7⟩ : PlanX), u7)) ?_
  refine rds4.next (g := fun x4 zs u4 => thenR (listC zs (tabR zs) u4) fun x5 u5 => thenR (listC zs (nodeR zs) u5) fun x6 u6 => thenR (listC zs (numR zs) u6) fun x7 u7 => .ok ((⟨x.hs.map (fun y => y.ws), x.ms, x.ss.map stateX, x4, x5, x6, x7⟩ : PlanX), u7)) ?_
  refine rds5.next (g := fun x5 zs u5 => thenR (listC zs (nodeR zs) u5) fun x6 u6 => thenR (listC zs (numR zs) u6) fun x7 u7 => .ok ((⟨x.hs.map (fun y => y.ws), x.ms, x.ss.map stateX, x.al.map actX, x5, x6, x7⟩ : PlanX), u7)) ?_
  refine rds6.next (g := fun x6 zs u6 => thenR (listC zs (numR zs) u6) fun x7 u7 => .ok ((⟨x.hs.map (fun y => y.ws), x.ms, x.ss.map stateX, x.al.map actX, x.ts.map tabX, x6, x7⟩ : PlanX), u7)) ?_
  exact Rds.last (rds7.next (g := fun x7 _ u7 => .ok ((⟨x.hs.map (fun y => y.ws), x.ms, x.ss.map stateX, x.al.map actX, x.ts.map tabX, x.ns.map nodeX, x7⟩ : PlanX), u7)) (Rds.done _))
end Go.Proofs.YtedeiaokohdhpaaGreat

namespace Go.Proofs.YtedeiaokohdhpaaGreat
open Go.RowKit
def Wrs {α : Type} (f : List Int → Nat → Except (Int × Int) (α × Nat)) (enc : α → List Int) : Prop :=
  ∀ (zs : List Int) (t : Nat) (x : α) (u : Nat), (∀ z ∈ zs, 0 ≤ z ∧ z < 256) → f zs t = .ok (x, u) → zs.drop t = enc x ++ zs.drop u
theorem drop_at1 {zs : List Int} {t : Nat} {b : Int} (h : zs[t]? = some b) : zs.drop t = b :: zs.drop (t + 1) := by
  obtain ⟨hl, rfl⟩ := List.getElem?_eq_some_iff.1 h
  exact List.drop_eq_getElem_cons hl
theorem plainF_to : ∀ (f i t acc v u : Nat) (zs : List Int), (∀ z ∈ zs, 0 ≤ z ∧ z < 256) → plainF zs f i t acc = .ok (v, u) → ∃ n, v = acc + n * 2 ^ (7 * i) ∧ zs.drop t = plainL n ++ zs.drop u ∧ (0 < i → 0 < n)
  | 0, _, _, _, _, _, _, _, h => by unfold plainF at h; cases h
  | f + 1, i, t, acc, v, u, zs, hz, h => by
    rw [plainF] at h
    cases hb : zs[t]? with
    | none => rw [hb] at h; cases h
    | some b =>
      rw [hb] at h
      dsimp only at h
      have hr := hz b (List.mem_of_getElem? hb)
      by_cases h1 : (i = 9 ∧ 1 < b) ∨ (0 < i ∧ b = 0)
      · rw [if_pos h1] at h; cases h
      · rw [if_neg h1] at h
        by_cases h2 : b < 128
        · rw [if_pos h2] at h
          cases h
          refine ⟨b.toNat, rfl, ?_, fun hi => by omega⟩
          rw [plain_small (by omega), drop_at1 hb, Int.toNat_of_nonneg hr.1]
          rfl
        · rw [if_neg h2] at h
          obtain ⟨n, e1, e2, e3⟩ := plainF_to f (i + 1) (t + 1) _ v u zs hz h
          have hn := e3 (by omega)
          refine ⟨(b.toNat - 128) + 128 * n, ?_, ?_, fun _ => by omega⟩
          · rw [e1]
            have h3 : (2 : Nat) ^ (7 * (i + 1)) = 128 * 2 ^ (7 * i) := by
              rw [show (128 : Nat) = 2 ^ 7 from rfl, ← Nat.pow_add]
              congr 1
              omega
            rw [h3, Nat.add_mul, ← Nat.mul_assoc, Nat.mul_comm n 128]
            omega
          · rw [plain_great (by omega), drop_at1 hb, e2]
            rw [show ((b.toNat - 128) + 128 * n) / 128 = n by omega, show (((b.toNat - 128) + 128 * n) % 128 + 128 : Nat) = b.toNat by omega, Int.toNat_of_nonneg hr.1]
            rfl
theorem wrs_plain : Wrs plainR plainL := fun zs t x u hz h => by
  obtain ⟨n, e, h2, _⟩ := plainF_to 10 0 t 0 x u zs hz h
  have : x = n := by rw [e]; simp
  rw [this]
  exact h2
theorem wrs_plainI : Wrs plainI (fun z => plainL z.toNat) := fun zs t x u hz h => by
  unfold plainI at h
  cases hp : plainR zs t with
  | error e => rw [hp] at h; cases h
  | ok y =>
    obtain ⟨n, v⟩ := y
    rw [hp] at h
    cases h
    exact wrs_plain zs t n u hz hp
theorem fold_unfold (n : Nat) : foldN (unfoldN n) = n := by
  unfold foldN unfoldN
  split <;> split <;> omega
theorem wrs_num : Wrs numR numL := fun zs t x u hz h => by
  unfold numR at h
  cases hp : plainR zs t with
  | error e => rw [hp] at h; cases h
  | ok y =>
    obtain ⟨n, v⟩ := y
    rw [hp] at h
    cases h
    unfold numL
    rw [fold_unfold]
    exact wrs_plain zs t n u hz hp
theorem wrs_cnt : Wrs cntR (fun n => numL (n : Int)) := fun zs t x u hz h => by
  unfold cntR at h
  cases hp : numR zs t with
  | error e => rw [hp] at h; cases h
  | ok y =>
    obtain ⟨n, v⟩ := y
    rw [hp] at h
    dsimp only at h
    by_cases h1 : n < 0 ∨ (zs.length : Int) - (v : Int) < n
    · rw [if_pos h1] at h; cases h
    · rw [if_neg h1] at h
      cases h
      dsimp only
      rw [Int.toNat_of_nonneg (by omega)]
      exact wrs_num zs t n u hz hp
theorem wrs_list {α : Type} {f : List Int → Nat → Except (Int × Int) (α × Nat)} {enc : α → List Int} (hf : Wrs f enc) (zs : List Int) (hz : ∀ z ∈ zs, 0 ≤ z ∧ z < 256) : ∀ (n t : Nat) (l : List α) (u : Nat), listR (f zs) n t = .ok (l, u) → l.length = n ∧ zs.drop t = l.flatMap enc ++ zs.drop u
  | 0, t, l, u, h => by
    rw [listR] at h
    cases h
    exact ⟨rfl, rfl⟩
  | n + 1, t, l, u, h => by
    rw [listR] at h
    cases hp : f zs t with
    | error e => rw [hp] at h; cases h
    | ok y =>
      obtain ⟨x, t'⟩ := y
      rw [hp] at h
      dsimp only at h
      cases hq : listR (f zs) n t' with
      | error e => rw [hq] at h; cases h
      | ok y =>
        obtain ⟨l', u'⟩ := y
        rw [hq] at h
        cases h
        obtain ⟨e1, e2⟩ := wrs_list hf zs hz n t' l' u hq
        refine ⟨by rw [List.length_cons, e1], ?_⟩
        rw [hf zs t x t' hz hp, e2, List.flatMap_cons, List.append_assoc]
theorem wrs_listC {α : Type} {f : List Int → Nat → Except (Int × Int) (α × Nat)} {enc : α → List Int} (hf : Wrs f enc) : Wrs (fun zs t => listC zs (f zs) t) (fun l => numL (l.length : Int) ++ l.flatMap enc) := fun zs t l u hz h => by
  dsimp only at h
  unfold listC at h
  cases hp : cntR zs t with
  | error e => rw [hp] at h; cases h
  | ok y =>
    obtain ⟨n, t'⟩ := y
    rw [hp] at h
    obtain ⟨e1, e2⟩ := wrs_list hf zs hz n t' l u h
    dsimp only
    rw [wrs_cnt zs t n t' hz hp, e2, e1, List.append_assoc]
theorem then_ok {α β : Type} {r : Except (Int × Int) (α × Nat)} {f : α → Nat → Except (Int × Int) (β × Nat)} {y : β × Nat} (h : thenR r f = .ok y) : ∃ x t, r = .ok (x, t) ∧ f x t = .ok y := by
  unfold thenR at h
  cases r with
  | error e => cases h
  | ok z => exact ⟨z.1, z.2, rfl, h⟩
/-! what was read, as the things of plans -/
@[reducible] def refP (x : Int × Int) : RefD := ⟨x.1, x.2⟩
@[reducible] def pushP (x : Int × Int × Int × Int) : PushD := ⟨x.1, ⟨x.2.1, x.2.2.1⟩, x.2.2.2⟩
@[reducible] def caseP (x : Int × Int × Int) : CaseD := ⟨x.1, x.2.1, x.2.2⟩
@[reducible] def treeP (e : Option (List (Int × Int × Int × Int))) : List PushD := (e.getD []).map pushP
@[reducible] def deedP (x : DeedX) : POp := ⟨x.kind, ⟨x.h, x.f⟩, x.head, treeP x.e⟩
@[reducible] def actP (x : ActX) : PAct := ⟨x.w, x.ops.map deedP⟩
@[reducible] def tabP (x : TabX) : PTab := ⟨x.kind, x.keys.map refP, x.acts, x.cap, x.dflt, x.args⟩
@[reducible] def nodeP (x : NodeX) : PNode := ⟨x.kind, x.n, treeP x.e, x.yes, x.no⟩
@[reducible] def stateP (x : StateX) : PState := ⟨x.head, refP x.on, x.cs.map caseP, x.els⟩
@[reducible] def planP (x : PlanX) : PPlan := ⟨x.heads, x.mt, x.states.map stateP, x.acts.map actP, x.tabs.map tabP, x.nodes.map nodeP, x.out⟩
/-! the bytes of the things of plans -/
def opPL (x : POp) : List Int := numL x.kind ++ (if x.kind = 1 then refL x.r ++ treeL x.es else if x.kind = 2 then numL x.head else if x.kind = 3 then numL x.head else if x.kind = 5 then treeL x.es else if x.kind = 6 then refL x.r ++ numL x.head else [])
def actPL (x : PAct) : List Int := intsL x.ws ++ (numL (x.os.length : Int) ++ x.os.flatMap opPL)
def tabPL (x : PTab) : List Int := numL x.kind ++ ((numL (x.ks.length : Int) ++ x.ks.flatMap refL) ++ (intsL x.al ++ ((numL x.cap ++ numL x.dflt) ++ numsL x.zs)))
def nodePL (x : PNode) : List Int := (numL x.kind ++ numL x.yes) ++ (if x.kind = 3 then treeL x.es ++ numL x.no else if x.kind = 4 then numL x.n ++ numL x.no else numL x.n)
def statePL (x : PState) : List Int := (numL x.head ++ numL (x.cs.length : Int)) ++ ((if x.cs.length = 0 then [] else refL x.r) ++ (x.cs.flatMap caseL ++ numL x.els))
def planPL (x : PPlan) : List Int := (numL (x.hs.length : Int) ++ x.hs.flatMap intsL) ++ (intsL x.ms ++ ((numL (x.ss.length : Int) ++ x.ss.flatMap statePL) ++ ((numL (x.al.length : Int) ++ x.al.flatMap actPL) ++ ((numL (x.ts.length : Int) ++ x.ts.flatMap tabPL) ++ ((numL (x.ns.length : Int) ++ x.ns.flatMap nodePL) ++ (intsL x.os))))))
theorem flat_map2 {α β : Type} (g : α → β) (enc : β → List Int) (l : List α) : (l.map g).flatMap enc = l.flatMap (fun x => enc (g x)) := List.flatMap_map ..
theorem wrs_ref : Wrs fieldR (fun x => refL (refP x)) := fun zs t x u hz h => by
  unfold fieldR at h
  obtain ⟨a, u1, h1, h⟩ := then_ok h
  obtain ⟨b, u2, h2, h⟩ := then_ok h
  cases h
  rw [wrs_num zs t a u1 hz h1, wrs_num zs u1 b u hz h2]
  simp only [refL, List.append_assoc]
theorem wrs_case : Wrs caseR (fun x => caseL (caseP x)) := fun zs t x u hz h => by
  unfold caseR at h
  obtain ⟨a, u1, h1, h⟩ := then_ok h
  obtain ⟨b, u2, h2, h⟩ := then_ok h
  obtain ⟨c, u3, h3, h⟩ := then_ok h
  cases h
  rw [wrs_plainI zs t a u1 hz h1, wrs_plainI zs u1 b u2 hz h2, wrs_num zs u2 c u hz h3]
  simp only [caseL, List.append_assoc]
theorem wrs_step : Wrs stepR (fun x => stepL (pushP x)) := fun zs t x u hz h => by
  unfold stepR at h
  obtain ⟨op, u1, h1, h⟩ := then_ok h
  rw [wrs_num zs t op u1 hz h1]
  by_cases e1 : op = 1
  · rw [if_pos e1] at h
    obtain ⟨b, u2, h2, h⟩ := then_ok h
    cases h
    rw [wrs_plainI zs u1 b u hz h2]
    simp only [stepL, if_pos e1, List.append_assoc]
  · rw [if_neg e1] at h
    by_cases e2 : op = 2
    · rw [if_pos e2] at h
      obtain ⟨b, u2, h2, h⟩ := then_ok h
      cases h
      rw [wrs_ref zs u1 b u hz h2]
      simp only [stepL, if_neg e1, if_pos e2, List.append_assoc]
    · rw [if_neg e2] at h
      cases h
      simp only [stepL, if_neg e1, if_neg e2, List.append_nil]
theorem wrs_tree : Wrs (fun zs t => listC zs (stepR zs) t) (fun l => treeL (l.map pushP)) := fun zs t x u hz h => by
  have := wrs_listC wrs_step zs t x u hz h
  dsimp only at this ⊢
  rw [this, treeL, List.length_map, flat_map2]
theorem wrs_ints : Wrs (fun zs t => listC zs (numR zs) t) intsL := wrs_listC wrs_num
theorem wrs_nums : Wrs (fun zs t => listC zs (plainI zs) t) numsL := wrs_listC wrs_plainI
theorem wrs_deed : Wrs deedR (fun x => opPL (deedP x)) := fun zs t x u hz h => by
  unfold deedR at h
  obtain ⟨k, u1, h1, h⟩ := then_ok h
  rw [wrs_num zs t k u1 hz h1]
  by_cases e1 : k = 1
  · rw [if_pos e1] at h
    obtain ⟨r, u2, h2, h⟩ := then_ok h
    obtain ⟨l, u3, h3, h⟩ := then_ok h
    cases h
    rw [wrs_ref zs u1 r u2 hz h2, wrs_tree zs u2 l u hz h3]
    simp only [opPL, treeP, Option.getD_some, if_pos e1, List.append_assoc]
  rw [if_neg e1] at h
  by_cases e2 : k = 2
  · rw [if_pos e2] at h
    obtain ⟨r, u2, h2, h⟩ := then_ok h
    cases h
    rw [wrs_num zs u1 r u hz h2]
    simp only [opPL, if_neg e1, if_pos e2, List.append_assoc]
  rw [if_neg e2] at h
  by_cases e3 : k = 3
  · rw [if_pos e3] at h
    obtain ⟨r, u2, h2, h⟩ := then_ok h
    cases h
    rw [wrs_num zs u1 r u hz h2]
    simp only [opPL, if_neg e1, if_neg e2, if_pos e3, List.append_assoc]
  rw [if_neg e3] at h
  by_cases e5 : k = 5
  · rw [if_pos e5] at h
    obtain ⟨l, u2, h2, h⟩ := then_ok h
    cases h
    rw [wrs_tree zs u1 l u hz h2]
    simp only [opPL, treeP, Option.getD_some, if_neg e1, if_neg e2, if_neg e3, if_pos e5, List.append_assoc]
  rw [if_neg e5] at h
  by_cases e6 : k = 6
  · rw [if_pos e6] at h
    obtain ⟨r, u2, h2, h⟩ := then_ok h
    obtain ⟨l, u3, h3, h⟩ := then_ok h
    cases h
    rw [wrs_ref zs u1 r u2 hz h2, wrs_num zs u2 l u hz h3]
    simp only [opPL, if_neg e1, if_neg e2, if_neg e3, if_neg e5, if_pos e6, List.append_assoc]
  · rw [if_neg e6] at h
    cases h
    simp only [opPL, if_neg e1, if_neg e2, if_neg e3, if_neg e5, if_neg e6, List.append_nil]
theorem wrs_act : Wrs actR (fun x => actPL (actP x)) := fun zs t x u hz h => by
  unfold actR at h
  obtain ⟨a, u1, h1, h⟩ := then_ok h
  obtain ⟨b, u2, h2, h⟩ := then_ok h
  cases h
  have e2 := wrs_listC wrs_deed zs u1 b u hz h2
  dsimp only at e2
  rw [wrs_ints zs t a u1 hz h1, e2]
  simp only [actPL, List.length_map, flat_map2, List.append_assoc]
theorem wrs_tab : Wrs tabR (fun x => tabPL (tabP x)) := fun zs t x u hz h => by
  unfold tabR at h
  obtain ⟨a, u1, h1, h⟩ := then_ok h
  obtain ⟨b, u2, h2, h⟩ := then_ok h
  obtain ⟨c, u3, h3, h⟩ := then_ok h
  obtain ⟨d, u4, h4, h⟩ := then_ok h
  obtain ⟨e, u5, h5, h⟩ := then_ok h
  obtain ⟨f, u6, h6, h⟩ := then_ok h
  cases h
  have e2 := wrs_listC wrs_ref zs u1 b u2 hz h2
  dsimp only at e2
  rw [wrs_num zs t a u1 hz h1, e2, wrs_ints zs u2 c u3 hz h3, wrs_num zs u3 d u4 hz h4, wrs_num zs u4 e u5 hz h5, wrs_nums zs u5 f u hz h6]
  simp only [tabPL, List.length_map, flat_map2, List.append_assoc]
theorem wrs_node : Wrs nodeR (fun x => nodePL (nodeP x)) := fun zs t x u hz h => by
  unfold nodeR at h
  obtain ⟨k, u1, h1, h⟩ := then_ok h
  obtain ⟨y, u2, h2, h⟩ := then_ok h
  rw [wrs_num zs t k u1 hz h1, wrs_num zs u1 y u2 hz h2]
  by_cases e3 : k = 3
  · rw [if_pos e3] at h
    obtain ⟨l, u3, h3, h⟩ := then_ok h
    obtain ⟨m, u4, h4, h⟩ := then_ok h
    cases h
    rw [wrs_tree zs u2 l u3 hz h3, wrs_num zs u3 m u hz h4]
    simp only [nodePL, treeP, Option.getD_some, if_pos e3, List.append_assoc]
  rw [if_neg e3] at h
  by_cases e4 : k = 4
  · rw [if_pos e4] at h
    obtain ⟨l, u3, h3, h⟩ := then_ok h
    obtain ⟨m, u4, h4, h⟩ := then_ok h
    cases h
    rw [wrs_num zs u2 l u3 hz h3, wrs_num zs u3 m u hz h4]
    simp only [nodePL, if_neg e3, if_pos e4, List.append_assoc]
  · rw [if_neg e4] at h
    obtain ⟨l, u3, h3, h⟩ := then_ok h
    cases h
    rw [wrs_num zs u2 l u hz h3]
    simp only [nodePL, if_neg e3, if_neg e4, List.append_assoc]
theorem wrs_state : Wrs stateR (fun x => statePL (stateP x)) := fun zs t x u hz h => by
  unfold stateR at h
  obtain ⟨hd, u1, h1, h⟩ := then_ok h
  obtain ⟨m, u2, h2, h⟩ := then_ok h
  obtain ⟨on, u3, h3, h⟩ := then_ok h
  obtain ⟨cs, u4, h4, h⟩ := then_ok h
  obtain ⟨el, u5, h5, h⟩ := then_ok h
  cases h
  obtain ⟨e4, e5⟩ := wrs_list wrs_case zs hz m u3 cs u4 h4
  rw [wrs_num zs t hd u1 hz h1, wrs_cnt zs u1 m u2 hz h2]
  by_cases e : m = 0
  · rw [if_pos e] at h3
    cases h3
    rw [e5, wrs_num zs u4 el u hz h5]
    simp only [statePL, List.length_map, e4, if_pos e, flat_map2, List.append_assoc, List.nil_append]
  · rw [if_neg e] at h3
    rw [wrs_ref zs u2 on u3 hz h3, e5, wrs_num zs u4 el u hz h5]
    simp only [statePL, List.length_map, e4, if_neg e, flat_map2, List.append_assoc]
theorem wrs_plan : Wrs planR (fun x => planPL (planP x)) := fun zs t x u hz h => by
  unfold planR at h
  obtain ⟨x1, u1, h1, h⟩ := then_ok h
  obtain ⟨x2, u2, h2, h⟩ := then_ok h
  obtain ⟨x3, u3, h3, h⟩ := then_ok h
  obtain ⟨x4, u4, h4, h⟩ := then_ok h
  obtain ⟨x5, u5, h5, h⟩ := then_ok h
  obtain ⟨x6, u6, h6, h⟩ := then_ok h
  obtain ⟨x7, u7, h7, h⟩ := then_ok h
  cases h
  have e1 := wrs_listC wrs_ints zs t x1 u1 hz h1
  have e3 := wrs_listC wrs_state zs u2 x3 u3 hz h3
  have e4 := wrs_listC wrs_act zs u3 x4 u4 hz h4
  have e5 := wrs_listC wrs_tab zs u4 x5 u5 hz h5
  have e6 := wrs_listC wrs_node zs u5 x6 u6 hz h6
  dsimp only at e1 e3 e4 e5 e6
  rw [e1, wrs_ints zs u1 x2 u2 hz h2, e3, e4, e5, e6, wrs_ints zs u6 x7 u hz h7]
  simp only [planPL, List.length_map, flat_map2, List.append_assoc]
end Go.Proofs.YtedeiaokohdhpaaGreat

namespace Go.Proofs.YtedeiaokohdhpaaGreat
open Go.RowKit
theorem list_pick {α β : Type} {Q : β → α → Prop} : ∀ (ys : List α), (∀ y ∈ ys, ∃ d, Q d y) → ∃ S : List β, S.length = ys.length ∧ ∀ (i : Nat) (y : α) (d : β), ys[i]? = some y → S[i]? = some d → Q d y
  | [], _ => ⟨[], rfl, fun i y d h => by simp at h⟩
  | y :: ys, h => by
    obtain ⟨d, hd⟩ := h y (List.mem_cons_self ..)
    obtain ⟨S, h1, h2⟩ := list_pick ys fun z hz => h z (List.mem_cons_of_mem _ hz)
    refine ⟨d :: S, by rw [List.length_cons, List.length_cons, h1], fun i z e hz he => ?_⟩
    cases i with
    | zero =>
      simp only [List.getElem?_cons_zero, Option.some.injEq] at hz he
      subst hz
      subst he
      exact hd
    | succ i =>
      simp only [List.getElem?_cons_succ] at hz he
      exact h2 i z e hz he
theorem rows_of {α β γ : Type} (K : Kd β) {enc : α → List Value} {T : TypeId} {w : World} {g : Nat} {ys : List α} (pr : β → γ) (px : α → γ) (h : RowK enc K.k T ys.length w g ys) (hy : ∀ y ∈ ys, ∃ d, K.cells d = enc y ∧ K.inn d w ∧ pr d = px y) : ∃ S : List β, QRow K.k K.lie w ⟨some ⟨g, 0, none⟩, ys.length, ys.length⟩ S ∧ S.map pr = ys.map px := by
  obtain ⟨S, h1, h2⟩ := list_pick ys hy
  obtain ⟨cur, c1, c2, c3⟩ := h
  refine ⟨S, ⟨h1, fun i s hs => ?_⟩, ?_⟩
  · have hl := (List.getElem?_eq_some_iff.1 hs).1
    have hyi := List.getElem?_eq_getElem (l := ys) (i := i) (by rw [← h1]; exact hl)
    obtain ⟨e1, e2, _⟩ := h2 i _ s hyi hs
    refine ⟨g, 0, rfl, K.lay (fun j u hu => ?_) e2⟩
    rw [e1] at hu
    have := c3 i _ hyi j u hu
    rw [Nat.zero_add]
    simpa [World.cell?, c1] using this
  · refine List.ext_getElem? fun i => ?_
    rw [List.getElem?_map, List.getElem?_map]
    rcases Nat.lt_or_ge i ys.length with hi | hi
    · have hyi := List.getElem?_eq_getElem hi
      have hsi := List.getElem?_eq_getElem (l := S) (i := i) (by rw [h1]; exact hi)
      rw [hyi, hsi]
      show some _ = some _
      rw [(h2 i _ _ hyi hsi).2.2]
    · rw [List.getElem?_eq_none hi, List.getElem?_eq_none (by omega)]
      rfl
theorem rowI_has {k : IntKind} {T : TypeId} {w : World} {g : Nat} {xs : List Int} (h : RowI k T w g xs) (hw : ∀ x ∈ xs, (Lit.int k x).wf = true) : Has k w (some ⟨g, 0, none⟩) xs.length xs := by
  unfold RowI at h
  refine ⟨rfl, hw, .inr ⟨g, 0, rfl, (Array.getElem?_eq_some_iff.1 h).1, fun i hi => ?_⟩⟩
  rw [Nat.zero_add]
  simp only [World.cell?, h, List.getElem?_toArray, List.getElem?_map, List.getElem?_eq_getElem hi, Option.map_some, List.getD_eq_getElem?_getD, Option.getD_some]
  rfl
def SlOf (v : Value) (s : QSl) : Prop := v = .slice s.a s.n s.c ∧ s.nil0 ∧ s.n ≤ s.c
theorem sl_some (g n : Nat) : SlOf (.slice (some ⟨g, 0, none⟩) n n) ⟨some ⟨g, 0, none⟩, n, n⟩ := ⟨rfl, (fun h => by cases h), Nat.le_refl _⟩
theorem ints_of {w w' : World} {xs : List Int} {v : Value} (h : IntsV w xs w' v) : ∃ s, SlOf v s ∧ Has .i64 w' s.a s.n xs := by
  obtain ⟨g, rfl, _, hr, hw⟩ := h
  exact ⟨_, sl_some g _, rowI_has hr hw⟩
theorem nums_of {w w' : World} {xs : List Int} {v : Value} (h : NumsV w xs w' v) : ∃ s, SlOf v s ∧ Has .u64 w' s.a s.n xs := by
  obtain ⟨g, rfl, _, hr, hw⟩ := h
  exact ⟨_, sl_some g _, rowI_has hr hw⟩
theorem refs_of {w w' : World} {xs : List (Int × Int)} {v : Value} (h : RefsV w xs w' v) : ∃ s, SlOf v s ∧ QRow 2 RefD.lie w' s (xs.map refP) := by
  obtain ⟨g, rfl, _, hr, hw⟩ := h
  obtain ⟨S, h1, h2⟩ := rows_of kRef id refP hr fun y hy => ⟨refP y, rfl, hw y hy, rfl⟩
  rw [List.map_id] at h2
  rw [← h2]
  exact ⟨_, sl_some g _, h1⟩
theorem cases_of {w w' : World} {xs : List (Int × Int × Int)} {v : Value} (h : CasesV w xs w' v) : ∃ s, SlOf v s ∧ QRow 3 CaseD.lie w' s (xs.map caseP) := by
  obtain ⟨g, rfl, _, hr, hw⟩ := h
  obtain ⟨S, h1, h2⟩ := rows_of kCase id caseP hr fun y hy => ⟨caseP y, rfl, hw y hy, rfl⟩
  rw [List.map_id] at h2
  rw [← h2]
  exact ⟨_, sl_some g _, h1⟩
theorem tree_of {w w' : World} {e : Option (List (Int × Int × Int × Int))} {v : Value} (h : TreeV w e w' v) : ∃ s, SlOf v s ∧ QRow 4 PushD.lie w' s (treeP e) := by
  cases e with
  | none =>
    obtain rfl : v = .slice none 0 0 := h
    exact ⟨⟨none, 0, 0⟩, ⟨rfl, fun _ => ⟨rfl, rfl⟩, Nat.le_refl _⟩, rfl, by simp⟩
  | some xs =>
    obtain ⟨g, rfl, _, hr, hw⟩ : PushsV w xs w' v := h
    obtain ⟨S, h1, h2⟩ := rows_of kPush id pushP hr fun y hy => ⟨pushP y, rfl, hw y hy, rfl⟩
    rw [List.map_id] at h2
    show ∃ s, _ ∧ QRow 4 PushD.lie w' s (xs.map pushP)
    rw [← h2]
    exact ⟨_, sl_some g _, h1⟩
theorem heads_of {w w' : World} {xs : List (List Int)} {v : Value} (h : HeadsV w xs w' v) : ∃ s S, SlOf v s ∧ QRow 1 HeadD.lie w' s S ∧ S.map HeadD.ws = xs := by
  obtain ⟨g, ys, rfl, _, rfl, hr, hw⟩ := h
  rw [List.length_map] at hr ⊢
  obtain ⟨S, h1, h2⟩ := rows_of kHead HeadD.ws (fun y => y.1) hr fun y hy => by
    obtain ⟨s, hs, hh⟩ := ints_of (hw y hy)
    exact ⟨⟨s, y.1⟩, (by show [Value.slice s.a s.n s.c] = [y.2]; rw [hs.1]), ⟨hs.2.1, hh⟩, rfl⟩
  exact ⟨_, S, sl_some g _, h1, h2⟩
theorem states_of {w w' : World} {xs : List StateX} {v : Value} (h : StatesV w xs w' v) : ∃ s S, SlOf v s ∧ QRow 5 StateD.lie w' s S ∧ S.map StateD.p = xs.map stateP := by
  obtain ⟨g, ys, rfl, _, rfl, hr, hw⟩ := h
  rw [List.length_map] at hr ⊢
  obtain ⟨S, h1, h2⟩ := rows_of kState StateD.p (fun y => stateP y.1) hr fun y hy => by
    obtain ⟨hc, w1, w2, w3, w4⟩ := hw y hy
    obtain ⟨s, hs, hh⟩ := cases_of hc
    exact ⟨⟨y.1.head, ⟨y.1.on.1, y.1.on.2⟩, s, y.1.cs.map caseP, y.1.els⟩, (by show [_, _, _, Value.slice s.a s.n s.c, _] = kStateE y; rw [← hs.1]; rfl), ⟨⟨w1, w2, w3, hs.2.1, w4⟩, hh⟩, rfl⟩
  exact ⟨_, S, sl_some g _, h1, by rw [h2, List.map_map]; rfl⟩
theorem deeds_of {w w' : World} {xs : List DeedX} {v : Value} (h : DeedsV w xs w' v) : ∃ s S, SlOf v s ∧ QRow 5 OpD.lie w' s S ∧ S.map OpD.p = xs.map deedP := by
  obtain ⟨g, ys, rfl, _, rfl, hr, hw⟩ := h
  rw [List.length_map] at hr ⊢
  obtain ⟨S, h1, h2⟩ := rows_of kOp OpD.p (fun y => deedP y.1) hr fun y hy => by
    obtain ⟨hc, w1, w2, w3, w4⟩ := hw y hy
    obtain ⟨s, hs, hh⟩ := tree_of hc
    exact ⟨⟨y.1.kind, ⟨y.1.h, y.1.f⟩, y.1.head, s, treeP y.1.e⟩, (by show [_, _, _, _, Value.slice s.a s.n s.c] = kDeedE y; rw [← hs.1]; rfl), ⟨⟨w1, w2, w3, w4, hs.2.1⟩, hh⟩, rfl⟩
  exact ⟨_, S, sl_some g _, h1, by rw [h2, List.map_map]; rfl⟩
theorem acts_of {w w' : World} {xs : List ActX} {v : Value} (h : ActsV w xs w' v) : ∃ s S, SlOf v s ∧ QRow 2 ActD.lie w' s S ∧ S.map ActD.p = xs.map actP := by
  obtain ⟨g, ys, rfl, _, rfl, hr, hw⟩ := h
  rw [List.length_map] at hr ⊢
  obtain ⟨S, h1, h2⟩ := rows_of kAct ActD.p (fun y => actP y.1) hr fun y hy => by
    obtain ⟨hi, hd⟩ := hw y hy
    obtain ⟨s, hs, hh⟩ := ints_of hi
    obtain ⟨s', S', hs', hh', hp⟩ := deeds_of hd
    exact ⟨⟨s, y.1.w, s', S'⟩, (by show [Value.slice s.a s.n s.c, Value.slice s'.a s'.n s'.c] = kActE y; rw [← hs.1, ← hs'.1]; rfl), ⟨⟨hs.2.1, hs'.2.1⟩, hh, hh'⟩, by show (⟨y.1.w, S'.map OpD.p⟩ : PAct) = _; rw [hp]⟩
  exact ⟨_, S, sl_some g _, h1, by rw [h2, List.map_map]; rfl⟩
theorem tabs_of {w w' : World} {xs : List TabX} {v : Value} (h : TabsV w xs w' v) : ∃ s S, SlOf v s ∧ QRow 6 TabD.lie w' s S ∧ S.map TabD.p = xs.map tabP := by
  obtain ⟨g, ys, rfl, _, rfl, hr, hw⟩ := h
  rw [List.length_map] at hr ⊢
  obtain ⟨S, h1, h2⟩ := rows_of kTab TabD.p (fun y => tabP y.1) hr fun y hy => by
    obtain ⟨hk, ha, hn, w1, w2, w3⟩ := hw y hy
    obtain ⟨s, hs, hh⟩ := refs_of hk
    obtain ⟨s1, hs1, hh1⟩ := ints_of ha
    obtain ⟨s2, hs2, hh2⟩ := nums_of hn
    exact ⟨⟨y.1.kind, s, y.1.keys.map refP, s1, y.1.acts, y.1.cap, y.1.dflt, s2, y.1.args⟩, (by show [_, Value.slice s.a s.n s.c, Value.slice s1.a s1.n s1.c, _, _, Value.slice s2.a s2.n s2.c] = kTabE y; rw [← hs.1, ← hs1.1, ← hs2.1]; rfl), ⟨⟨w1, hs.2.1, hs1.2.1, w2, w3, hs2.2.1⟩, hh, hh1, hh2⟩, rfl⟩
  exact ⟨_, S, sl_some g _, h1, by rw [h2, List.map_map]; rfl⟩
theorem nodes_of {w w' : World} {xs : List NodeX} {v : Value} (h : NodesV w xs w' v) : ∃ s S, SlOf v s ∧ QRow 5 NodeD.lie w' s S ∧ S.map NodeD.p = xs.map nodeP := by
  obtain ⟨g, ys, rfl, _, rfl, hr, hw⟩ := h
  rw [List.length_map] at hr ⊢
  obtain ⟨S, h1, h2⟩ := rows_of kNode NodeD.p (fun y => nodeP y.1) hr fun y hy => by
    obtain ⟨hc, w1, w2, w3, w4⟩ := hw y hy
    obtain ⟨s, hs, hh⟩ := tree_of hc
    exact ⟨⟨y.1.kind, y.1.n, s, treeP y.1.e, y.1.yes, y.1.no⟩, (by show [_, _, Value.slice s.a s.n s.c, _, _] = kNodeE y; rw [← hs.1]; rfl), ⟨⟨w1, w2, hs.2.1, w3, w4⟩, hh⟩, rfl⟩
  exact ⟨_, S, sl_some g _, h1, by rw [h2, List.map_map]; rfl⟩
theorem plan_of {w w' : World} {x : PlanX} {v : Value} (h : PlanV w x w' v) : ∃ d : PlanD, v = d.v ∧ d.lie w' ∧ d.nil0 ∧ d.p = planP x := by
  obtain ⟨v1, v2, v3, v4, v5, v6, v7, rfl, h1, h2, h3, h4, h5, h6, h7⟩ := h
  obtain ⟨s1, S1, e1, r1, p1⟩ := heads_of h1
  obtain ⟨s2, e2, r2⟩ := ints_of h2
  obtain ⟨s3, S3, e3, r3, p3⟩ := states_of h3
  obtain ⟨s4, S4, e4, r4, p4⟩ := acts_of h4
  obtain ⟨s5, S5, e5, r5, p5⟩ := tabs_of h5
  obtain ⟨s6, S6, e6, r6, p6⟩ := nodes_of h6
  obtain ⟨s7, e7, r7⟩ := ints_of h7
  refine ⟨⟨s1, S1, s2, x.mt, s3, S3, s4, S4, s5, S5, s6, S6, s7, x.out⟩, ?_, ⟨r1, r2, r3, r4, r5, r6, r7, e7.2.2⟩, ⟨e1.2.1, e2.2.1, e3.2.1, e4.2.1, e5.2.1, e6.2.1, e7.2.1⟩, ?_⟩
  · rw [e1.1, e2.1, e3.1, e4.1, e5.1, e6.1, e7.1]
  · show (⟨S1.map HeadD.ws, x.mt, S3.map StateD.p, S4.map ActD.p, S5.map TabD.p, S6.map NodeD.p, x.out⟩ : PPlan) = _
    rw [p1, p3, p4, p5, p6]
end Go.Proofs.YtedeiaokohdhpaaGreat
