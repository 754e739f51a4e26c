/- Texts of one chain, joined: ZBk6, ZBk7, ZBk9. -/
import Derived.Test.YtedeiaokohdhpaaGreatG29
import Derived.Test.YtedeiaokohdhpaaGreatG30
import Derived.Test.YtedeiaokohdhpaaGreatG39
import Derived.Test.YtedeiaokohdhpaaGreatG40
namespace Go.Proofs.YtedeiaokohdhpaaGreat
open Go.RowKit
theorem eql_map {α β : Type} {R : β → β → Prop} {f g : α → β} {S : List α} (h : ∀ x ∈ S, R (f x) (g x)) : EqL R (S.map f) (S.map g) :=
  ⟨by simp, fun i x y hx hy => by
    simp only [List.getElem?_map, Option.map_eq_some_iff] at hx hy
    obtain ⟨a, ha, rfl⟩ := hx
    obtain ⟨b, hb, rfl⟩ := hy
    rw [ha] at hb
    cases hb
    exact h a (List.mem_of_getElem? ha)⟩
theorem eq_push (x : PushD) : EqPush true (pushP (stepX x)) x := by
  unfold EqPush stepX
  by_cases e1 : x.op = 1
  · simp [e1]
  · by_cases e2 : x.op = 2
    · simp [e2]
    · simp [e1, e2]
theorem eq_tree (es : List PushD) : EqL (EqPush true) (treeP (some (es.map stepX))) es := by
  have := eql_map (R := EqPush true) (f := fun x => pushP (stepX x)) (g := id) (S := es) (fun x _ => eq_push x)
  rw [List.map_id] at this
  show EqL _ ((es.map stepX).map pushP) es
  rwa [List.map_map]
theorem eq_op (x : OpD) : EqOp true (deedP (deedX x)) x.p := by
  have ht := eq_tree x.es
  unfold EqOp deedX OpD.p
  by_cases e1 : x.kind = 1
  · simp [e1, ht]
  by_cases e2 : x.kind = 2
  · simp [e2]
  by_cases e3 : x.kind = 3
  · simp [e3]
  by_cases e5 : x.kind = 5
  · simp [e5, ht]
  by_cases e6 : x.kind = 6
  · simp [e6]
  · simp [e1, e2, e3, e5, e6]
theorem eq_act (x : ActD) : EqAct true (actP (actX x)) x.p := by
  refine ⟨rfl, ?_⟩
  show EqL _ ((x.os.map deedX).map deedP) (x.os.map OpD.p)
  rw [List.map_map]
  exact eql_map fun y _ => eq_op y
theorem eq_node (x : NodeD) : EqNode true (nodeP (nodeX x)) x.p := by
  have ht := eq_tree x.es
  unfold EqNode nodeX NodeD.p
  by_cases e3 : x.kind = 3
  · simp [e3, ht]
  by_cases e4 : x.kind = 4
  · simp [e4]
  · simp [e3, e4]
theorem case_same (cs : List CaseD) : (cs.map caseX).map caseP = cs := by
  rw [List.map_map]
  exact (List.map_congr_left fun x _ => rfl).trans (List.map_id cs)
theorem ref_same (ks : List RefD) : (ks.map (fun r => (r.h, r.f))).map refP = ks := by
  rw [List.map_map]
  exact (List.map_congr_left fun x _ => rfl).trans (List.map_id ks)
theorem eq_state (x : StateD) (h : x.cs.length = x.cases.n) : EqState true (stateP (stateX x)) x.p := by
  refine ⟨rfl, rfl, case_same x.cs, fun h0 => ?_⟩
  have h1 : 0 < x.cs.length := by
    rcases h0 with h0 | h0
    · cases h0
    · simpa [stateX] using h0
  show refP (if x.cases.n = 0 then (0, 0) else (x.r.h, x.r.f)) = x.r
  rw [if_neg (by omega)]
theorem tab_same (x : TabD) : tabP (tabX x) = x.p := by
  show (⟨x.kind, (x.ks.map (fun r => (r.h, r.f))).map refP, x.al, x.cap, x.dflt, x.zs⟩ : PTab) = _
  rw [ref_same]
  rfl
theorem eq_plan (x : PlanD) (h : ∀ y ∈ x.ss, y.cs.length = y.cases.n) : EqPlan true (planP (planX x)) x.p := by
  refine ⟨rfl, rfl, ?_, ?_, ?_, ?_, rfl⟩
  · show EqL _ ((x.ss.map stateX).map stateP) (x.ss.map StateD.p)
    rw [List.map_map]
    exact eql_map fun y hy => eq_state y (h y hy)
  · show EqL _ ((x.al.map actX).map actP) (x.al.map ActD.p)
    rw [List.map_map]
    exact eql_map fun y _ => eq_act y
  · show (x.ts.map tabX).map tabP = x.ts.map TabD.p
    rw [List.map_map]
    exact List.map_congr_left fun y _ => tab_same y
  · show EqL _ ((x.ns.map nodeX).map nodeP) (x.ns.map NodeD.p)
    rw [List.map_map]
    exact eql_map fun y _ => eq_node y
/-! what Check finds does not hang on what a thing does not have -/
theorem eql_getD {α : Type} {R : α → α → Prop} {S T : List α} (h : EqL R S T) (n : Nat) (z : α) (hz : R z z) : R (S.getD n z) (T.getD n z) := by
  rw [List.getD_eq_getElem?_getD, List.getD_eq_getElem?_getD]
  cases hs : S[n]? with
  | none =>
    have : T[n]? = none := by rw [List.getElem?_eq_none_iff] at hs ⊢; rw [← h.1]; exact hs
    rw [this]
    exact hz
  | some x =>
    have hl := (List.getElem?_eq_some_iff.1 hs).1
    have ht := List.getElem?_eq_getElem (l := T) (i := n) (by rw [← h.1]; exact hl)
    rw [ht]
    exact h.2 n _ _ hs ht
theorem eql_maps {α β : Type} {R : α → α → Prop} {S T : List α} (h : EqL R S T) {f g : α → β} (hf : ∀ x y, R x y → f x = g y) : S.map f = T.map g := by
  refine List.ext_getElem? fun i => ?_
  rw [List.getElem?_map, List.getElem?_map]
  cases hs : S[i]? with
  | none =>
    have : T[i]? = none := by rw [List.getElem?_eq_none_iff] at hs ⊢; rw [← h.1]; exact hs
    rw [this]
    rfl
  | some x =>
    have hl := (List.getElem?_eq_some_iff.1 hs).1
    have ht := List.getElem?_eq_getElem (l := T) (i := i) (by rw [← h.1]; exact hl)
    rw [ht]
    show some (f x) = some (g _)
    rw [hf _ _ (h.2 i _ _ hs ht)]
theorem fields_same {p q : PPlan} (h : EqPlan true p q) (a : Int) (zs : List Int) : p.fields a zs = q.fields a zs := by
  unfold PPlan.fields
  rw [h.hs, h.ms]
theorem width_same {p q : PPlan} (h : EqPlan true p q) (r : RefD) (zs : List Int) : p.width r zs = q.width r zs := by
  unfold PPlan.width
  rw [fields_same h]
theorem treeGo_same {p q : PPlan} (h : EqPlan true p q) (zs : List Int) : ∀ (S T : List PushD) (n : Int), EqL (EqPush true) S T → treeGo p zs S n = treeGo q zs T n
  | [], [], _, _ => rfl
  | [], y :: T, _, e => by have := e.1; simp at this
  | x :: S, [], _, e => by have := e.1; simp at this
  | x :: S, y :: T, n, e => by
    have e0 := e.2 0 x y rfl rfl
    have e1 : EqL (EqPush true) S T := ⟨by have := e.1; simpa using this, fun i a b ha hb => e.2 (i + 1) a b (by simpa using ha) (by simpa using hb)⟩
    unfold treeGo
    rw [← e0.1, treeGo_same h zs S T _ e1]
    by_cases h2 : x.op = 2
    · rw [e0.2.2 (.inr h2), width_same h]
    · simp [h2]
theorem tree_same {p q : PPlan} (h : EqPlan true p q) (zs : List Int) {S T : List PushD} (e : EqL (EqPush true) S T) : treeC p S zs = treeC q T zs := by
  unfold treeC
  rw [e.1, treeGo_same h zs S T 0 e]
theorem target_same {p q : PPlan} (h : EqPlan true p q) (r : RefD) : targetC p r = targetC q r := by
  unfold targetC
  rw [width_same h]
theorem deedC_same {p q : PPlan} (h : EqPlan true p q) (ws : List Int) (x y : POp) (e : EqOp true x y) : deedC p ws x = deedC q ws y := by
  obtain ⟨e1, e2, e3, e4⟩ := e
  unfold deedC
  rw [← e1, ← h.hs]
  by_cases k1 : x.kind = 1
  · rw [if_pos k1, if_pos k1, e2 (.inr (.inl k1)), target_same h, tree_same h ws (e4 (.inr (.inl k1)))]
  rw [if_neg k1, if_neg k1]
  by_cases k2 : x.kind = 2 ∨ x.kind = 3
  · rw [if_pos k2, if_pos k2, e3 (.inr (k2.elim .inl fun k => .inr (.inl k)))]
  rw [if_neg k2, if_neg k2]
  by_cases k4 : x.kind = 4
  · rw [if_pos k4, if_pos k4]
  rw [if_neg k4, if_neg k4]
  by_cases k5 : x.kind = 5
  · rw [if_pos k5, if_pos k5, tree_same h ws (e4 (.inr (.inr k5)))]
  rw [if_neg k5, if_neg k5]
  by_cases k6 : x.kind = 6
  · rw [if_pos k6, if_pos k6, e2 (.inr (.inr k6)), target_same h, e3 (.inr (.inr (.inr k6)))]
  · rw [if_neg k6, if_neg k6]
theorem actC_same {p q : PPlan} (h : EqPlan true p q) (x y : PAct) (e : EqAct true x y) : actC p x = actC q y := by
  unfold actC
  rw [← e.1, ← e.2.1, eql_maps e.2 (fun a b hab => deedC_same h x.ws a b hab)]
theorem acts_ws {p q : PPlan} (h : EqPlan true p q) (n : Nat) : (p.al.getD n ⟨[], []⟩).ws = (q.al.getD n ⟨[], []⟩).ws :=
  (eql_getD h.al n ⟨[], []⟩ ⟨rfl, rfl, by simp⟩).1
theorem nodeC_same {p q : PPlan} (h : EqPlan true p q) (n : Nat) (x y : PNode) (e : EqNode true x y) : nodeC p n x = nodeC q n y := by
  obtain ⟨e1, e2, e3, e4, e5⟩ := e
  have hu : useC p x = useC q y := by
    unfold useC doC
    rw [← e1, ← h.hs, ← h.ts, ← h.al.1]
    by_cases k3 : x.kind = 3
    · simp only [k3, tree_same h [] (e4 (.inr k3))]
      rfl
    · rw [← e3 (.inr k3), acts_ws h]
      simp [k3]
  unfold nodeC
  rw [hu, ← e1, ← e2, ← h.ns.1]
  by_cases k : x.kind = 3 ∨ x.kind = 4
  · rw [if_pos k, if_pos k, e5 (.inr k)]
  · rw [if_neg k, if_neg k]
theorem stateC_same {p q : PPlan} (h : EqPlan true p q) (n : Nat) (x y : PState) (e : EqState true x y) : stateC p n x = stateC q n y := by
  obtain ⟨e1, e2, e3, e4⟩ := e
  have hc : ∀ c, caseC p y.r n c = caseC q y.r n c := fun c => by
    unfold caseC
    rw [width_same h, h.ss.1]
  unfold stateC
  rw [← e1, ← e2, ← e3, ← h.hs, ← h.ss.1]
  by_cases k : 0 < x.cs.length
  · rw [e4 (.inr k), width_same h, List.map_congr_left fun c _ => hc c]
  · have hn : x.cs = [] := List.length_eq_zero_iff.1 (by omega)
    rw [hn]
    simp
theorem storeC_same {p q : PPlan} (h : EqPlan true p q) (t : PTab) (wl : List Int) : storeC t wl p.al = storeC t wl q.al := by
  unfold storeC saysC
  rw [h.al.1, acts_ws h]
theorem codeP_same {p q : PPlan} (h : EqPlan true p q) : codeP p = codeP q := by
  funext k n
  match k with
  | 0 => show sizeC _ = sizeC _; rw [h.hs]
  | 1 => show widC _ = widC _; rw [h.ms]
  | 2 => exact stateC_same h n _ _ (eql_getD h.ss n _ ⟨rfl, rfl, rfl, fun _ => rfl⟩)
  | 3 => exact actC_same h _ _ (eql_getD h.al n _ ⟨rfl, rfl, by simp⟩)
  | 4 =>
    show tabC p _ = tabC q _
    rw [h.ts]
    unfold tabC
    rw [List.map_congr_left fun r _ => width_same h r [], storeC_same h]
  | 5 => exact nodeC_same h n _ _ (eql_getD h.ns n _ ⟨rfl, rfl, fun _ => rfl, fun _ => ⟨rfl, by simp⟩, fun _ => rfl⟩)
  | k + 6 =>
    show outC p n = outC q n
    unfold outC
    rw [h.os, h.hs]
theorem manyP_same {p q : PPlan} (h : EqPlan true p q) : manyP p = manyP q := by
  funext k
  match k with
  | 0 => show p.hs.length = q.hs.length; rw [h.hs]
  | 1 => show p.ms.length = q.ms.length; rw [h.ms]
  | 2 => exact h.ss.1
  | 3 => exact h.al.1
  | 4 => show p.ts.length = q.ts.length; rw [h.ts]
  | 5 => exact h.ns.1
  | k + 6 => show p.os.length = q.os.length; rw [h.os]
theorem chk_same {p q : PPlan} (h : EqPlan true p q) : chkP p = chkP q := by
  have go : ∀ m, chkGo p (codeP p) m = chkGo q (codeP q) m := fun m => by
    rw [codeP_same h]
    induction m with
    | zero => rfl
    | succ m ih => unfold chkGo; rw [manyP_same h, ih]
  exact go 7
end Go.Proofs.YtedeiaokohdhpaaGreat

namespace Go.Proofs.YtedeiaokohdhpaaGreat
open Go.RowKit
def Tls (M : Nat) {α : Type} (f : List Int → Nat → Except (Int × Int) (α × Nat)) (P : α → Prop) : Prop :=
  ∀ (zs : List Int) (t : Nat) (x : α) (u : Nat), zs.length ≤ M → f zs t = .ok (x, u) → P x
theorem tls_any {M : Nat} {α : Type} (f : List Int → Nat → Except (Int × Int) (α × Nat)) : Tls M f (fun _ => True) := fun _ _ _ _ _ _ => trivial
theorem tls_list {M : Nat} {α : Type} {f : List Int → Nat → Except (Int × Int) (α × Nat)} {P : α → Prop} (hf : Tls M f P) (zs : List Int) (hz : zs.length ≤ M) : ∀ (n t : Nat) (l : List α) (u : Nat), listR (f zs) n t = .ok (l, u) → l.length = n ∧ ∀ x ∈ l, P x
  | 0, t, l, u, h => by
    rw [listR] at h
    cases h
    exact ⟨rfl, fun x hx => absurd hx List.not_mem_nil⟩
  | n + 1, t, l, u, h => by
    rw [listR] at h
    cases hp : f zs t with
    | error e => rw [hp] at h; cases h
    | ok y =>
      obtain ⟨x, t'⟩ := y
      rw [hp] at h
      dsimp only at h
      cases hq : listR (f zs) n t' with
      | error e => rw [hq] at h; cases h
      | ok y =>
        obtain ⟨l', u'⟩ := y
        rw [hq] at h
        cases h
        obtain ⟨e1, e2⟩ := tls_list hf zs hz n t' l' u hq
        refine ⟨by rw [List.length_cons, e1], fun z hz' => ?_⟩
        rcases List.mem_cons.1 hz' with rfl | hz'
        · exact hf zs t z t' hz hp
        · exact e2 z hz'
theorem cnt_le {zs : List Int} {t n u : Nat} (h : cntR zs t = .ok (n, u)) : n ≤ zs.length := by
  unfold cntR at h
  cases hp : numR zs t with
  | error e => rw [hp] at h; cases h
  | ok y =>
    obtain ⟨m, v⟩ := y
    rw [hp] at h
    dsimp only at h
    by_cases h1 : m < 0 ∨ (zs.length : Int) - (v : Int) < m
    · rw [if_pos h1] at h; cases h
    · rw [if_neg h1] at h
      cases h
      omega
theorem tls_listC {M : Nat} {α : Type} {f : List Int → Nat → Except (Int × Int) (α × Nat)} {P : α → Prop} (hf : Tls M f P) : Tls M (fun zs t => listC zs (f zs) t) (fun l => l.length ≤ M ∧ ∀ x ∈ l, P x) := fun zs t l u hz h => by
  dsimp only at h
  unfold listC at h
  cases hp : cntR zs t with
  | error e => rw [hp] at h; cases h
  | ok y =>
    obtain ⟨n, t'⟩ := y
    rw [hp] at h
    obtain ⟨e1, e2⟩ := tls_list hf zs hz n t' l u h
    have := cnt_le hp
    exact ⟨by omega, e2⟩
def DeedX.few (M : Nat) (x : DeedX) : Prop := (treeP x.e).length ≤ M
theorem tls_deed (M : Nat) : Tls M deedR (DeedX.few M) := fun zs t x u hz h => by
  unfold deedR at h
  obtain ⟨k, u1, h1, h⟩ := then_ok h
  by_cases e1 : k = 1
  · rw [if_pos e1] at h
    obtain ⟨r, u2, h2, h⟩ := then_ok h
    obtain ⟨l, u3, h3, h⟩ := then_ok h
    cases h
    have := (tls_listC (tls_any stepR) zs u2 l u hz h3).1
    simpa [DeedX.few] using this
  rw [if_neg e1] at h
  by_cases e2 : k = 2
  · rw [if_pos e2] at h
    obtain ⟨r, u2, h2, h⟩ := then_ok h
    cases h
    simp [DeedX.few]
  rw [if_neg e2] at h
  by_cases e3 : k = 3
  · rw [if_pos e3] at h
    obtain ⟨r, u2, h2, h⟩ := then_ok h
    cases h
    simp [DeedX.few]
  rw [if_neg e3] at h
  by_cases e5 : k = 5
  · rw [if_pos e5] at h
    obtain ⟨l, u2, h2, h⟩ := then_ok h
    cases h
    have := (tls_listC (tls_any stepR) zs u1 l u hz h2).1
    simpa [DeedX.few] using this
  rw [if_neg e5] at h
  by_cases e6 : k = 6
  · rw [if_pos e6] at h
    obtain ⟨r, u2, h2, h⟩ := then_ok h
    obtain ⟨l, u3, h3, h⟩ := then_ok h
    cases h
    simp [DeedX.few]
  · rw [if_neg e6] at h
    cases h
    simp [DeedX.few]
def NodeX.few (M : Nat) (x : NodeX) : Prop := (treeP x.e).length ≤ M
theorem tls_node (M : Nat) : Tls M nodeR (NodeX.few M) := fun zs t x u hz h => by
  unfold nodeR at h
  obtain ⟨k, u1, h1, h⟩ := then_ok h
  obtain ⟨y, u2, h2, h⟩ := then_ok h
  by_cases e3 : k = 3
  · rw [if_pos e3] at h
    obtain ⟨l, u3, h3, h⟩ := then_ok h
    obtain ⟨m, u4, h4, h⟩ := then_ok h
    cases h
    have := (tls_listC (tls_any stepR) zs u2 l u3 hz h3).1
    simpa [NodeX.few] using this
  rw [if_neg e3] at h
  by_cases e4 : k = 4
  · rw [if_pos e4] at h
    obtain ⟨l, u3, h3, h⟩ := then_ok h
    obtain ⟨m, u4, h4, h⟩ := then_ok h
    cases h
    simp [NodeX.few]
  · rw [if_neg e4] at h
    obtain ⟨l, u3, h3, h⟩ := then_ok h
    cases h
    simp [NodeX.few]
def ActX.few (M : Nat) (x : ActX) : Prop := x.w.length ≤ M ∧ x.ops.length ≤ M ∧ ∀ o ∈ x.ops, o.few M
theorem tls_act (M : Nat) : Tls M actR (ActX.few M) := fun zs t x u hz h => by
  unfold actR at h
  obtain ⟨a, u1, h1, h⟩ := then_ok h
  obtain ⟨b, u2, h2, h⟩ := then_ok h
  cases h
  exact ⟨(tls_listC (tls_any numR) zs t a u1 hz h1).1, tls_listC (tls_deed M) zs u1 b u hz h2⟩
def TabX.few (M : Nat) (x : TabX) : Prop := x.keys.length ≤ M ∧ x.acts.length ≤ M ∧ x.args.length ≤ M
theorem tls_tab (M : Nat) : Tls M tabR (TabX.few M) := fun zs t x u hz h => by
  unfold tabR at h
  obtain ⟨a, u1, h1, h⟩ := then_ok h
  obtain ⟨b, u2, h2, h⟩ := then_ok h
  obtain ⟨c, u3, h3, h⟩ := then_ok h
  obtain ⟨d, u4, h4, h⟩ := then_ok h
  obtain ⟨e, u5, h5, h⟩ := then_ok h
  obtain ⟨f, u6, h6, h⟩ := then_ok h
  cases h
  exact ⟨(tls_listC (tls_any fieldR) zs u1 b u2 hz h2).1, (tls_listC (tls_any numR) zs u2 c u3 hz h3).1, (tls_listC (tls_any plainI) zs u5 f u hz h6).1⟩
def StateX.few (M : Nat) (x : StateX) : Prop := x.cs.length ≤ M
theorem tls_state (M : Nat) : Tls M stateR (StateX.few M) := fun zs t x u hz h => by
  unfold stateR at h
  obtain ⟨hd, u1, h1, h⟩ := then_ok h
  obtain ⟨m, u2, h2, h⟩ := then_ok h
  obtain ⟨on, u3, h3, h⟩ := then_ok h
  obtain ⟨cs, u4, h4, h⟩ := then_ok h
  obtain ⟨el, u5, h5, h⟩ := then_ok h
  cases h
  have e := (tls_list (tls_any caseR) zs hz m u3 cs u4 h4).1
  have := cnt_le h2
  show cs.length ≤ M
  omega
structure PlanX.few (M : Nat) (x : PlanX) : Prop where
  hs : x.heads.length ≤ M ∧ ∀ y ∈ x.heads, y.length ≤ M
  ms : x.mt.length ≤ M
  ss : x.states.length ≤ M ∧ ∀ y ∈ x.states, y.few M
  al : x.acts.length ≤ M ∧ ∀ y ∈ x.acts, y.few M
  ts : x.tabs.length ≤ M ∧ ∀ y ∈ x.tabs, y.few M
  ns : x.nodes.length ≤ M ∧ ∀ y ∈ x.nodes, y.few M
  os : x.out.length ≤ M
theorem tls_plan (M : Nat) : Tls M planR (PlanX.few M) := fun zs t x u hz h => by
  unfold planR at h
  obtain ⟨x1, u1, h1, h⟩ := then_ok h
  obtain ⟨x2, u2, h2, h⟩ := then_ok h
  obtain ⟨x3, u3, h3, h⟩ := then_ok h
  obtain ⟨x4, u4, h4, h⟩ := then_ok h
  obtain ⟨x5, u5, h5, h⟩ := then_ok h
  obtain ⟨x6, u6, h6, h⟩ := then_ok h
  obtain ⟨x7, u7, h7, h⟩ := then_ok h
  cases h
  have e1 := tls_listC (tls_listC (tls_any numR)) zs t x1 u1 hz h1
  exact ⟨⟨e1.1, fun y hy => (e1.2 y hy).1⟩, (tls_listC (tls_any numR) zs u1 x2 u2 hz h2).1, tls_listC (tls_state M) zs u2 x3 u3 hz h3, tls_listC (tls_act M) zs u3 x4 u4 hz h4, tls_listC (tls_tab M) zs u4 x5 u5 hz h5, tls_listC (tls_node M) zs u5 x6 u6 hz h6, (tls_listC (tls_any numR) zs u6 x7 u hz h7).1⟩
/-! the bytes of a plan as it lies -/
theorem flat_same {α β : Type} {f : α → List Int} {g : β → List Int} {k : α → β} {S : List α} (h : ∀ x ∈ S, f x = g (k x)) : S.flatMap f = (S.map k).flatMap g := by
  rw [flat_map2]
  induction S with
  | nil => rfl
  | cons x S ih =>
    rw [List.flatMap_cons, List.flatMap_cons, h x (List.mem_cons_self ..), ih fun y hy => h y (List.mem_cons_of_mem _ hy)]
theorem qmem {α : Type} {k : Nat} {P : α → World → Nat → Nat → Prop} {w : World} {s : QSl} {S : List α} (h : QRow k P w s S) : ∀ y ∈ S, ∃ g o, P y w g o := fun y hy => by
  obtain ⟨i, hi, rfl⟩ := List.getElem_of_mem hy
  obtain ⟨g, off, _, hp⟩ := h.2 i _ (List.getElem?_eq_getElem hi)
  exact ⟨g, _, hp⟩
theorem planL_p {d : PlanD} {w : World} (hl : d.lie w) : planL d = planPL d.p := by
  have e1 : d.hs.flatMap headL = (d.hs.map HeadD.ws).flatMap intsL := flat_same fun x _ => rfl
  have e2 : d.ss.flatMap stateL = (d.ss.map StateD.p).flatMap statePL := flat_same fun x hx => by
    obtain ⟨g, o, hp⟩ := qmem hl.ss x hx
    have e := hp.2.2.2.2.2.1
    unfold stateL statePL StateD.p
    rw [e]
  have e3 : d.al.flatMap actL = (d.al.map ActD.p).flatMap actPL := flat_same fun x hx => by
    obtain ⟨g, o, hp⟩ := qmem hl.al x hx
    have e := hp.2.2.2.1
    unfold actL actPL ActD.p
    rw [List.length_map, e, flat_same (f := opL) (g := opPL) (k := OpD.p) fun y _ => rfl]
  have e4 : d.ts.flatMap tabL = (d.ts.map TabD.p).flatMap tabPL := flat_same fun x hx => by
    obtain ⟨g, o, hp⟩ := qmem hl.ts x hx
    have e := hp.2.2.2.2.2.2.1.1
    unfold tabL tabPL TabD.p
    rw [e]
  have e5 : d.ns.flatMap nodeL = (d.ns.map NodeD.p).flatMap nodePL := flat_same fun x _ => rfl
  unfold planL planPL PlanD.p
  rw [e1, e2, e3, e4, e5, List.length_map, List.length_map, List.length_map, List.length_map, List.length_map, hl.hs.1, hl.ss.1, hl.al.1, hl.ts.1, hl.ns.1]
end Go.Proofs.YtedeiaokohdhpaaGreat

namespace Go.Proofs.YtedeiaokohdhpaaGreat
open Go.RowKit
def NoZ {α : Type} (r : Except (Int × Int) (α × Nat)) : Prop := ∀ c a, r = .error (c, a) → c ≠ 0
theorem noz_ok {α : Type} (y : α × Nat) : NoZ (.ok y) := fun c a h => by cases h
theorem noz_then {α β : Type} {r : Except (Int × Int) (α × Nat)} {f : α → Nat → Except (Int × Int) (β × Nat)} (hr : NoZ r) (hf : ∀ x t, NoZ (f x t)) : NoZ (thenR r f) := fun c a h => by
  unfold thenR at h
  cases hq : r with
  | error e => rw [hq] at h; cases h; exact hr c a hq
  | ok y => rw [hq] at h; exact hf y.1 y.2 c a h
theorem noz_ite {α : Type} {P : Prop} [Decidable P] {r s : Except (Int × Int) (α × Nat)} (hr : NoZ r) (hs : NoZ s) : NoZ (if P then r else s) := by
  split
  · exact hr
  · exact hs
theorem noz_plainF (zs : List Int) : ∀ (f i t acc : Nat), NoZ (plainF zs f i t acc)
  | 0, _, _, _ => fun c a h => by unfold plainF at h; cases h; decide
  | f + 1, i, t, acc => fun c a h => by
    rw [plainF] at h
    cases hb : zs[t]? with
    | none => rw [hb] at h; cases h; decide
    | some b =>
      rw [hb] at h
      dsimp only at h
      split at h
      · cases h; decide
      · split at h
        · cases h
        · exact noz_plainF zs f (i + 1) (t + 1) _ c a h
theorem noz_plainR (zs : List Int) (t : Nat) : NoZ (plainR zs t) := noz_plainF zs 10 0 t 0
theorem noz_plain (zs : List Int) (t : Nat) : NoZ (plainI zs t) := fun c a h => by
  unfold plainI at h
  cases hp : plainR zs t with
  | error e => rw [hp] at h; cases h; exact noz_plainR zs t c a hp
  | ok y => rw [hp] at h; cases h
theorem noz_num (zs : List Int) (t : Nat) : NoZ (numR zs t) := fun c a h => by
  unfold numR at h
  cases hp : plainR zs t with
  | error e => rw [hp] at h; cases h; exact noz_plainR zs t c a hp
  | ok y => rw [hp] at h; cases h
theorem noz_cnt (zs : List Int) (t : Nat) : NoZ (cntR zs t) := fun c a h => by
  unfold cntR at h
  cases hp : numR zs t with
  | error e => rw [hp] at h; cases h; exact noz_num zs t c a hp
  | ok y =>
    rw [hp] at h
    dsimp only at h
    split at h
    · cases h; decide
    · cases h
theorem noz_list {α : Type} {f : Nat → Except (Int × Int) (α × Nat)} (hf : ∀ t, NoZ (f t)) : ∀ n t, NoZ (listR f n t)
  | 0, t => noz_ok _
  | n + 1, t => fun c a h => by
    rw [listR] at h
    cases hp : f t with
    | error e => rw [hp] at h; cases h; exact hf t c a hp
    | ok y =>
      rw [hp] at h
      dsimp only at h
      cases hq : listR f n y.2 with
      | error e => rw [hq] at h; cases h; exact noz_list hf n y.2 c a hq
      | ok z => rw [hq] at h; cases h
theorem noz_listC {α : Type} {zs : List Int} {f : Nat → Except (Int × Int) (α × Nat)} (hf : ∀ t, NoZ (f t)) (t : Nat) : NoZ (listC zs f t) := fun c a h => by
  unfold listC at h
  cases hp : cntR zs t with
  | error e => rw [hp] at h; cases h; exact noz_cnt zs t c a hp
  | ok y => rw [hp] at h; exact noz_list hf y.1 y.2 c a h
theorem noz_field (zs : List Int) (t : Nat) : NoZ (fieldR zs t) := noz_then (noz_num _ _) fun _ _ => noz_then (noz_num _ _) fun _ _ => noz_ok _
theorem noz_case (zs : List Int) (t : Nat) : NoZ (caseR zs t) := noz_then (noz_plain _ _) fun _ _ => noz_then (noz_plain _ _) fun _ _ => noz_then (noz_num _ _) fun _ _ => noz_ok _
theorem noz_step (zs : List Int) (t : Nat) : NoZ (stepR zs t) := noz_then (noz_num _ _) fun _ _ => noz_ite (noz_then (noz_plain _ _) fun _ _ => noz_ok _) (noz_ite (noz_then (noz_field _ _) fun _ _ => noz_ok _) (noz_ok _))
theorem noz_tree (zs : List Int) (t : Nat) : NoZ (listC zs (stepR zs) t) := noz_listC (noz_step zs) t
theorem noz_deed (zs : List Int) (t : Nat) : NoZ (deedR zs t) := noz_then (noz_num _ _) fun _ _ => noz_ite (noz_then (noz_field _ _) fun _ _ => noz_then (noz_tree _ _) fun _ _ => noz_ok _) (noz_ite (noz_then (noz_num _ _) fun _ _ => noz_ok _) (noz_ite (noz_then (noz_num _ _) fun _ _ => noz_ok _) (noz_ite (noz_then (noz_tree _ _) fun _ _ => noz_ok _) (noz_ite (noz_then (noz_field _ _) fun _ _ => noz_then (noz_num _ _) fun _ _ => noz_ok _) (noz_ok _)))))
theorem noz_act (zs : List Int) (t : Nat) : NoZ (actR zs t) := noz_then (noz_listC (noz_num zs) _) fun _ _ => noz_then (noz_listC (noz_deed zs) _) fun _ _ => noz_ok _
theorem noz_tab (zs : List Int) (t : Nat) : NoZ (tabR zs t) := noz_then (noz_num _ _) fun _ _ => noz_then (noz_listC (noz_field zs) _) fun _ _ => noz_then (noz_listC (noz_num zs) _) fun _ _ => noz_then (noz_num _ _) fun _ _ => noz_then (noz_num _ _) fun _ _ => noz_then (noz_listC (noz_plain zs) _) fun _ _ => noz_ok _
theorem noz_node (zs : List Int) (t : Nat) : NoZ (nodeR zs t) := noz_then (noz_num _ _) fun _ _ => noz_then (noz_num _ _) fun _ _ => noz_ite (noz_then (noz_tree _ _) fun _ _ => noz_then (noz_num _ _) fun _ _ => noz_ok _) (noz_ite (noz_then (noz_num _ _) fun _ _ => noz_then (noz_num _ _) fun _ _ => noz_ok _) (noz_then (noz_num _ _) fun _ _ => noz_ok _))
theorem noz_state (zs : List Int) (t : Nat) : NoZ (stateR zs t) := noz_then (noz_num _ _) fun _ _ => noz_then (noz_cnt _ _) fun _ _ => noz_then (noz_ite (noz_ok _) (noz_field _ _)) fun _ _ => noz_then (noz_list (noz_case zs) _ _) fun _ _ => noz_then (noz_num _ _) fun _ _ => noz_ok _
theorem noz_plan (zs : List Int) (t : Nat) : NoZ (planR zs t) := noz_then (noz_listC (noz_listC (noz_num zs)) _) fun _ _ => noz_then (noz_listC (noz_num zs) _) fun _ _ => noz_then (noz_listC (noz_state zs) _) fun _ _ => noz_then (noz_listC (noz_act zs) _) fun _ _ => noz_then (noz_listC (noz_tab zs) _) fun _ _ => noz_then (noz_listC (noz_node zs) _) fun _ _ => noz_then (noz_listC (noz_num zs) _) fun _ _ => noz_ok _
theorem frame_ok {zs : List Int} (h : (frameF zs).1 = 0) : frameF zs = (0, 0) ∧ 7 ≤ zs.length ∧ zs.length ≤ 8000 ∧ zs.take 3 = [83, 89, 1] ∧ zs.drop (zs.length - 4) = Mth.four (Mth.crc (zs.take (zs.length - 4))) := by
  unfold frameF at h ⊢
  by_cases h1 : zs.length < 7
  · rw [if_pos h1] at h; exact absurd h (by show (3 : Int) ≠ 0; decide)
  rw [if_neg h1] at h ⊢
  by_cases h2 : 8000 < zs.length
  · rw [if_pos h2] at h; exact absurd h (by show (14 : Int) ≠ 0; decide)
  rw [if_neg h2] at h ⊢
  by_cases h3 : zs.take 3 ≠ [83, 89, 1]
  · rw [if_pos h3] at h; exact absurd h (by show (4 : Int) ≠ 0; decide)
  rw [if_neg h3] at h ⊢
  by_cases h4 : zs.drop (zs.length - 4) ≠ Mth.four (Mth.crc (zs.take (zs.length - 4)))
  · rw [if_pos h4] at h; exact absurd h (by show (19 : Int) ≠ 0; decide)
  rw [if_neg h4]
  exact ⟨rfl, by omega, by omega, Classical.not_not.1 h3, Classical.not_not.1 h4⟩
def decX (zs : List Int) : Option PlanX := if (frameF zs).1 ≠ 0 then none else match planR (zs.take (zs.length - 4)) 3 with
  | .error _ => none
  | .ok (x, u) => if u < (zs.take (zs.length - 4)).length then none else if (chkP (planP x)).1 ≠ 0 then none else some x
end Go.Proofs.YtedeiaokohdhpaaGreat
