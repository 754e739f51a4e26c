/- Texts of one chain, joined: ZBkA. -/
import Derived.Test.YtedeiaokohdhpaaGreatG45
import Derived.Test.YtedeiaokohdhpaaGreatG41
namespace Go.Proofs.YtedeiaokohdhpaaGreat
open Go.RowKit
theorem num_one {x : Int} (h : -64 ≤ x ∧ x < 64) : (numL x).length = 1 := by
  have : foldN x < 128 := by unfold foldN; split <;> omega
  unfold numL
  rw [plain_small this]
  rfl
theorem cnt_one {n : Nat} (h : n < 64) : (numL (n : Int)).length = 1 := num_one (by omega)
structure PPlan.tight (p : PPlan) : Prop where
  hs : p.hs.length ≤ 6
  hw : ∀ l ∈ p.hs, l.length ≤ 8
  ms : p.ms.length ≤ 4
theorem fields_len {p : PPlan} (t : p.tight) {h : Int} {zs : List Int} (hz : zs.length ≤ 8) : (p.fields h zs).length ≤ 8 ∧ (0 < (p.fields h zs).length → -64 ≤ h ∧ h < 64) := by
  unfold PPlan.fields
  by_cases h1 : h = -1
  · rw [if_pos h1]; have := t.ms; exact ⟨by omega, fun _ => by omega⟩
  rw [if_neg h1]
  by_cases h2 : h = -2
  · rw [if_pos h2]; exact ⟨hz, fun _ => by omega⟩
  rw [if_neg h2]
  by_cases h3 : h = -3
  · rw [if_pos h3]; exact ⟨by decide, fun _ => by omega⟩
  rw [if_neg h3]
  by_cases h4 : h < 0 ∨ (p.hs.length : Int) ≤ h
  · rw [if_pos h4]; exact ⟨by decide, fun h => absurd h (by decide)⟩
  rw [if_neg h4]
  have hl : h.toNat < p.hs.length := by omega
  have := t.hs
  refine ⟨?_, fun _ => by omega⟩
  rw [List.getD_eq_getElem?_getD, List.getElem?_eq_getElem hl]
  exact t.hw _ (List.getElem_mem hl)
theorem width_small {p : PPlan} (t : p.tight) {r : RefD} {zs : List Int} (hz : zs.length ≤ 8) (h : p.width r zs ≠ 0) : (refL r).length = 2 := by
  have hf := fields_len t (h := r.h) hz
  unfold PPlan.width at h
  by_cases h1 : r.f < 0 ∨ ((p.fields r.h zs).length : Int) ≤ r.f
  · rw [if_pos h1] at h; exact absurd rfl h
  · have h2 := hf.2 (by omega)
    unfold refL
    rw [List.length_append, num_one h2, num_one (by omega)]
theorem takes_small {op : Int} (h : ¬ takesC op < 0) : 1 ≤ op ∧ op ≤ 13 := by
  unfold takesC at h
  split at h
  · omega
  · split at h
    · omega
    · split at h
      · omega
      · omega
theorem treeGo_ok {p : PPlan} {zs : List Int} : ∀ {es : List PushD} {n : Int}, treeGo p zs es n = 0 → ∀ y ∈ es, ¬ takesC y.op < 0 ∧ (y.op = 2 → p.width y.r zs ≠ 0)
  | [], _, _, y, hy => absurd hy List.not_mem_nil
  | x :: es, n, h, y, hy => by
    unfold treeGo at h
    by_cases h1 : takesC x.op < 0 ∨ n < takesC x.op
    · rw [if_pos h1] at h; cases h
    rw [if_neg h1] at h
    by_cases h2 : x.op = 2 ∧ p.width x.r zs = 0
    · rw [if_pos h2] at h; cases h
    rw [if_neg h2] at h
    rcases List.mem_cons.1 hy with rfl | hy
    · exact ⟨fun e => h1 (.inl e), fun e e' => h2 ⟨e, e'⟩⟩
    · exact treeGo_ok h y hy
theorem tree_89 {p : PPlan} (t : p.tight) {es : List PushD} {zs : List Int} (hz : zs.length ≤ 8) (hw : ∀ x ∈ es, wfI x.op ∧ wfI x.r.h ∧ wfI x.r.f ∧ (Lit.int .u64 x.n).wf = true) (h : treeC p es zs = 0) : (treeL es).length ≤ 89 := by
  unfold treeC at h
  by_cases h8 : 8 < es.length
  · rw [if_pos h8] at h; cases h
  rw [if_neg h8] at h
  have ho := treeGo_ok h
  have hs := flatL_len (f := stepL) (b := 11) (L := es) fun y hy => by
    have h1 := takes_small (ho y hy).1
    have h2 := num_one (x := y.op) (by omega)
    unfold stepL
    rw [List.length_append, h2]
    by_cases e1 : y.op = 1
    · rw [if_pos e1]
      have := bounds_u64 (hw y hy).2.2.2
      have := plain_ten (n := y.n.toNat) (by omega)
      omega
    rw [if_neg e1]
    by_cases e2 : y.op = 2
    · rw [if_pos e2, width_small t hz ((ho y hy).2 e2)]
      omega
    · rw [if_neg e2]
      simp
  have hc := cnt_one (n := es.length) (by omega)
  unfold treeL
  rw [List.length_append, hc]
  omega
theorem deed_110 {p : PPlan} (t : p.tight) {ws : List Int} (hz : ws.length ≤ 8) {w : World} {g o : Nat} {x : OpD} (hl : x.lie w g o) (h : deedC p ws x.p = 0) : (opL x).length ≤ 110 := by
  have hr := ref_len hl.2.1.2 hl.2.2.1.2
  have hh := num_ten hl.2.2.2.1.2
  have hw := push_wf hl.2.2.2.2.2
  unfold deedC OpD.p at h
  dsimp only at h
  unfold opL
  rw [List.length_append]
  by_cases e1 : x.kind = 1
  · rw [if_pos e1] at h ⊢
    have ht := tree_89 t hz hw (or2_zero h).2
    have := num_one (x := x.kind) (by omega)
    rw [List.length_append]
    omega
  rw [if_neg e1] at h ⊢
  by_cases e2 : x.kind = 2
  · rw [if_pos e2]
    have := num_one (x := x.kind) (by omega)
    omega
  rw [if_neg e2]
  by_cases e3 : x.kind = 3
  · rw [if_pos e3]
    have := num_one (x := x.kind) (by omega)
    omega
  rw [if_neg e3]
  rw [if_neg (by omega)] at h
  by_cases e4 : x.kind = 4
  · have := num_one (x := x.kind) (by omega)
    rw [if_neg (by omega), if_neg (by omega)]
    simp only [List.length_nil]
    omega
  rw [if_neg e4] at h
  by_cases e5 : x.kind = 5
  · rw [if_pos e5] at h ⊢
    have ht := tree_89 t hz hw h
    have := num_one (x := x.kind) (by omega)
    omega
  rw [if_neg e5] at h ⊢
  by_cases e6 : x.kind = 6
  · rw [if_pos e6]
    have := num_one (x := x.kind) (by omega)
    rw [List.length_append]
    omega
  · rw [if_neg e6] at h
    cases h
theorem wids_one {ws : List Int} (h : ∀ x ∈ ws, 1 ≤ x ∧ x ≤ 48) (k : Nat) (hk : ws.length ≤ k) (h6 : k < 64) : (intsL ws).length ≤ 1 + k := by
  have hf := flatL_len (f := numL) (b := 1) (L := ws) fun y hy => by have := h y hy; rw [num_one (by omega)]; exact Nat.le_refl _
  have hc := cnt_one (n := ws.length) (by omega)
  unfold intsL
  rw [List.length_append, hc]
  omega
theorem act_555 {p : PPlan} (t : p.tight) {w : World} {g o : Nat} {x : ActD} (hl : x.lie w g o) (h : actC p x.p = 0) : (actL x).length ≤ 555 ∧ x.ws.length ≤ 3 := by
  unfold actC ActD.p at h
  dsimp only at h
  rw [List.length_map] at h
  by_cases h3 : 3 < x.ws.length ∨ 5 < x.os.length
  · rw [if_pos h3] at h; cases h
  rw [if_neg h3] at h
  obtain ⟨h1, h2⟩ := or2_zero h
  have hw := wids_one (ws := x.ws) (fun y hy => by
    have := firstC_zero h1 _ (List.mem_map.2 ⟨y, hy, rfl⟩)
    unfold widC at this
    split at this
    · cases this
    · omega) 3 (by omega) (by decide)
  have ho := flatL_len (f := opL) (b := 110) (L := x.os) fun y hy => by
    obtain ⟨g', o', hp⟩ := qmem hl.2.2.2 y hy
    exact deed_110 t (ws := x.ws) (by omega) hp (firstC_zero h2 _ (List.mem_map.2 ⟨y.p, List.mem_map.2 ⟨y, hy, rfl⟩, rfl⟩))
  have hn := hl.2.2.2.1
  have hc := cnt_one (n := x.ops.n) (by omega)
  refine ⟨?_, by omega⟩
  unfold actL
  rw [List.length_append, List.length_append, hc]
  omega
theorem node_110 {p : PPlan} (t : p.tight) {w : World} {g o : Nat} {x : NodeD} {n : Nat} (hl : x.lie w g o) (h : nodeC p n x.p = 0) : (nodeL x).length ≤ 110 := by
  have h1 := num_ten hl.2.1.2
  have h3 := num_ten hl.2.2.2.1.2
  have h4 := num_ten hl.2.2.2.2.1.2
  have hw := push_wf hl.2.2.2.2.2
  unfold nodeC at h
  have hu := (or2_zero h).1
  unfold useC NodeD.p at hu
  dsimp only at hu
  have hk : 1 ≤ x.kind ∧ x.kind ≤ 4 := by
    by_cases e1 : x.kind = 1
    · omega
    rw [if_neg e1] at hu
    by_cases e2 : x.kind = 2
    · omega
    rw [if_neg e2] at hu
    by_cases e3 : x.kind = 3
    · omega
    rw [if_neg e3] at hu
    by_cases e4 : x.kind = 4
    · omega
    rw [if_neg e4] at hu
    cases hu
  have h0 := num_one (x := x.kind) (by omega)
  unfold nodeL
  rw [List.length_append, List.length_append, h0]
  by_cases e3 : x.kind = 3
  · rw [if_neg (by omega), if_neg (by omega), if_pos e3] at hu
    have ht := tree_89 t (zs := []) (by decide) hw hu
    rw [if_pos e3, List.length_append]
    omega
  rw [if_neg e3]
  by_cases e4 : x.kind = 4
  · rw [if_pos e4, List.length_append]
    omega
  · rw [if_neg e4]
    omega
theorem tab_163 {p : PPlan} (ha : ∀ a ∈ p.al, a.ws.length ≤ 3) {w : World} {g o : Nat} {x : TabD} (hl : x.lie w g o) (h : tabC p x.p = 0) : (tabL x).length ≤ 163 := by
  unfold tabC TabD.p at h
  dsimp only at h
  by_cases h3 : 3 < x.ks.length
  · rw [if_pos h3] at h; cases h
  rw [if_neg h3] at h
  split at h
  · cases h
  unfold storeC at h
  dsimp only at h
  split at h
  · cases h
  split at h
  · cases h
  rename_i hin
  have h4 : x.al.length ≤ 4 := by
    have : InC 1 4 [(x.al.length : Int)] = true := by
      cases hq : InC 1 4 [(x.al.length : Int)] with
      | true => rfl
      | false => exact absurd (.inr hq) hin
    simp [InC] at this
    omega
  split at h
  · cases h
  split at h
  · cases h
  split at h
  · cases h
  have hz : x.zs.length ≤ 3 := by
    unfold saysC at h
    split at h
    · unfold hit2 at h
      split at h
      · cases h
      · rename_i he
        have he' := Classical.not_not.1 he
        rw [he', List.getD_eq_getElem?_getD]
        cases hq : p.al[x.dflt.toNat]? with
        | none => simp
        | some a => exact ha a (List.mem_of_getElem? hq)
    · cases h
  have k0 := num_ten hl.1.2
  have k1 := num_ten hl.2.2.2.1.2
  have k2 := num_ten hl.2.2.2.2.1.2
  have kn := hl.2.2.2.2.2.2.1.1
  have f1 := flatL_len (f := refL) (b := 20) (L := x.ks) fun y hy => by
    obtain ⟨g', o', hp⟩ := qmem hl.2.2.2.2.2.2.1 y hy
    exact ref_len hp.1.2 hp.2.2
  have f2 := ints_len hl.2.2.2.2.2.2.2.1.2.1 h4 (by decide)
  have f3 := nums_len hl.2.2.2.2.2.2.2.2.2.1 hz (by decide)
  have c1 := cnt_one (n := x.keys.n) (by omega)
  have c2 := cnt_one (n := x.al.length) (by omega)
  have c3 := cnt_one (n := x.zs.length) (by omega)
  have g2 : (intsL x.al).length ≤ 41 := by
    have := flatL_len (f := numL) (b := 10) (L := x.al) fun y hy => num_ten (hl.2.2.2.2.2.2.2.1.2.1 y hy)
    unfold intsL
    rw [List.length_append, c2]
    omega
  have g3 : (numsL x.zs).length ≤ 31 := by
    have := flatL_len (f := fun z => plainL z.toNat) (b := 10) (L := x.zs) fun y hy => plain_ten (by have := bounds_u64 (hl.2.2.2.2.2.2.2.2.2.1 y hy); omega)
    unfold numsL
    rw [List.length_append, c3]
    omega
  unfold tabL
  simp only [List.length_append]
  omega
theorem state_161 {p : PPlan} {w : World} {g o n : Nat} {x : StateD} (hl : x.lie w g o) (h : stateC p n x.p = 0) : (stateL x).length ≤ 161 := by
  unfold stateC StateD.p at h
  dsimp only at h
  split at h
  · cases h
  by_cases h4 : 4 < x.cs.length
  · rw [if_pos h4] at h; cases h
  have k0 := num_ten hl.1.2
  have k1 := ref_len hl.2.1.2 hl.2.2.1.2
  have k2 := num_ten hl.2.2.2.2.1.2
  have kn := hl.2.2.2.2.2.1
  have f1 := flatL_len (f := caseL) (b := 30) (L := x.cs) fun y hy => by
    obtain ⟨g', o', hp⟩ := qmem hl.2.2.2.2.2 y hy
    exact case_len hp
  have c1 := cnt_one (n := x.cases.n) (by omega)
  unfold stateL
  rw [List.length_append, List.length_append, c1, List.length_append, List.length_append]
  split
  · simp only [List.length_nil]; omega
  · omega
theorem enc_8000 {d : PlanD} {w : World} (hl : d.lie w) (hc : (chkP d.p).1 = 0) : (bodyL d).length ≤ 7996 := by
  have mem : ∀ {α β : Type} {L : List α} {f : α → β} {x : α}, x ∈ L → ∃ n, n < (L.map f).length ∧ ∀ z, (L.map f).getD n z = f x := fun {α β L f x} hx => by
    obtain ⟨i, hi, rfl⟩ := List.getElem_of_mem hx
    exact ⟨i, by rw [List.length_map]; exact hi, fun z => by rw [List.getD_eq_getElem?_getD, List.getElem?_map, List.getElem?_eq_getElem hi]; rfl⟩
  have n0 : (d.p.hs.length : Int) ≤ 6 := (chk_zero hc 0 (by decide)).2.1
  have n1 : (d.p.ms.length : Int) ≤ 4 := (chk_zero hc 1 (by decide)).2.1
  have n2 : (d.p.ss.length : Int) ≤ 8 := (chk_zero hc 2 (by decide)).2.1
  have n3 : (d.p.al.length : Int) ≤ 8 := (chk_zero hc 3 (by decide)).2.1
  have n4 : (d.p.ts.length : Int) ≤ 5 := (chk_zero hc 4 (by decide)).2.1
  have n5 : (d.p.ns.length : Int) ≤ 10 := (chk_zero hc 5 (by decide)).2.1
  have n6 : (d.p.os.length : Int) ≤ 6 := (chk_zero hc 6 (by decide)).2.1
  have z0 : ∀ y ∈ d.hs, sizeC y.ws = 0 := fun y hy => by
    obtain ⟨n, hn, e⟩ := mem (f := HeadD.ws) hy
    have := (chk_zero hc 0 (by decide)).2.2 n hn
    rw [← e []]; exact this
  have z2 : ∀ y ∈ d.ss, ∃ n, stateC d.p n y.p = 0 := fun y hy => by
    obtain ⟨n, hn, e⟩ := mem (f := StateD.p) hy
    have := (chk_zero hc 2 (by decide)).2.2 n hn
    exact ⟨n, by rw [← e PState.z]; exact this⟩
  have z3 : ∀ y ∈ d.al, actC d.p y.p = 0 := fun y hy => by
    obtain ⟨n, hn, e⟩ := mem (f := ActD.p) hy
    have := (chk_zero hc 3 (by decide)).2.2 n hn
    rw [← e PAct.z]; exact this
  have z4 : ∀ y ∈ d.ts, tabC d.p y.p = 0 := fun y hy => by
    obtain ⟨n, hn, e⟩ := mem (f := TabD.p) hy
    have := (chk_zero hc 4 (by decide)).2.2 n hn
    rw [← e PTab.z]; exact this
  have z5 : ∀ y ∈ d.ns, ∃ n, nodeC d.p n y.p = 0 := fun y hy => by
    obtain ⟨n, hn, e⟩ := mem (f := NodeD.p) hy
    have := (chk_zero hc 5 (by decide)).2.2 n hn
    exact ⟨n, by rw [← e PNode.z]; exact this⟩
  have hd8 : ∀ y ∈ d.hs, y.ws.length ≤ 8 ∧ ∀ x ∈ y.ws, 1 ≤ x ∧ x ≤ 48 := fun y hy => by
    have := z0 y hy
    unfold sizeC at this
    split at this
    · cases this
    split at this
    · rename_i hfit
      refine ⟨by omega, fun x hx => ?_⟩
      obtain ⟨i, hi, rfl⟩ := List.getElem_of_mem hx
      have := hfit i hi
      unfold Mth.Fit at this
      rw [List.getD_eq_getElem?_getD, List.getElem?_eq_getElem hi] at this
      exact this
    · cases this
  have t : d.p.tight := ⟨by omega, fun l hl' => by obtain ⟨y, hy, rfl⟩ := List.mem_map.1 hl'; exact (hd8 y hy).1, by omega⟩
  have m1 := hl.ms.1
  have m6 := hl.os.1
  simp only [PlanD.p, List.length_map] at n0 n1 n2 n3 n4 n5 n6
  have e0 := hl.hs.1
  have e2 := hl.ss.1
  have e3 := hl.al.1
  have e4 := hl.ts.1
  have e5 := hl.ns.1
  have a0 := flatL_len (f := headL) (b := 9) (L := d.hs) fun y hy => wids_one (hd8 y hy).2 8 (hd8 y hy).1 (by decide)
  have a1 : (intsL d.ms).length ≤ 41 := by
    have := flatL_len (f := numL) (b := 10) (L := d.ms) fun y hy => num_ten (hl.ms.2.1 y hy)
    have hc := cnt_one (n := d.ms.length) (by omega)
    unfold intsL
    rw [List.length_append, hc]
    omega
  have a2 := flatL_len (f := stateL) (b := 161) (L := d.ss) fun y hy => by obtain ⟨g, o, hp⟩ := qmem hl.ss y hy; obtain ⟨n, hn⟩ := z2 y hy; exact state_161 hp hn
  have w3 : ∀ y ∈ d.al, (actL y).length ≤ 555 ∧ y.ws.length ≤ 3 := fun y hy => by obtain ⟨g, o, hp⟩ := qmem hl.al y hy; exact act_555 t hp (z3 y hy)
  have a3 := flatL_len (f := actL) (b := 555) (L := d.al) fun y hy => (w3 y hy).1
  have a4 := flatL_len (f := tabL) (b := 163) (L := d.ts) fun y hy => by
    obtain ⟨g, o, hp⟩ := qmem hl.ts y hy
    exact tab_163 (fun a ha => by obtain ⟨y, hy, rfl⟩ := List.mem_map.1 ha; exact (w3 y hy).2) hp (z4 y hy)
  have a5 := flatL_len (f := nodeL) (b := 110) (L := d.ns) fun y hy => by obtain ⟨g, o, hp⟩ := qmem hl.ns y hy; obtain ⟨n, hn⟩ := z5 y hy; exact node_110 t hp hn
  have a6 : (intsL d.os).length ≤ 61 := by
    have := flatL_len (f := numL) (b := 10) (L := d.os) fun y hy => num_ten (hl.os.2.1 y hy)
    have hc := cnt_one (n := d.os.length) (by omega)
    unfold intsL
    rw [List.length_append, hc]
    omega
  have c0 := cnt_one (n := d.heads.n) (by omega)
  have c2 := cnt_one (n := d.states.n) (by omega)
  have c3 := cnt_one (n := d.acts.n) (by omega)
  have c4 := cnt_one (n := d.tabs.n) (by omega)
  have c5 := cnt_one (n := d.nodes.n) (by omega)
  unfold bodyL planL
  simp only [List.length_append, List.length_cons, List.length_nil]
  omega
end Go.Proofs.YtedeiaokohdhpaaGreat
