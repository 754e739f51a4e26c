/- Texts of one chain, joined: FMath, FAsk, FGo, FOver. -/
import Derived.Test.YtajelgjbgehahaaGreatVWPar
import Derived.Test.YtajelgjbgehahaaGreatJF1
import Derived.StillTailTactics
namespace Go.Proofs.YtajelgjbgehahaaGreat
open Go.RowKit

/-! what plan.Check has let by -/

structure NodeOk (p : PPlan) (i : Nat) (x : PNode) : Prop where
  kind : x.kind = 1 ∨ x.kind = 2 ∨ x.kind = 3 ∨ x.kind = 4
  yes : (i : Int) < x.yes ∧ x.yes ≤ (p.ns.length : Int)
  no : (x.kind = 3 ∨ x.kind = 4) → (i : Int) < x.no ∧ x.no ≤ (p.ns.length : Int)
  tab : x.kind = 1 → 0 ≤ x.n ∧ x.n < (p.ts.length : Int)
  act : x.kind = 2 → 0 ≤ x.n ∧ x.n < (p.al.length : Int)
  tree : x.kind = 3 → treeC p x.es [] = 0
  hd : x.kind = 4 → 0 ≤ x.n ∧ x.n < (p.hs.length : Int)
  noarg : x.kind = 2 → (p.al.getD x.n.toNat PAct.z).ws = []

theorem numC_zero {m : Nat} {k : Int} (h : numC m k = 0) : 0 ≤ k ∧ k < (m : Int) := by
  unfold numC at h
  by_cases e : 0 ≤ k ∧ k < (m : Int)
  · exact e
  · rw [if_neg e] at h; exact absurd h (by decide)

theorem stepC_zero {m i : Nat} {tz : Int} (h : stepC m i tz = 0) : (i : Int) < tz ∧ tz ≤ (m : Int) := by
  unfold stepC at h
  by_cases e : tz < 0 ∨ (m : Int) < tz
  · rw [if_pos e] at h; exact absurd h (by decide)
  · rw [if_neg e] at h
    by_cases e2 : tz ≤ (i : Int)
    · rw [if_pos e2] at h; exact absurd h (by decide)
    · omega

theorem node_ok {p : PPlan} (h : (chkP p).1 = 0) {i : Nat} (hi : i < p.ns.length) : NodeOk p i (p.ns.getD i PNode.z) := by
  have hc : nodeC p i (p.ns.getD i PNode.z) = 0 := (chk_zero h 5 (by decide)).2.2 i hi
  generalize p.ns.getD i PNode.z = x at *
  unfold nodeC at hc
  obtain ⟨h1, h2⟩ := or2_zero hc
  have hst := firstC_zero h2
  have hy : stepC p.ns.length i x.yes = 0 := hst _ (List.mem_map.2 ⟨x.yes, by split <;> simp, rfl⟩)
  have hn : (x.kind = 3 ∨ x.kind = 4) → stepC p.ns.length i x.no = 0 := fun e => hst _ (List.mem_map.2 ⟨x.no, by rw [if_pos e]; simp, rfl⟩)
  unfold useC at h1
  have hdo : x.kind = 2 → doC p x.n = 0 := fun e => by rw [if_neg (by omega), if_pos e] at h1; exact h1
  have hda : x.kind = 2 → (0 ≤ x.n ∧ x.n < (p.al.length : Int)) ∧ (p.al.getD x.n.toNat PAct.z).ws = [] := fun e => by
    have := hdo e
    unfold doC at this
    by_cases e1 : 0 ≤ x.n ∧ x.n < (p.al.length : Int)
    · rw [if_pos e1] at this
      refine ⟨e1, ?_⟩
      by_cases e2 : 0 < (p.al.getD x.n.toNat ⟨[], []⟩).ws.length
      · rw [if_pos e2] at this; exact absurd this (by decide)
      · exact List.eq_nil_of_length_eq_zero (by show (p.al.getD x.n.toNat ⟨[], []⟩).ws.length = 0; omega)
    · rw [if_neg e1] at this; exact absurd this (by decide)
  refine ⟨?_, stepC_zero hy, fun e => stepC_zero (hn e), fun e => ?_, fun e => (hda e).1, fun e => ?_, fun e => ?_, fun e => (hda e).2⟩
  · by_cases e1 : x.kind = 1
    · exact .inl e1
    by_cases e2 : x.kind = 2
    · exact .inr (.inl e2)
    by_cases e3 : x.kind = 3
    · exact .inr (.inr (.inl e3))
    by_cases e4 : x.kind = 4
    · exact .inr (.inr (.inr e4))
    rw [if_neg e1, if_neg e2, if_neg e3, if_neg e4] at h1
    exact absurd h1 (by decide)
  · rw [if_pos e] at h1
    exact numC_zero h1
  · rw [if_neg (by omega), if_neg (by omega), if_pos e] at h1
    exact h1
  · rw [if_neg (by omega), if_neg (by omega), if_neg (by omega), if_pos e] at h1
    exact numC_zero h1

theorem width_six {p : PPlan} (hc : (chkP p).1 = 0) {r : RefD} {zs : List Int} (hw : p.width r zs ≠ 0) : r.h < 6 := by
  have e6 : (p.hs.length : Int) ≤ 6 := (chk_zero hc 0 (by decide)).2.1
  refine Decidable.byContradiction fun hn => hw ?_
  unfold PPlan.width PPlan.fields
  rw [if_neg (show ¬ r.h = -1 by omega), if_neg (show ¬ r.h = -2 by omega), if_neg (show ¬ r.h = -3 by omega), if_pos (show r.h < 0 ∨ (p.hs.length : Int) ≤ r.h by omega)]
  rw [if_pos (by simp; omega)]

theorem treeGo_zero {p : PPlan} {zs : List Int} : ∀ {es : List PushD} {left : Int}, treeGo p zs es left = 0 → ∀ x ∈ es, x.op = 2 → p.width x.r zs ≠ 0
  | [], _, _, x, hx, _ => absurd hx List.not_mem_nil
  | y :: es, left, h, x, hx, ho => by
    unfold treeGo at h
    by_cases e1 : takesC y.op < 0 ∨ left < takesC y.op
    · rw [if_pos e1] at h; exact absurd h (by decide)
    rw [if_neg e1] at h
    by_cases e2 : y.op = 2 ∧ p.width y.r zs = 0
    · rw [if_pos e2] at h; exact absurd h (by decide)
    rw [if_neg e2] at h
    rcases List.mem_cons.1 hx with rfl | hx
    · exact fun e => e2 ⟨ho, e⟩
    · exact treeGo_zero h x hx ho

theorem treeC_zero {p : PPlan} {zs : List Int} {es : List PushD} (h : treeC p es zs = 0) : es.length ≤ 8 ∧ ∀ x ∈ es, x.op = 2 → p.width x.r zs ≠ 0 := by
  unfold treeC at h
  by_cases e : 8 < es.length
  · rw [if_pos e] at h; exact absurd h (by decide)
  · rw [if_neg e] at h
    exact ⟨by omega, treeGo_zero h⟩

structure TabOk (p : PPlan) (t : PTab) : Prop where
  few : t.ks.length ≤ 3
  keys : ∀ r ∈ t.ks, p.width r [] ≠ 0
  acts : ∀ k ∈ t.al, 0 ≤ k ∧ k < (p.al.length : Int)
  afew : t.al.length ≤ 4
  store : storeC t (t.ks.map (fun r => p.width r [])) p.al = 0

theorem inC_true {lo hi : Int} {l : List Int} (h : InC lo hi l = true) : ∀ k ∈ l, lo ≤ k ∧ k ≤ hi := by
  intro k hk
  unfold InC at h
  have := List.all_eq_true.1 h k hk
  simpa using this

theorem tab_ok {p : PPlan} (h : (chkP p).1 = 0) {i : Nat} (hi : i < p.ts.length) : TabOk p (p.ts.getD i PTab.z) := by
  have hc : tabC p (p.ts.getD i PTab.z) = 0 := (chk_zero h 4 (by decide)).2.2 i hi
  generalize p.ts.getD i PTab.z = t at *
  unfold tabC at hc
  by_cases h1 : 3 < t.ks.length
  · rw [if_pos h1] at hc; exact absurd hc (by decide)
  rw [if_neg h1] at hc
  by_cases h2 : (0 : Int) ∈ t.ks.map (fun r => p.width r [])
  · rw [if_pos h2] at hc; exact absurd hc (by decide)
  rw [if_neg h2] at hc
  have hs := hc
  unfold storeC at hc
  by_cases e1 : isK t.kind = false
  · rw [if_pos e1] at hc; exact absurd hc (by decide)
  rw [if_neg e1] at hc
  by_cases e2 : InC 1 (mostK t.kind) [((t.ks.map (fun r => p.width r [])).length : Int)] = false ∨ InC 1 4 [(t.al.length : Int)] = false
  · rw [if_pos e2] at hc; exact absurd hc (by decide)
  rw [if_neg e2] at hc
  by_cases e3 : InC 0 16 [t.cap] = false
  · rw [if_pos e3] at hc; exact absurd hc (by decide)
  rw [if_neg e3] at hc
  by_cases e4 : InC 1 48 (t.ks.map (fun r => p.width r [])) = false
  · rw [if_pos e4] at hc; exact absurd hc (by decide)
  rw [if_neg e4] at hc
  by_cases e5 : InC 0 ((p.al.length : Int) - 1) t.al = false
  · rw [if_pos e5] at hc; exact absurd hc (by decide)
  refine ⟨by omega, fun r hr e => h2 (List.mem_map.2 ⟨r, hr, e⟩), fun k hk => ?_, ?_, hs⟩
  · have := inC_true (by simpa using e5) k hk
    omega
  · have := inC_true (l := [(t.al.length : Int)]) (lo := 1) (hi := 4) (by
      cases h4 : InC 1 4 [(t.al.length : Int)] with
      | true => rfl
      | false => exact absurd (.inr h4) e2) _ List.mem_cons_self
    omega

structure ActOk (p : PPlan) (a : PAct) : Prop where
  few : a.ws.length ≤ 3 ∧ a.os.length ≤ 5
  deed : ∀ o ∈ a.os, deedC p a.ws o = 0
  wid : ∀ x ∈ a.ws, 1 ≤ x ∧ x ≤ 48

theorem act_ok {p : PPlan} (h : (chkP p).1 = 0) {i : Nat} (hi : i < p.al.length) : ActOk p (p.al.getD i PAct.z) := by
  have hc : actC p (p.al.getD i PAct.z) = 0 := (chk_zero h 3 (by decide)).2.2 i hi
  generalize p.al.getD i PAct.z = a at *
  unfold actC at hc
  by_cases h1 : 3 < a.ws.length ∨ 5 < a.os.length
  · rw [if_pos h1] at hc; exact absurd hc (by decide)
  rw [if_neg h1] at hc
  obtain ⟨h2, h3⟩ := or2_zero hc
  refine ⟨by omega, fun o ho => firstC_zero h3 _ (List.mem_map.2 ⟨o, ho, rfl⟩), fun x hx => ?_⟩
  have := firstC_zero h2 _ (List.mem_map.2 ⟨x, hx, rfl⟩)
  unfold widC at this
  by_cases e : x < 1 ∨ 48 < x
  · rw [if_pos e] at this; exact absurd this (by decide)
  · omega

/-- what a deed that is let by asks of headers -/
structure DeedFit (p : PPlan) (ws : List Int) (o : POp) : Prop where
  kind : 1 ≤ o.kind ∧ o.kind ≤ 6
  tree : o.kind = 1 ∨ o.kind = 5 → treeC p o.es ws = 0
  ref : o.kind = 1 ∨ o.kind = 6 → o.r.h ≠ -3 ∧ p.width o.r [] ≠ 0
  head : o.kind = 2 ∨ o.kind = 3 ∨ o.kind = 6 → 0 ≤ o.head ∧ o.head < (p.hs.length : Int)

theorem target_zero {p : PPlan} {r : RefD} (h : targetC p r = 0) : r.h ≠ -3 ∧ p.width r [] ≠ 0 := by
  unfold targetC at h
  by_cases e : r.h = -3 ∨ p.width r [] = 0
  · rw [if_pos e] at h; exact absurd h (by decide)
  · exact ⟨fun h => e (.inl h), fun h => e (.inr h)⟩

theorem deed_fit {p : PPlan} {ws : List Int} {o : POp} (h : deedC p ws o = 0) : DeedFit p ws o := by
  unfold deedC at h
  by_cases e1 : o.kind = 1
  · rw [if_pos e1] at h
    obtain ⟨h1, h2⟩ := or2_zero h
    exact ⟨by omega, fun _ => h2, fun _ => target_zero h1, fun e => by omega⟩
  rw [if_neg e1] at h
  by_cases e2 : o.kind = 2 ∨ o.kind = 3
  · rw [if_pos e2] at h
    exact ⟨by omega, fun e => by omega, fun e => by omega, fun _ => numC_zero h⟩
  rw [if_neg e2] at h
  by_cases e4 : o.kind = 4
  · exact ⟨by omega, fun e => by omega, fun e => by omega, fun e => by omega⟩
  rw [if_neg e4] at h
  by_cases e5 : o.kind = 5
  · rw [if_pos e5] at h
    exact ⟨by omega, fun _ => h, fun e => by omega, fun e => by omega⟩
  rw [if_neg e5] at h
  by_cases e6 : o.kind = 6
  · rw [if_pos e6] at h
    obtain ⟨h1, h2⟩ := or2_zero h
    exact ⟨by omega, fun e => by omega, fun _ => target_zero h1, fun _ => numC_zero h2⟩
  rw [if_neg e6] at h
  exact absurd h (by decide)

/-- the deeds of an action that is there -/
theorem ops_fit {p : PPlan} (h : (chkP p).1 = 0) {k : Int} (hk : 0 ≤ k ∧ k < (p.al.length : Int)) : ∀ o ∈ opsAt p k, DeedFit p (p.al.getD k.toNat PAct.z).ws o := fun o ho =>
  deed_fit ((act_ok h (i := k.toNat) (by omega)).deed o ho)

theorem deed_six {p : PPlan} (hc : (chkP p).1 = 0) {ws : List Int} {o : POp} (h : DeedFit p ws o) : DeedSix o := by
  have h6 : (p.hs.length : Int) ≤ 6 := (chk_zero hc 0 (by decide)).2.1
  refine ⟨h.kind, fun e => width_six hc (h.ref e).2, fun e x hx h2 => width_six hc ((treeC_zero (h.tree e)).2 x hx h2), fun e => (treeC_zero (h.tree e)).1, fun e => ?_⟩
  have := h.head e
  omega

theorem six_ops {p : PPlan} (h : (chkP p).1 = 0) {k : Int} (hk : 0 ≤ k ∧ k < (p.al.length : Int)) : HeadsSix (opsAt p k) := fun o ho e => by
  have h6 : (p.hs.length : Int) ≤ 6 := (chk_zero h 0 (by decide)).2.1
  have := (ops_fit h hk o ho).head (by omega)
  omega

theorem yesN_lt {p : PPlan} (h : (chkP p).1 = 0) {s i : Nat} {x : PNode} (hs : s < 2 ^ 64) (ho : NodeOk p i x) : yesN p s x < 2 ^ 64 := by
  unfold yesN
  by_cases e1 : x.kind = 1
  · rw [if_pos e1]; exact andActs_lt _
  rw [if_neg e1]
  by_cases e2 : x.kind = 2
  · rw [if_pos e2]
    exact actTo_lt hs (six_ops h (ho.act e2))
  rw [if_neg e2]
  by_cases e3 : x.kind = 3
  · rw [if_pos e3]; exact hs
  rw [if_neg e3]
  have h6 : (p.hs.length : Int) ≤ 6 := (chk_zero h 0 (by decide)).2.1
  have := ho.hd (by have := ho.kind; omega)
  exact Nat.or_lt_two_pow hs (bitN_lt64 (by omega))

theorem noN_lt {s : Nat} {x : PNode} (hs : s < 2 ^ 64) : noN s x < 2 ^ 64 := by
  unfold noN
  split
  · exact sub_le64 hs
  · exact hs

theorem contN_far {p : PPlan} {s i j : Nat} {x : PNode} (ho : NodeOk p i x) (hj : j ≤ i) : contN p s x j = onesN := by
  unfold contN
  by_cases e : s = onesN
  · rw [if_pos e]
  rw [if_neg e, if_neg (by have := ho.yes; omega), if_neg (by rintro ⟨h1, h2⟩; have := ho.no h1; omega)]
  rfl

theorem SN_next {p : PPlan} (h : (chkP p).1 = 0) {st : Nat} (hs : st < 2 ^ 64) {m j : Nat} (hm : m < p.ns.length) (hj : j ≤ m) : SN p st (m + 1) j = SN p st m j := by
  show SN p st m j &&& contN p (SN p st m m) (p.ns.getD m PNode.z) j = _
  rw [contN_far (node_ok h hm) hj, and_ones (SN_lt hs m j)]

theorem SN_fix {p : PPlan} (h : (chkP p).1 = 0) {st : Nat} (hs : st < 2 ^ 64) {j : Nat} : ∀ {m : Nat}, m ≤ p.ns.length → j ≤ m → SN p st m j = SN p st j j
  | 0, _, hj => by obtain rfl : j = 0 := by omega
                   rfl
  | m + 1, hm, hj => by
    by_cases e : j = m + 1
    · subst e; rfl
    · rw [SN_next h hs (by omega) (by omega)]
      exact SN_fix h hs (by omega) (by omega)

/-- what is told at last -/
def flowL (p : PPlan) (st : Nat) : List Int := (List.range (p.ns.length + 1)).map fun j => ((SN p st j j : Nat) : Int)

/-- what lies there when m nodes were gone over -/
def flowA (p : PPlan) (st : Nat) (m : Nat) : List Nat := (List.range (p.ns.length + 1)).map fun j => SN p st m j

theorem flowA_end {p : PPlan} (h : (chkP p).1 = 0) {st : Nat} (hs : st < 2 ^ 64) : (flowA p st p.ns.length).map (fun (n : Nat) => (n : Int)) = flowL p st := by
  unfold flowA flowL
  rw [List.map_map]
  refine List.map_congr_left fun j hj => ?_
  have := List.mem_range.1 hj
  show ((SN p st p.ns.length j : Nat) : Int) = _
  rw [SN_fix h hs (Nat.le_refl _) (by omega)]

/-- is something read at a node that is not surely there? -/
def badAt (p : PPlan) (st : Nat) (i : Nat) : Prop := SN p st i i ≠ onesN ∧ nodeOk p (SN p st i i) (p.ns.getD i PNode.z) = false

def FirstF (p : PPlan) (st : Nat) (C A : Int) : Prop :=
  (∃ i, i < p.ns.length ∧ badAt p st i ∧ (∀ j, j < i → ¬ badAt p st j) ∧ C = 12 ∧ A = 6000 + i) ∨ ((∀ j, j < p.ns.length → ¬ badAt p st j) ∧ C = 0 ∧ A = 0)

theorem firstF_one {p : PPlan} {st : Nat} {C A C' A' : Int} (h : FirstF p st C A) (h' : FirstF p st C' A') : C = C' ∧ A = A' := by
  rcases h with ⟨n, hn, hc, hj, rfl, rfl⟩ | ⟨hz, rfl, rfl⟩
  · rcases h' with ⟨n', hn', hc', hj', rfl, rfl⟩ | ⟨hz', rfl, rfl⟩
    · have : n = n' := by
        rcases Nat.lt_trichotomy n n' with h | h | h
        · exact absurd hc (hj' n h)
        · exact h
        · exact absurd hc' (hj n' h)
      subst this
      exact ⟨rfl, rfl⟩
    · exact absurd hc (hz' n hn)
  · rcases h' with ⟨n', hn', hc', hj', rfl, rfl⟩ | ⟨hz', rfl, rfl⟩
    · exact absurd hc' (hz n' hn')
    · exact ⟨rfl, rfl⟩
end Go.Proofs.YtajelgjbgehahaaGreat

namespace Go.Proofs.YtajelgjbgehahaaGreat
open Go.RowKit

theorem andActs_take {p : PPlan} {s : Nat} {l : List Int} {j : Nat} {k : Int} (h : l[j]? = some k) : andActs p s (l.take (j + 1)) = andActs p s (l.take j) &&& actTo s (opsAt p k) := by
  unfold andActs
  rw [List.take_add_one, h]
  simp

/-- an action that is there -/
theorem act_at {d : PlanD} {w : World} (hl : d.lie w) {k : Int} (hk : 0 ≤ k ∧ k < (d.p.al.length : Int)) : ∃ (n : Nat) (a : ActD), k = (n : Int) ∧ n < d.acts.n ∧ d.al[n]? = some a ∧ opsAt d.p k = a.p.os := by
  have en : d.p.al.length = d.acts.n := by simp [PlanD.p, hl.al.1]
  have hlt : k.toNat < d.al.length := by rw [hl.al.1]; omega
  refine ⟨k.toNat, d.al[k.toNat], by omega, by omega, List.getElem?_eq_getElem hlt, ?_⟩
  unfold opsAt PlanD.p
  simp only [List.getD_eq_getElem?_getD, List.getElem?_map, List.getElem?_eq_getElem hlt, Option.map_some, Option.getD_some]

theorem six_at {d : PlanD} (hc : (chkP d.p).1 = 0) {k : Int} (hk : 0 ≤ k ∧ k < (d.p.al.length : Int)) : (∀ o ∈ opsAt d.p k, DeedSix o) ∧ (opsAt d.p k).length ≤ 5 :=
  ⟨fun o ho => deed_six hc (ops_fit hc hk o ho), (act_ok hc (i := k.toNat) (by omega)).few.2⟩

/-- do, of an action by its number -/
theorem fdo_num (d : PlanD) (x : NodeD) (s y c : Nat) (k : Int) {g m : Nat} {A : List Nat} {w : World} (hl : d.lie w) (hc : (chkP d.p).1 = 0) (ha : AhU g A w) (hy : x.yes = (y : Int)) (hym : y < m) (hA : A[y]? = some c) (hcl : c < 2 ^ 64) (hs : s < 2 ^ 64) (hk : 0 ≤ k ∧ k < (d.p.al.length : Int)) :
    Calls Tryz.prog 107 #[fvisV d g m x s, .int .i64 k] w (DoF g (actOk s (opsAt d.p k)) (A.set y (c &&& actTo s (opsAt d.p k))) w) := by
  obtain ⟨n, a, rfl, hn, hx, e⟩ := act_at hl hk
  have h6 := six_at hc hk
  rw [e] at h6 ⊢
  exact fdo_any d x s n y c a hl ha hy hym hA hcl hs hn hx h6.1 h6.2

theorem set_same {A : List Nat} {y c : Nat} (h : A[y]? = some c) : A.set y c = A := by
  obtain ⟨hl, e⟩ := List.getElem?_eq_some_iff.1 h
  rw [← e, List.set_getElem_self]

@[reducible] def tabV (t : TabD) : Value := .agg #[.int .i64 t.kind, .slice t.keys.a t.keys.n t.keys.c, .slice t.acts.a t.acts.n t.acts.c, .int .i64 t.cap, .int .i64 t.dflt, .slice t.args.a t.args.n t.args.c]

set_option maxHeartbeats 16000000 in
set_option maxRecDepth 20000 in
theorem fask_any (d : PlanD) (x : NodeD) (t : TabD) (s y c : Nat) {g m : Nat} {A : List Nat} {w : World} (hc : (chkP d.p).1 = 0) (ha : AhU g A w) (hlg : ∀ w', But g w w' → d.lie w') (hy : x.yes = (y : Int)) (hym : y < m) (hA : A[y]? = some c) (hcl : c < 2 ^ 64) (hs : s < 2 ^ 64) (ho : TabOk d.p t.p) (hk : QRow 2 RefD.lie w t.keys t.ks) (hac : Has .i64 w t.acts.a t.acts.n t.al) (hacg : ∀ w', But g w w' → Has .i64 w' t.acts.a t.acts.n t.al) :
    Calls Tryz.prog 106 #[fvisV d g m x s, tabV t] w (DoF g (keysN s t.ks && t.al.all (fun k => actOk s (opsAt d.p k))) (A.set y (c &&& andActs d.p s t.al)) w) := by
  obtain ⟨W1, hW⟩ : ∃ W1, W1 = w.alloc (.cells (fvisA d g m x s) 177) := ⟨_, rfl⟩
  obtain ⟨b, hb⟩ : ∃ b, b = w.heap.size := ⟨_, rfl⟩
  obtain ⟨W2, hW2⟩ : ∃ W2, W2 = W1.alloc (.cells #[.int .i64 t.kind, .slice t.keys.a t.keys.n t.keys.c, .slice t.acts.a t.acts.n t.acts.c, .int .i64 t.cap, .int .i64 t.dflt, .slice t.args.a t.args.n t.args.c] 55) := ⟨_, rfl⟩
  obtain ⟨b', hb'⟩ : ∃ b', b' = w.heap.size + 1 := ⟨_, rfl⟩
  have s1 : W1.heap.size = b' := by rw [hW, hb']; simp
  have b1 : Below w.heap.size w W1 := by rw [hW]; exact bl_alloc (Below.refl _ _)
  have b2 : Below W1.heap.size W1 W2 := by rw [hW2]; exact bl_alloc (Below.refl _ _)
  have hv1 : VisF d g m x s b W1 := by rw [hW, hb]; exact visF_new d g m x s w
  have hv2 := hv1.step b2
  have c1 : W2.cell? ⟨b', 1, none⟩ = some (.slice t.keys.a t.keys.n t.keys.c) := by rw [hW2, ← s1]; exact (World.cell?_alloc_at _ _ _ _ rfl).trans rfl
  have c2 : W2.cell? ⟨b', 2, none⟩ = some (.slice t.acts.a t.acts.n t.acts.c) := by rw [hW2, ← s1]; exact (World.cell?_alloc_at _ _ _ _ rfl).trans rfl
  obtain ⟨_, _, _, _, _, _, z13⟩ := hv2.all
  have bb := bl_step b1 b2
  have hgl := ha.lt
  have hgb : b ≠ g := by omega
  have hgb' : b' ≠ g := by omega
  have h4 : t.acts.n ≤ 4 := by have := ho.afew; have h2 := hac.1; simp only [TabD.p] at this; omega
  have HK : Hid (Calls Tryz.prog 135 #[.int .u64 (s : Int), .slice t.keys.a t.keys.n t.keys.c] W2 fun q w' => q = .returned (.bool (keysN s t.ks)) ∧ Below W2.heap.size W2 w') := fkeys_any s t.keys t.ks W2 hs (hk.step RefD.keeps bb) (fun r hr => width_six hc (ho.keys r hr)) (by have := ho.few; have h2 := hk.1; simp only [TabD.p] at this; omega)
  have HAC : Hid (∀ k ∈ t.al, 0 ≤ k ∧ k < (d.p.al.length : Int)) := fun k hk => ho.acts k hk
  have HDO : Hid (∀ (w' : World) (k : Int) (c' : Nat) (A' : List Nat), But g w w' → AhU g A' w' → A'[y]? = some c' → c' < 2 ^ 64 → k ∈ t.al → Calls Tryz.prog 107 #[fvisV d g m x s, .int .i64 k] w' (DoF g (actOk s (opsAt d.p k)) (A'.set y (c' &&& actTo s (opsAt d.p k))) w')) := fun w' k c' A' h1 h2 h3 h4 h5 => fdo_num d x s y c' k (hlg w' h1) hc h2 hy hym h3 h4 hs (ho.acts k h5)
  have HA := hid ha
  have HAY := hid hA
  have HCL := hid hcl
  have HBB := hid bb
  have HV2 := hid hv2
  have HGL := hid hgl
  have HAG := hid hacg
  have HEF : Hid (∀ w', But g w w' → (keysN s t.ks && t.al.all (fun k => actOk s (opsAt d.p k))) = false → DoF g (keysN s t.ks && t.al.all (fun k => actOk s (opsAt d.p k))) (A.set y (c &&& andActs d.p s t.al)) w (.returned (.bool false)) w') := fun w' h e => by
    refine ⟨by rw [e], h, fun h => ?_⟩
    rw [e] at h; cases h
  have HET : Hid (∀ w', But g w w' → (keysN s t.ks && t.al.all (fun k => actOk s (opsAt d.p k))) = true → AhU g (A.set y (c &&& andActs d.p s t.al)) w' → DoF g (keysN s t.ks && t.al.all (fun k => actOk s (opsAt d.p k))) (A.set y (c &&& andActs d.p s t.al)) w (.returned (.bool true)) w') := fun w' h e h2 => ⟨by rw [e], h, fun _ => h2⟩
  have EW := hid hW
  have EW2 := hid hW2
  have EB := hid hb
  have EB' := hid hb'
  have hal := hac.1
  clear hc ha hlg hy hym hA hcl hs ho hk hac hacg hW hb hW2 hb' s1 b1 b2 hv1 hv2 bb hgl
  generalize keysN s t.ks = KB at *
  cases KB with
  | false =>
    clear HDO HET HAC HV2
    go_enter Tryz.func106, Tryz.ntmps106
    go_wp2_with fail
    rw [← EW.out, ← EW2.out]
    refine HK.out.mono ?_
    rintro e w1 ⟨rfl, hb1⟩
    have HE := hid (HEF.out w1 (But.of (bl_step HBB.out hb1) (Nat.le_of_lt HGL.out)) rfl)
    clear HK HEF hb1 EW EW2 c1 c2 z13
    go_wp2
    go_ret
    exact HE.out
  | true =>
    obtain ⟨ea, ee⟩ : ∃ ea, t.acts.a = ea := ⟨_, rfl⟩
    have EE := hid ee
    rw [ee] at c2
    clear ee
    go_enter Tryz.func106, Tryz.ntmps106
    go_wp2_with fail
    rw [← EW.out, ← EW2.out]
    refine HK.out.mono ?_
    rintro e w1 ⟨rfl, hb1⟩
    have d2 := cell_keep c2 hb1
    have HV3 := hid (HV2.out.step hb1)
    have B3 := hid (bl_step HBB.out hb1)
    have HA3 : Hid (AhU g (A.set y (c &&& andActs d.p s (t.al.take 0))) w1) := by
      show AhU g _ w1
      have : andActs d.p s (t.al.take 0) = onesN := rfl
      rw [this, and_ones HCL.out, set_same HAY.out]
      exact HA.out.step B3.out
    have HG3 : Hid (b < w1.heap.size) := World.block_lt_of_cell? _ _ (HV3.out 0 _ rfl)
    clear HK hb1 c1 c2 z13 HV2 EW EW2 HA HBB
    rw [← EB'.out, ← EB.out]
    go_wp2
    go_loopw [16, 6] (fun qv _ wr => ∃ j : Nat, j ≤ t.acts.n ∧ qv = .int .i64 j ∧ Hid (t.al.all (fun k => actOk s (opsAt d.p k)) = (t.al.drop j).all (fun k => actOk s (opsAt d.p k))) ∧ Hid (AhU g (A.set y (c &&& andActs d.p s (t.al.take j))) wr) ∧ Hid (But g w1 wr)) (fun qv _ _ => t.acts.n - (intOf qv).toNat)
    case atStart => exact ⟨0, Nat.zero_le _, rfl, rfl, HA3, But.refl _ _⟩
    case round =>
      obtain ⟨j, hj, rfl, HN, HAJ, HBJ⟩ := hrel
      have HBW : Hid (But g w wr) := (But.of B3.out (Nat.le_of_lt HGL.out)).trans HBJ.out
      by_cases hlt : j < t.acts.n
      · have hji : (j : Int) < (t.acts.n : Int) := by omega
        have hj0 : (0 : Int) ≤ (j : Int) := by omega
        obtain ⟨kg, ko, ea', _, hcells⟩ := (HAG.out wr HBW.out).some (by omega)
        obtain rfl : ea = some ⟨kg, ko, none⟩ := by rw [← EE.out]; exact ea'
        have ck := hcells j hlt
        have hkj : t.al[j]? = some (t.al.getD j 0) := by
          rw [List.getD_eq_getElem?_getD, List.getElem?_eq_getElem (by omega)]; rfl
        have HYL : Hid (y < A.length) := (List.getElem?_eq_some_iff.1 HAY.out).1
        generalize t.al.getD j 0 = k at *
        have HD1 := hid (HDO.out wr k _ _ HBW.out HAJ.out (List.getElem?_set_self HYL.out) (and_lt64 HCL.out) (List.mem_of_getElem? hkj))
        have HN1 : Hid (t.al.all (fun k => actOk s (opsAt d.p k)) = (actOk s (opsAt d.p k) && (t.al.drop (j + 1)).all (fun k => actOk s (opsAt d.p k)))) := by show _ = _; rw [HN.out]; exact all_drop hkj
        have HS1 : Hid ((A.set y (c &&& andActs d.p s (t.al.take j))).set y ((c &&& andActs d.p s (t.al.take j)) &&& actTo s (opsAt d.p k)) = A.set y (c &&& andActs d.p s (t.al.take (j + 1)))) := by
          show _ = _
          rw [List.set_set, andActs_take hkj, Nat.and_assoc]
        rw [HS1.out] at HD1
        obtain ⟨⟨y0, y1, y2, y3, y4, y5, y6, y7⟩, y8, y9, y10, y11, y12, y13⟩ := (HV3.out.but HBJ.out hgb).all
        clear hcells hkj HN ea' HAJ HS1
        generalize actOk s (opsAt d.p k) = B at *
        unfold fvisV at HD1
        go_wp2_with fail
        refine HD1.out.mono ?_
        rintro e w2 ⟨rfl, hb2, ha2⟩
        have HB2 := hid (HBJ.out.trans hb2)
        have HBW2 := hid (HBW.out.trans hb2)
        clear HD1 y0 y1 y2 y3 y4 y5 y6 y7 y8 y9 y10 y11 y12 y13 ck HBW HBJ
        cases B with
        | true =>
          have HN2 : Hid (t.al.all (fun k => actOk s (opsAt d.p k)) = (t.al.drop (j + 1)).all (fun k => actOk s (opsAt d.p k))) := by show _ = _; rw [HN1.out, Bool.true_and]
          have HA2 := hid (ha2 rfl)
          clear HN1 ha2
          go_wp2
          go_roundw
          case rel => exact ⟨j + 1, by omega, by go_num, HN2, HA2, HB2⟩
          case measure => simp [intOf]; omega
        | false =>
          have HE := hid (HEF.out w2 HBW2.out (by rw [HN1.out]; rfl))
          clear HN1 ha2 HEF HET
          go_wp2
          go_ret
          exact HE.out
      · have hji : ¬ (j : Int) < (t.acts.n : Int) := by omega
        have HE : Hid (DoF g (true && t.al.all (fun k => actOk s (opsAt d.p k))) (A.set y (c &&& andActs d.p s t.al)) w (.returned (.bool true)) wr) := by
          refine HET.out wr HBW.out ?_ ?_
          · rw [HN.out, List.drop_of_length_le (by omega)]; rfl
          · have := HAJ.out
            rwa [List.take_of_length_le (by omega)] at this
        clear HN HAJ HBJ HBW HEF HET
        go_wp2
        go_ret
        exact HE.out
end Go.Proofs.YtajelgjbgehahaaGreat

namespace Go.Proofs.YtajelgjbgehahaaGreat
open Go.RowKit

def leadN (A : List Nat) (j v : Nat) : List Nat := A.set j (A.getD j 0 &&& v)

def nodeTo (p : PPlan) (s : Nat) (x : PNode) (A : List Nat) : List Nat :=
  if x.kind = 3 ∨ x.kind = 4 then leadN (leadN A x.yes.toNat (yesN p s x)) x.no.toNat (noN s x) else leadN A x.yes.toNat (yesN p s x)

theorem flowA_len (p : PPlan) (st m : Nat) : (flowA p st m).length = p.ns.length + 1 := by simp [flowA]

theorem flowA_at {p : PPlan} {st m j : Nat} (h : j ≤ p.ns.length) : (flowA p st m)[j]? = some (SN p st m j) := by
  unfold flowA
  rw [List.getElem?_map, List.getElem?_range (by omega)]
  rfl

theorem getD_at {A : List Nat} {j c : Nat} (h : A[j]? = some c) : A.getD j 0 = c := by rw [List.getD_eq_getElem?_getD, h]; rfl

theorem leadN_at {A : List Nat} {j v i c : Nat} (hi : A[i]? = some c) : (leadN A j v)[i]? = some (if j = i then c &&& v else c) := by
  unfold leadN
  rw [List.getElem?_set]
  by_cases e : j = i
  · subst e
    rw [if_pos rfl, if_pos (List.getElem?_eq_some_iff.1 hi).1, if_pos rfl, getD_at hi]
  · rw [if_neg e, if_neg e, hi]

theorem nodeTo_next {p : PPlan} (hc : (chkP p).1 = 0) {st m : Nat} (hst : st < 2 ^ 64) (hm : m < p.ns.length) (hs : SN p st m m ≠ onesN) : nodeTo p (SN p st m m) (p.ns.getD m PNode.z) (flowA p st m) = flowA p st (m + 1) := by
  have ho := node_ok hc hm
  have hlt := SN_lt (p := p) hst m m
  have hy := yesN_lt hc hlt ho
  have hn := noN_lt (x := p.ns.getD m PNode.z) hlt
  refine List.ext_getElem? fun j => ?_
  by_cases hj : j ≤ p.ns.length
  · rw [flowA_at hj]
    have h0 := flowA_at (st := st) (m := m) hj
    have hcn : SN p st (m + 1) j = SN p st m j &&& contN p (SN p st m m) (p.ns.getD m PNode.z) j := rfl
    rw [hcn]
    have hsj := SN_lt (p := p) hst m j
    generalize p.ns.getD m PNode.z = x at *
    generalize SN p st m m = s at *
    generalize SN p st m j = t at *
    unfold nodeTo contN
    rw [if_neg hs]
    have ey : (x.yes.toNat = j) ↔ (x.yes = (j : Int)) := by have := ho.yes; omega
    by_cases h2 : x.kind = 3 ∨ x.kind = 4
    · have en : (x.no.toNat = j) ↔ (x.no = (j : Int)) := by have := ho.no h2; omega
      rw [if_pos h2, leadN_at (leadN_at h0)]
      congr 1
      by_cases e1 : x.yes = (j : Int)
      · rw [if_pos (ey.2 e1), if_pos e1]
        by_cases e2 : x.no = (j : Int)
        · rw [if_pos (en.2 e2), if_pos ⟨h2, e2⟩, Nat.and_assoc]
        · rw [if_neg (fun h => e2 (en.1 h)), if_neg (fun h => e2 h.2), and_ones hy]
      · rw [if_neg (fun h => e1 (ey.1 h)), if_neg e1]
        by_cases e2 : x.no = (j : Int)
        · rw [if_pos (en.2 e2), if_pos ⟨h2, e2⟩, ones_and hn]
        · rw [if_neg (fun h => e2 (en.1 h)), if_neg (fun h => e2 h.2), and_ones ones_lt, and_ones hsj]
    · rw [if_neg h2, leadN_at h0]
      congr 1
      rw [if_neg (show ¬ ((x.kind = 3 ∨ x.kind = 4) ∧ x.no = (j : Int)) from fun h => h2 h.1)]
      by_cases e1 : x.yes = (j : Int)
      · rw [if_pos (ey.2 e1), if_pos e1, and_ones hy]
      · rw [if_neg (fun h => e1 (ey.1 h)), if_neg e1, and_ones ones_lt, and_ones hsj]
  · have hl : ∀ A : List Nat, A.length = p.ns.length + 1 → A[j]? = none := fun A h => List.getElem?_eq_none (by omega)
    rw [hl _ (flowA_len p st (m + 1))]
    refine hl _ ?_
    unfold nodeTo leadN
    split <;> simp [flowA_len]

theorem flowA_still {p : PPlan} {st m : Nat} (hst : st < 2 ^ 64) (hs : SN p st m m = onesN) : flowA p st (m + 1) = flowA p st m := by
  unfold flowA
  refine List.map_congr_left fun j _ => ?_
  show SN p st m j &&& contN p (SN p st m m) (p.ns.getD m PNode.z) j = _
  unfold contN
  rw [if_pos hs, and_ones (SN_lt hst m j)]

/-- what a node leaves -/
def NodeDone (g : Nat) (ok : Bool) (A : List Nat) (w : World) (e : Ending) (w' : World) : Prop := e = .returned (.bool ok) ∧ But g w w' ∧ (ok = true → AhU g A w')

theorem gk14 {w w' : World} {b g : Nat} {v0 v1 v2 v3 v4 v5 v6 v7 v8 v9 v10 v11 v12 v13 : Value} (hb : b ≠ g) (h : w.cell? ⟨b, 0, none⟩ = some v0 ∧ w.cell? ⟨b, 1, none⟩ = some v1 ∧ w.cell? ⟨b, 2, none⟩ = some v2 ∧ w.cell? ⟨b, 3, none⟩ = some v3 ∧ w.cell? ⟨b, 4, none⟩ = some v4 ∧ w.cell? ⟨b, 5, none⟩ = some v5 ∧ w.cell? ⟨b, 6, none⟩ = some v6 ∧ w.cell? ⟨b, 7, none⟩ = some v7 ∧ w.cell? ⟨b, 8, none⟩ = some v8 ∧ w.cell? ⟨b, 9, none⟩ = some v9 ∧ w.cell? ⟨b, 10, none⟩ = some v10 ∧ w.cell? ⟨b, 11, none⟩ = some v11 ∧ w.cell? ⟨b, 12, none⟩ = some v12 ∧ w.cell? ⟨b, 13, none⟩ = some v13) (k : But g w w') : w'.cell? ⟨b, 0, none⟩ = some v0 ∧ w'.cell? ⟨b, 1, none⟩ = some v1 ∧ w'.cell? ⟨b, 2, none⟩ = some v2 ∧ w'.cell? ⟨b, 3, none⟩ = some v3 ∧ w'.cell? ⟨b, 4, none⟩ = some v4 ∧ w'.cell? ⟨b, 5, none⟩ = some v5 ∧ w'.cell? ⟨b, 6, none⟩ = some v6 ∧ w'.cell? ⟨b, 7, none⟩ = some v7 ∧ w'.cell? ⟨b, 8, none⟩ = some v8 ∧ w'.cell? ⟨b, 9, none⟩ = some v9 ∧ w'.cell? ⟨b, 10, none⟩ = some v10 ∧ w'.cell? ⟨b, 11, none⟩ = some v11 ∧ w'.cell? ⟨b, 12, none⟩ = some v12 ∧ w'.cell? ⟨b, 13, none⟩ = some v13 := by
  obtain ⟨h0, h1, h2, h3, h4, h5, h6, h7, h8, h9, h10, h11, h12, h13⟩ := h
  exact ⟨k.cell hb h0, k.cell hb h1, k.cell hb h2, k.cell hb h3, k.cell hb h4, k.cell hb h5, k.cell hb h6, k.cell hb h7, k.cell hb h8, k.cell hb h9, k.cell hb h10, k.cell hb h11, k.cell hb h12, k.cell hb h13⟩

theorem gk20 {w w' : World} {b tg o g : Nat} {v0 v1 v2 v3 v4 v5 v6 v7 v8 v9 v10 v11 v12 v13 u0 u1 u2 u3 u4 u5 : Value} (hb : b ≠ g) (ht : tg ≠ g) (h : w.cell? ⟨b, 0, none⟩ = some v0 ∧ w.cell? ⟨b, 1, none⟩ = some v1 ∧ w.cell? ⟨b, 2, none⟩ = some v2 ∧ w.cell? ⟨b, 3, none⟩ = some v3 ∧ w.cell? ⟨b, 4, none⟩ = some v4 ∧ w.cell? ⟨b, 5, none⟩ = some v5 ∧ w.cell? ⟨b, 6, none⟩ = some v6 ∧ w.cell? ⟨b, 7, none⟩ = some v7 ∧ w.cell? ⟨b, 8, none⟩ = some v8 ∧ w.cell? ⟨b, 9, none⟩ = some v9 ∧ w.cell? ⟨b, 10, none⟩ = some v10 ∧ w.cell? ⟨b, 11, none⟩ = some v11 ∧ w.cell? ⟨b, 12, none⟩ = some v12 ∧ w.cell? ⟨b, 13, none⟩ = some v13 ∧ w.cell? ⟨tg, o, none⟩ = some u0 ∧ w.cell? ⟨tg, o + 1, none⟩ = some u1 ∧ w.cell? ⟨tg, o + 2, none⟩ = some u2 ∧ w.cell? ⟨tg, o + 3, none⟩ = some u3 ∧ w.cell? ⟨tg, o + 4, none⟩ = some u4 ∧ w.cell? ⟨tg, o + 5, none⟩ = some u5) (k : But g w w') : w'.cell? ⟨b, 0, none⟩ = some v0 ∧ w'.cell? ⟨b, 1, none⟩ = some v1 ∧ w'.cell? ⟨b, 2, none⟩ = some v2 ∧ w'.cell? ⟨b, 3, none⟩ = some v3 ∧ w'.cell? ⟨b, 4, none⟩ = some v4 ∧ w'.cell? ⟨b, 5, none⟩ = some v5 ∧ w'.cell? ⟨b, 6, none⟩ = some v6 ∧ w'.cell? ⟨b, 7, none⟩ = some v7 ∧ w'.cell? ⟨b, 8, none⟩ = some v8 ∧ w'.cell? ⟨b, 9, none⟩ = some v9 ∧ w'.cell? ⟨b, 10, none⟩ = some v10 ∧ w'.cell? ⟨b, 11, none⟩ = some v11 ∧ w'.cell? ⟨b, 12, none⟩ = some v12 ∧ w'.cell? ⟨b, 13, none⟩ = some v13 ∧ w'.cell? ⟨tg, o, none⟩ = some u0 ∧ w'.cell? ⟨tg, o + 1, none⟩ = some u1 ∧ w'.cell? ⟨tg, o + 2, none⟩ = some u2 ∧ w'.cell? ⟨tg, o + 3, none⟩ = some u3 ∧ w'.cell? ⟨tg, o + 4, none⟩ = some u4 ∧ w'.cell? ⟨tg, o + 5, none⟩ = some u5 := by
  obtain ⟨h0, h1, h2, h3, h4, h5, h6, h7, h8, h9, h10, h11, h12, h13, h14, h15, h16, h17, h18, h19⟩ := h
  exact ⟨k.cell hb h0, k.cell hb h1, k.cell hb h2, k.cell hb h3, k.cell hb h4, k.cell hb h5, k.cell hb h6, k.cell hb h7, k.cell hb h8, k.cell hb h9, k.cell hb h10, k.cell hb h11, k.cell hb h12, k.cell hb h13, k.cell ht h14, k.cell ht h15, k.cell ht h16, k.cell ht h17, k.cell ht h18, k.cell ht h19⟩

theorem lead_num (d : PlanD) {g m : Nat} {A : List Nat} {w : World} (j : Int) (s : Nat) (ha : AhU g A w) (hl : A.length = m) (h64 : ∀ a ∈ A, a < 2 ^ 64) (hj : 0 ≤ j ∧ j < (m : Int)) (hs : s < 2 ^ 64) :
    Calls Tryz.prog 44 #[fwkV d g m, .int .i64 j, .int .u64 (s : Int)] w (LeadF g (leadN A j.toNat s) w) := by
  have hjl : j.toNat < A.length := by omega
  have hx : A[j.toNat]? = some A[j.toNat] := List.getElem?_eq_getElem hjl
  have := flead_any d j.toNat s _ ha (m := m) (by omega) hx hs (h64 _ (List.getElem_mem hjl))
  rw [show ((j.toNat : Nat) : Int) = j by omega] at this
  unfold leadN
  rw [getD_at hx]
  exact this

theorem leadN_64 {A : List Nat} (h : ∀ a ∈ A, a < 2 ^ 64) (j v : Nat) : ∀ a ∈ leadN A j v, a < 2 ^ 64 := by
  intro a ha
  unfold leadN at ha
  rcases List.mem_or_eq_of_mem_set ha with h1 | h1
  · exact h a h1
  · rw [h1, List.getD_eq_getElem?_getD]
    cases e : A[j]? with
    | none => simp
    | some c => exact and_lt64 (h c (List.mem_of_getElem? e))

theorem leadN_len (A : List Nat) (j v : Nat) : (leadN A j v).length = A.length := by simp [leadN]

set_option maxHeartbeats 16000000 in
set_option maxRecDepth 20000 in
theorem fgoon_any (d : PlanD) (x : NodeD) (s i : Nat) {g m : Nat} {A : List Nat} {w0 w : World} (hl0 : d.lie w0) (hb0 : Below w0.heap.size w0 w) (hg0 : w0.heap.size ≤ g) (hc : (chkP d.p).1 = 0) (ha : AhU g A w) (hm : m = d.p.ns.length + 1) (hA : A.length = m) (h64 : ∀ a ∈ A, a < 2 ^ 64) (hs : s < 2 ^ 64) (ho : NodeOk d.p i x.p) (he : ∀ w', But g w w' → QRow 4 PushD.lie w' x.e x.es) :
    Calls Tryz.prog 76 #[fvisV d g m x s] w (NodeDone g (nodeOk d.p s x.p) (nodeTo d.p s x.p A) w) := by
  have h6 : (d.p.hs.length : Int) ≤ 6 := (chk_zero hc 0 (by decide)).2.1
  have hl : d.lie w := hl0.step hb0
  have hlg : ∀ w', But g w w' → d.lie w' := fun w' h => hl0.step (hb0.trans (h.low.mono hg0))
  obtain ⟨W1, hW⟩ : ∃ W1, W1 = w.alloc (.cells (fvisA d g m x s) 177) := ⟨_, rfl⟩
  obtain ⟨b, hb⟩ : ∃ b, b = w.heap.size := ⟨_, rfl⟩
  have b1 : Below w.heap.size w W1 := by rw [hW]; exact bl_alloc (Below.refl _ _)
  have hv1 : VisF d g m x s b W1 := by rw [hW, hb]; exact visF_new d g m x s w
  have hbg : b ≠ g := by have := ha.lt; omega
  have HB1 : Hid (But g w W1) := But.of b1 (Nat.le_of_lt ha.lt)
  have HA1 := hid (ha.step b1)
  have HV1 := hid hv1
  have EW := hid hW
  have EB := hid hb
  have hyes : 0 ≤ x.yes ∧ x.yes < (m : Int) := by have h1 : (i : Int) < x.yes ∧ x.yes ≤ (d.p.ns.length : Int) := ho.yes; omega
  have hno : (x.kind = 3 ∨ x.kind = 4) → 0 ≤ x.no ∧ x.no < (m : Int) := fun e => by have h1 : (i : Int) < x.no ∧ x.no ≤ (d.p.ns.length : Int) := ho.no e; omega
  have hyl : x.yes.toNat < A.length := by omega
  have hxy : A[x.yes.toNat]? = some A[x.yes.toNat] := List.getElem?_eq_getElem hyl
  have hcl := h64 _ (List.getElem_mem hyl)
  have hgd := getD_at hxy
  generalize A[x.yes.toNat] = c at *
  have hyy : x.yes = ((x.yes.toNat : Nat) : Int) := by omega
  have hk : x.kind = 1 ∨ x.kind = 2 ∨ x.kind = 3 ∨ x.kind = 4 := ho.kind
  obtain ⟨⟨z0, z1, z2, z3, z4, z5, z6, z7⟩, z8, z9, z10, z11, z12, z13⟩ := hv1.all
  rcases hk with hk | hk | hk | hk
  · have e1 : nodeOk d.p s x.p = (keysN s (tabAt d.p x.n).ks && (tabAt d.p x.n).al.all (fun k => actOk s (opsAt d.p k))) := by unfold nodeOk; rw [if_pos (show x.p.kind = 1 from hk)]; rfl
    have e2 : nodeTo d.p s x.p A = A.set x.yes.toNat (c &&& andActs d.p s (tabAt d.p x.n).al) := by
      unfold nodeTo leadN yesN
      rw [if_neg (show ¬ (x.p.kind = 3 ∨ x.p.kind = 4) by show ¬ (x.kind = 3 ∨ x.kind = 4); omega), if_pos (show x.p.kind = 1 from hk)]
      show A.set x.yes.toNat (A.getD x.yes.toNat 0 &&& _) = _
      rw [hgd]; rfl
    have hn : 0 ≤ x.n ∧ x.n < (d.p.ts.length : Int) := ho.tab hk
    have en : d.p.ts.length = d.tabs.n := by simp [PlanD.p, hl.ts.1]
    obtain ⟨tg, tz, t, et, hxt, hpt⟩ := row_at hl.ts (i := x.n.toNat) (by omega)
    have htg : tg ≠ g := by
      obtain ⟨tg', _, _, et', _, hpt'⟩ := row_at hl0.ts (i := x.n.toNat) (by omega)
      have h1 := World.block_lt_of_cell? _ _ hpt'.1.1
      rw [et] at et'
      simp only [Option.some.injEq, Addr.mk.injEq] at et'
      have h2 : tg' < w0.heap.size := h1
      omega
    have ett : tabAt d.p x.n = t.p := by
      unfold tabAt PlanD.p
      simp only [List.getD_eq_getElem?_getD, List.getElem?_map, hxt, Option.map_some, Option.getD_some]
    have hto : TabOk d.p t.p := by have := tab_ok hc (i := x.n.toNat) (by omega); rwa [show d.p.ts.getD x.n.toNat PTab.z = t.p from ett] at this
    have HAS : Hid (∀ w', Below W1.heap.size W1 w' → Calls Tryz.prog 106 #[fvisV d g m x s, tabV t] w' (DoF g (keysN s t.ks && t.al.all (fun k => actOk s (opsAt d.p k))) (A.set x.yes.toNat (c &&& andActs d.p s t.al)) w')) := fun w' h => by
      have hb' : But g w w' := HB1.out.trans (But.of h (Nat.le_of_lt HA1.out.lt))
      have hbb : Below w.heap.size w w' := bl_step b1 h
      refine fask_any d x t s x.yes.toNat c hc (ha.step hbb) (fun w2 h2 => hlg w2 (hb'.trans h2)) hyy (by omega) hxy hcl hs hto ?_ ?_ ?_
      · exact hpt.2.2.2.2.2.2.1.step RefD.keeps hbb
      · exact hpt.2.2.2.2.2.2.2.1.step hbb
      · intro w2 h2
        obtain ⟨_, _, t2, _, hx2, hp2⟩ := row_at (hlg w2 (hb'.trans h2)).ts (i := x.n.toNat) (by omega)
        obtain rfl : t = t2 := by rw [hxt] at hx2; exact Option.some.inj hx2
        exact hp2.2.2.2.2.2.2.2.1
    rw [e1, e2, ett]
    obtain ⟨⟨t0, _⟩, ⟨t1, _⟩, ⟨t2, _⟩, ⟨t3, _⟩, ⟨t4, _⟩, ⟨t5, _⟩, _⟩ := hpt
    have u0 := cell_keep t0 b1
    have u1 := cell_keep t1 b1
    have u2 := cell_keep t2 b1
    have u3 := cell_keep t3 b1
    have u4 := cell_keep t4 b1
    have u5 := cell_keep t5 b1
    have hn0 : 0 ≤ x.n := hn.1
    have hn1 : x.n < (d.tabs.n : Int) := by omega
    have hbd : Below W1.heap.size W1 W1.drew := (Below.refl _ _).drew
    have HBD : Hid (But g W1 W1.drew) := But.of hbd (Nat.le_of_lt HA1.out.lt)
    have kb1 : (x.kind == 1) = true := by rw [hk]; rfl
    rw [et] at z4
    have HKD := hid hbd
    have HTP : Hid (t.p.ks = t.ks ∧ t.p.al = t.al) := ⟨rfl, rfl⟩
    rw [HTP.out.1, HTP.out.2]
    unfold fvisV tabV at HAS
    rw [et] at HAS
    clear hl hl0 hb0 hg0 hc ha hlg hm hA h64 hs ho he h6 hW hb b1 hv1 hyes hno hyl hxy hcl hgd hyy hk e1 e2 hn en hxt ett hto et t0 t1 t2 t3 t4 t5 hbd HV1 HTP
    generalize (keysN s t.ks && t.al.all (fun k => actOk s (opsAt d.p k))) = KB at *
    go_enter Tryz.func76, Tryz.ntmps76
    go_wp2_with fail
    rw [← EW.out, ← EB.out]
    clear EW EB
    go_region_held3 (fun w' => w'.cell? ⟨b, 0, none⟩ = some (.slice d.heads.a d.heads.n d.heads.c) ∧ w'.cell? ⟨b, 1, none⟩ = some (.slice d.mta.a d.mta.n d.mta.c) ∧ w'.cell? ⟨b, 2, none⟩ = some (.slice d.states.a d.states.n d.states.c) ∧ w'.cell? ⟨b, 3, none⟩ = some (.slice d.acts.a d.acts.n d.acts.c) ∧ w'.cell? ⟨b, 4, none⟩ = some (.slice (some ⟨tg, tz, none⟩) d.tabs.n d.tabs.c) ∧ w'.cell? ⟨b, 5, none⟩ = some (.slice d.nodes.a d.nodes.n d.nodes.c) ∧ w'.cell? ⟨b, 6, none⟩ = some (.slice d.out.a d.out.n d.out.c) ∧ w'.cell? ⟨b, 7, none⟩ = some (.slice (some ⟨g, 0, none⟩) m m) ∧ w'.cell? ⟨b, 8, none⟩ = some (.int .i64 x.kind) ∧ w'.cell? ⟨b, 9, none⟩ = some (.int .i64 x.n) ∧ w'.cell? ⟨b, 10, none⟩ = some (.slice x.e.a x.e.n x.e.c) ∧ w'.cell? ⟨b, 11, none⟩ = some (.int .i64 x.yes) ∧ w'.cell? ⟨b, 12, none⟩ = some (.int .i64 x.no) ∧ w'.cell? ⟨b, 13, none⟩ = some (.int .u64 (s : Int)) ∧ w'.cell? ⟨tg, tz + x.n.toNat * 6, none⟩ = some (.int .i64 t.kind) ∧ w'.cell? ⟨tg, tz + x.n.toNat * 6 + 1, none⟩ = some (.slice t.keys.a t.keys.n t.keys.c) ∧ w'.cell? ⟨tg, tz + x.n.toNat * 6 + 2, none⟩ = some (.slice t.acts.a t.acts.n t.acts.c) ∧ w'.cell? ⟨tg, tz + x.n.toNat * 6 + 3, none⟩ = some (.int .i64 t.cap) ∧ w'.cell? ⟨tg, tz + x.n.toNat * 6 + 4, none⟩ = some (.int .i64 t.dflt) ∧ w'.cell? ⟨tg, tz + x.n.toNat * 6 + 5, none⟩ = some (.slice t.args.a t.args.n t.args.c))
      (first
        | (go_split_ands; with_reducible exact gk20 hbg htg ⟨by assumption, by assumption, by assumption, by assumption, by assumption, by assumption, by assumption, by assumption, by assumption, by assumption, by assumption, by assumption, by assumption, by assumption, by assumption, by assumption, by assumption, by assumption, by assumption, by assumption⟩ h1)
        | go_keep)
      (first | (go_at_call 106; refine (HAS.out _ HKD.out).mono ?_; rintro e w1 ⟨rfl, h1, h2⟩))
    all_goals
      have HE : Hid (NodeDone g KB (A.set x.yes.toNat (c &&& andActs d.p s t.al)) w (.returned (.bool KB)) w1) := ⟨rfl, HB1.out.trans (HBD.out.trans h1), h2⟩
      clear HAS h1 h2 z0 z1 z2 z3 z4 z5 z6 z7 z8 z9 z10 z11 z12 z13 u0 u1 u2 u3 u4 u5
      go_wp2
      go_ret
      exact HE.out
  · have e1 : nodeOk d.p s x.p = actOk s (opsAt d.p x.n) := by unfold nodeOk; rw [if_neg (show ¬ x.p.kind = 1 by show ¬ x.kind = 1; omega), if_pos (show x.p.kind = 2 from hk)]; rfl
    have e2 : nodeTo d.p s x.p A = A.set x.yes.toNat (c &&& actTo s (opsAt d.p x.n)) := by
      unfold nodeTo leadN yesN
      rw [if_neg (show ¬ (x.p.kind = 3 ∨ x.p.kind = 4) by show ¬ (x.kind = 3 ∨ x.kind = 4); omega), if_neg (show ¬ x.p.kind = 1 by show ¬ x.kind = 1; omega), if_pos (show x.p.kind = 2 from hk)]
      show A.set x.yes.toNat (A.getD x.yes.toNat 0 &&& _) = _
      rw [hgd]; rfl
    have HAS := hid (fdo_num d x s x.yes.toNat c x.n (hl.step b1) hc (ha.step b1) hyy (m := m) (by omega) hxy hcl hs (ho.act hk))
    rw [e1, e2]
    have kb1 : (x.kind == 1) = false := by rw [hk]; rfl
    have kb2 : (x.kind == 2) = true := by rw [hk]; rfl
    unfold fvisV at HAS
    clear hl hl0 hb0 hg0 hc ha hlg hm hA h64 hs ho he h6 hW hb b1 hv1 hyes hno hyl hxy hcl hgd hyy hk e1 e2 HV1
    generalize actOk s (opsAt d.p x.n) = KB at *
    go_enter Tryz.func76, Tryz.ntmps76
    go_wp2_with fail
    rw [← EW.out, ← EB.out]
    clear EW EB
    refine HAS.out.mono ?_
    rintro e w1 ⟨rfl, h1, h2⟩
    have HE : Hid (NodeDone g KB (A.set x.yes.toNat (c &&& actTo s (opsAt d.p x.n))) w (.returned (.bool KB)) w1) := ⟨rfl, HB1.out.trans h1, h2⟩
    clear HAS h1 h2 z0 z1 z2 z3 z4 z5 z6 z7 z8 z9 z10 z11 z12 z13
    go_wp2
    go_ret
    exact HE.out
  · have e1 : nodeOk d.p s x.p = treeN s x.es := by unfold nodeOk; rw [if_neg (show ¬ x.p.kind = 1 by show ¬ x.kind = 1; omega), if_neg (show ¬ x.p.kind = 2 by show ¬ x.kind = 2; omega), if_pos (show x.p.kind = 3 from hk)]; rfl
    have e2 : nodeTo d.p s x.p A = leadN (leadN A x.yes.toNat s) x.no.toNat s := by
      unfold nodeTo yesN noN
      rw [if_pos (show x.p.kind = 3 ∨ x.p.kind = 4 from .inl hk), if_neg (show ¬ x.p.kind = 1 by show ¬ x.kind = 1; omega), if_neg (show ¬ x.p.kind = 2 by show ¬ x.kind = 2; omega), if_pos (show x.p.kind = 3 from hk), if_neg (show ¬ x.p.kind = 4 by show ¬ x.kind = 4; omega)]
      rfl
    have HL1 := hid (lead_num d x.yes s HA1.out hA h64 hyes hs)
    have HL2 : Hid (∀ w', AhU g (leadN A x.yes.toNat s) w' → Calls Tryz.prog 44 #[fwkV d g m, .int .i64 x.no, .int .u64 (s : Int)] w' (LeadF g (leadN (leadN A x.yes.toNat s) x.no.toNat s) w')) := fun w' h => lead_num d x.no s h (by rw [leadN_len]; exact hA) (leadN_64 h64 _ _) (hno (.inl hk)) hs
    have HTR : Hid (∀ w', But g w w' → Calls Tryz.prog 108 #[.int .u64 (s : Int), .slice x.e.a x.e.n x.e.c] w' fun q w'' => q = .returned (.bool (treeN s x.es)) ∧ Below w'.heap.size w' w'') := fun w' h => by
      have ht := treeC_zero (ho.tree hk)
      exact ftree_any s x.e x.es w' hs (he w' h) (fun r hr h2 => width_six hc (ht.2 r hr h2)) (by have h1 : x.es.length ≤ 8 := ht.1; have h2 := (he w' h).1; omega)
    rw [e1, e2]
    have kb1 : (x.kind == 1) = false := by rw [hk]; rfl
    have kb2 : (x.kind == 2) = false := by rw [hk]; rfl
    have kb3 : (x.kind == 3) = true := by rw [hk]; rfl
    unfold fwkV at HL1 HL2
    clear hl hl0 hb0 hg0 hc ha hlg hm hA h64 hs ho he h6 hW hb b1 hv1 hyes hno hyl hxy hcl hgd hyy hk e1 e2
    generalize treeN s x.es = KB at *
    generalize leadN A x.yes.toNat s = A1 at *
    generalize leadN A1 x.no.toNat s = A2 at *
    go_enter Tryz.func76, Tryz.ntmps76
    go_wp2_with fail
    rw [← EW.out, ← EB.out]
    clear EW EB
    refine HL1.out.mono ?_
    rintro e w1 ⟨rfl, h1, h2⟩
    obtain ⟨⟨y0, y1, y2, y3, y4, y5, y6, y7⟩, y8, y9, y10, y11, y12, y13⟩ := (HV1.out.but h2 hbg).all
    have HV2 := hid (HV1.out.but h2 hbg)
    have HB2 := hid (HB1.out.trans h2)
    have HK2 := hid (HL2.out w1 h1)
    clear HL1 HL2 h1 h2 z0 z1 z2 z3 z4 z5 z6 z7 z8 z9 z10 z11 z12 z13 HV1 HA1 HB1
    go_wp2_with fail
    refine HK2.out.mono ?_
    rintro e w2 ⟨rfl, h1, h2⟩
    obtain ⟨_, _, _, z10, _, _, z13⟩ := (HV2.out.but h2 hbg).all
    have HB3 := hid (HB2.out.trans h2)
    have HTR3 := hid (HTR.out w2 HB3.out)
    have HA3 := hid h1
    clear HK2 h1 h2 y0 y1 y2 y3 y4 y5 y6 y7 y8 y9 y10 y11 y12 y13 HV2 HB2 HTR
    go_wp2_with fail
    refine HTR3.out.mono ?_
    rintro e w3 ⟨rfl, hb3⟩
    have HE : Hid (NodeDone g KB A2 w (.returned (.bool KB)) w3) := ⟨rfl, HB3.out.trans (But.of hb3 (Nat.le_of_lt HA3.out.lt)), fun _ => HA3.out.step hb3⟩
    clear HTR3 hb3 z10 z13 HB3 HA3
    go_wp2
    go_ret
    exact HE.out
  · have e1 : nodeOk d.p s x.p = true := by unfold nodeOk; rw [if_neg (show ¬ x.p.kind = 1 by show ¬ x.kind = 1; omega), if_neg (show ¬ x.p.kind = 2 by show ¬ x.kind = 2; omega), if_neg (show ¬ x.p.kind = 3 by show ¬ x.kind = 3; omega)]
    have e2 : nodeTo d.p s x.p A = leadN (leadN A x.yes.toNat (s ||| bitN x.n)) x.no.toNat (s - (s &&& bitN x.n)) := by
      unfold nodeTo yesN noN
      rw [if_pos (show x.p.kind = 3 ∨ x.p.kind = 4 from .inr hk), if_neg (show ¬ x.p.kind = 1 by show ¬ x.kind = 1; omega), if_neg (show ¬ x.p.kind = 2 by show ¬ x.kind = 2; omega), if_neg (show ¬ x.p.kind = 3 by show ¬ x.kind = 3; omega), if_pos (show x.p.kind = 4 from hk)]
      rfl
    have hn : 0 ≤ x.n ∧ x.n < (d.p.hs.length : Int) := ho.hd hk
    have HWI : Hid (∀ w', Calls Tryz.prog 109 #[.int .u64 (s : Int), .int .i64 x.n] w' fun e w'' => e = .returned (.int .u64 ((s ||| bitN x.n : Nat) : Int)) ∧ w'' = w') := fun w' => fwith_any s x.n hs hn.1 (by omega) w'
    have HWO : Hid (∀ w', Calls Tryz.prog 110 #[.int .u64 (s : Int), .int .i64 x.n] w' fun e w'' => e = .returned (.int .u64 ((s - (s &&& bitN x.n) : Nat) : Int)) ∧ w'' = w') := fun w' => fwithout_any s x.n hs hn.1 (by omega) w'
    have HL1 : Hid (∀ w', Below W1.heap.size W1 w' → Calls Tryz.prog 44 #[fwkV d g m, .int .i64 x.yes, .int .u64 ((s ||| bitN x.n : Nat) : Int)] w' (LeadF g (leadN A x.yes.toNat (s ||| bitN x.n)) w')) := fun w' h => lead_num d x.yes (s ||| bitN x.n) (HA1.out.step h) hA h64 hyes (Nat.or_lt_two_pow hs (bitN_lt64 (by omega)))
    have HL2 : Hid (∀ w', AhU g (leadN A x.yes.toNat (s ||| bitN x.n)) w' → Calls Tryz.prog 44 #[fwkV d g m, .int .i64 x.no, .int .u64 ((s - (s &&& bitN x.n) : Nat) : Int)] w' (LeadF g (leadN (leadN A x.yes.toNat (s ||| bitN x.n)) x.no.toNat (s - (s &&& bitN x.n))) w')) := fun w' h => lead_num d x.no _ h (by rw [leadN_len]; exact hA) (leadN_64 h64 _ _) (hno (.inr hk)) (sub_le64 hs)
    rw [e1, e2]
    have kb1 : (x.kind == 1) = false := by rw [hk]; rfl
    have kb2 : (x.kind == 2) = false := by rw [hk]; rfl
    have kb3 : (x.kind == 3) = false := by rw [hk]; rfl
    have kb4 : (x.kind == 4) = true := by rw [hk]; rfl
    have HGL : Hid (g ≤ W1.heap.size) := Nat.le_of_lt HA1.out.lt
    unfold fwkV at HL1 HL2
    clear hl hl0 hb0 hg0 hc ha hlg hm hA h64 hs ho he h6 hW hb b1 hv1 hyes hno hyl hxy hcl hgd hyy hk e1 e2 hn
    generalize s ||| bitN x.n = s1 at *
    generalize s - (s &&& bitN x.n) = s2 at *
    generalize leadN A x.yes.toNat s1 = A1 at *
    generalize leadN A1 x.no.toNat s2 = A2 at *
    have hbd : Below W1.heap.size W1 W1.drew := (Below.refl _ _).drew
    have HKD := hid hbd
    clear hbd
    go_enter Tryz.func76, Tryz.ntmps76
    go_wp2_with fail
    rw [← EW.out, ← EB.out]
    clear EW EB
    go_region_held3 (fun w' => w'.cell? ⟨b, 0, none⟩ = some (.slice d.heads.a d.heads.n d.heads.c) ∧ w'.cell? ⟨b, 1, none⟩ = some (.slice d.mta.a d.mta.n d.mta.c) ∧ w'.cell? ⟨b, 2, none⟩ = some (.slice d.states.a d.states.n d.states.c) ∧ w'.cell? ⟨b, 3, none⟩ = some (.slice d.acts.a d.acts.n d.acts.c) ∧ w'.cell? ⟨b, 4, none⟩ = some (.slice d.tabs.a d.tabs.n d.tabs.c) ∧ w'.cell? ⟨b, 5, none⟩ = some (.slice d.nodes.a d.nodes.n d.nodes.c) ∧ w'.cell? ⟨b, 6, none⟩ = some (.slice d.out.a d.out.n d.out.c) ∧ w'.cell? ⟨b, 7, none⟩ = some (.slice (some ⟨g, 0, none⟩) m m) ∧ w'.cell? ⟨b, 8, none⟩ = some (.int .i64 x.kind) ∧ w'.cell? ⟨b, 9, none⟩ = some (.int .i64 x.n) ∧ w'.cell? ⟨b, 10, none⟩ = some (.slice x.e.a x.e.n x.e.c) ∧ w'.cell? ⟨b, 11, none⟩ = some (.int .i64 x.yes) ∧ w'.cell? ⟨b, 12, none⟩ = some (.int .i64 x.no) ∧ w'.cell? ⟨b, 13, none⟩ = some (.int .u64 (s : Int)))
      (first
        | (go_split_ands; with_reducible exact gk14 hbg ⟨by assumption, by assumption, by assumption, by assumption, by assumption, by assumption, by assumption, by assumption, by assumption, by assumption, by assumption, by assumption, by assumption, by assumption⟩ h2)
        | go_keep)
      (first
        | (go_at_call 109; refine (HWI.out _).mono ?_; rintro e w1 ⟨rfl, rfl⟩)
        | (go_at_call 44; refine (HL1.out _ HKD.out).mono ?_; rintro e w1 ⟨rfl, h1, h2⟩))
    have HV2 : Hid (VisF d g m x s b w1) := HV1.out.but ((But.of HKD.out HGL.out).trans h2) hbg
    have HB2 := hid (HB1.out.trans ((But.of HKD.out HGL.out).trans h2))
    have HA2 := hid h1
    rename_i hHeld
    clear hHeld HL1 HKD h1 h2 z0 z1 z2 z3 z4 z5 z6 z7 z8 z9 z10 z11 z12 z13 HV1 HA1 HB1 HWI
    obtain ⟨⟨y0, y1, y2, y3, y4, y5, y6, y7⟩, y8, y9, y10, y11, y12, y13⟩ := HV2.out.all
    have hbd : Below w1.heap.size w1 w1.drew := (Below.refl _ _).drew
    have HKD : Hid (But g w1 w1.drew) := But.of hbd (Nat.le_of_lt HA2.out.lt)
    have HK2 := hid (HL2.out w1.drew (HA2.out.step hbd))
    clear hbd
    go_wp2_with fail
    go_region_held3 (fun w' => w'.cell? ⟨b, 0, none⟩ = some (.slice d.heads.a d.heads.n d.heads.c) ∧ w'.cell? ⟨b, 1, none⟩ = some (.slice d.mta.a d.mta.n d.mta.c) ∧ w'.cell? ⟨b, 2, none⟩ = some (.slice d.states.a d.states.n d.states.c) ∧ w'.cell? ⟨b, 3, none⟩ = some (.slice d.acts.a d.acts.n d.acts.c) ∧ w'.cell? ⟨b, 4, none⟩ = some (.slice d.tabs.a d.tabs.n d.tabs.c) ∧ w'.cell? ⟨b, 5, none⟩ = some (.slice d.nodes.a d.nodes.n d.nodes.c) ∧ w'.cell? ⟨b, 6, none⟩ = some (.slice d.out.a d.out.n d.out.c) ∧ w'.cell? ⟨b, 7, none⟩ = some (.slice (some ⟨g, 0, none⟩) m m) ∧ w'.cell? ⟨b, 8, none⟩ = some (.int .i64 x.kind) ∧ w'.cell? ⟨b, 9, none⟩ = some (.int .i64 x.n) ∧ w'.cell? ⟨b, 10, none⟩ = some (.slice x.e.a x.e.n x.e.c) ∧ w'.cell? ⟨b, 11, none⟩ = some (.int .i64 x.yes) ∧ w'.cell? ⟨b, 12, none⟩ = some (.int .i64 x.no) ∧ w'.cell? ⟨b, 13, none⟩ = some (.int .u64 (s : Int)))
      (first
        | (go_split_ands; with_reducible exact gk14 hbg ⟨by assumption, by assumption, by assumption, by assumption, by assumption, by assumption, by assumption, by assumption, by assumption, by assumption, by assumption, by assumption, by assumption, by assumption⟩ h2)
        | go_keep)
      (first
        | (go_at_call 110; refine (HWO.out _).mono ?_; rintro e w2 ⟨rfl, rfl⟩)
        | (go_at_call 44; refine HK2.out.mono ?_; rintro e w2 ⟨rfl, h1, h2⟩))
    have HE : Hid (NodeDone g true A2 w (.returned (.bool true)) w2) := ⟨rfl, HB2.out.trans (HKD.out.trans h2), fun _ => h1⟩
    rename_i hHeld
    clear hHeld h1 h2 y0 y1 y2 y3 y4 y5 y6 y7 y8 y9 y10 y11 y12 y13 HV2 HB2 HK2 HKD
    go_wp2
    go_ret
    exact HE.out
end Go.Proofs.YtajelgjbgehahaaGreat

namespace Go.Proofs.YtajelgjbgehahaaGreat
open Go.RowKit

/-- a node is gone over -/
def OverF (g : Nat) (p : PPlan) (st k : Nat) (w : World) (e : Ending) (w' : World) : Prop := ∃ ok : Bool, e = .returned (.bool ok) ∧ But g w w' ∧ (ok = true → ¬ badAt p st k ∧ AhU g (flowA p st (k + 1)) w') ∧ (ok = false → badAt p st k)

@[reducible] def fwkA (d : PlanD) (g m : Nat) : Array Value := #[.slice d.heads.a d.heads.n d.heads.c, .slice d.mta.a d.mta.n d.mta.c, .slice d.states.a d.states.n d.states.c, .slice d.acts.a d.acts.n d.acts.c, .slice d.tabs.a d.tabs.n d.tabs.c, .slice d.nodes.a d.nodes.n d.nodes.c, .slice d.out.a d.out.n d.out.c, .slice (some ⟨g, 0, none⟩) m m]

/-- the walker as it lies -/
def WkF (d : PlanD) (g m b : Nat) (w : World) : Prop := ∀ i v, (fwkA d g m)[i]? = some v → w.cell? ⟨b, i, none⟩ = some v
theorem WkF.but {d : PlanD} {g m b q : Nat} {w w' : World} (h : WkF d g m b w) (hb : But q w w') (hn : b ≠ q) : WkF d g m b w' := fun i v hv => hb.cell hn (h i v hv)
theorem WkF.step {d : PlanD} {g m b : Nat} {w w' : World} (h : WkF d g m b w) (hb : Below w.heap.size w w') : WkF d g m b w' := fun i v hv => cell_keep (h i v hv) hb
theorem WkF.all {d : PlanD} {g m b : Nat} {w : World} (h : WkF d g m b w) :
    w.cell? ⟨b, 0, none⟩ = some (.slice d.heads.a d.heads.n d.heads.c) ∧ w.cell? ⟨b, 1, none⟩ = some (.slice d.mta.a d.mta.n d.mta.c) ∧ w.cell? ⟨b, 2, none⟩ = some (.slice d.states.a d.states.n d.states.c) ∧ w.cell? ⟨b, 3, none⟩ = some (.slice d.acts.a d.acts.n d.acts.c) ∧ w.cell? ⟨b, 4, none⟩ = some (.slice d.tabs.a d.tabs.n d.tabs.c) ∧ w.cell? ⟨b, 5, none⟩ = some (.slice d.nodes.a d.nodes.n d.nodes.c) ∧ w.cell? ⟨b, 6, none⟩ = some (.slice d.out.a d.out.n d.out.c) ∧ w.cell? ⟨b, 7, none⟩ = some (.slice (some ⟨g, 0, none⟩) m m) :=
  ⟨h 0 _ rfl, h 1 _ rfl, h 2 _ rfl, h 3 _ rfl, h 4 _ rfl, h 5 _ rfl, h 6 _ rfl, h 7 _ rfl⟩

theorem wkF_new (d : PlanD) (g m : Nat) (w : World) : WkF d g m w.heap.size (w.alloc (.cells (fwkA d g m) 127)) := fun _ _ h => (World.cell?_alloc_at _ _ _ _ rfl).trans h

theorem flowA_64 {p : PPlan} {st m : Nat} (hst : st < 2 ^ 64) : ∀ a ∈ flowA p st m, a < 2 ^ 64 := by
  intro a ha
  obtain ⟨j, _, rfl⟩ := List.mem_map.1 ha
  exact SN_lt hst m j

set_option maxHeartbeats 16000000 in
set_option maxRecDepth 20000 in
theorem fover_any (d : PlanD) (st k : Nat) {g m : Nat} {w0 w : World} (hl0 : d.lie w0) (hb0 : Below w0.heap.size w0 w) (hg0 : w0.heap.size ≤ g) (hc : (chkP d.p).1 = 0) (hst : st < 2 ^ 64) (ha : AhU g (flowA d.p st k) w) (hm : m = d.p.ns.length + 1) (hk : k < d.nodes.n) :
    Calls Tryz.prog 45 #[fwkV d g m, .int .i64 (k : Int)] w (OverF g d.p st k w) := by
  have hl : d.lie w := hl0.step hb0
  have en : d.p.ns.length = d.nodes.n := by simp [PlanD.p, hl.ns.1]
  obtain ⟨ng, no, x, enn, hx, hp⟩ := row_at hl.ns hk
  have exx : d.p.ns.getD k PNode.z = x.p := by
    unfold PlanD.p
    simp only [List.getD_eq_getElem?_getD, List.getElem?_map, hx, Option.map_some, Option.getD_some]
  have hng : ng ≠ g := by
    obtain ⟨ng', _, _, et', _, hpt'⟩ := row_at hl0.ns hk
    have h1 := World.block_lt_of_cell? _ _ hpt'.1.1
    rw [enn] at et'
    simp only [Option.some.injEq, Addr.mk.injEq] at et'
    have h2 : ng' < w0.heap.size := h1
    omega
  have ho : NodeOk d.p k x.p := by have := node_ok hc (i := k) (by omega); rwa [exx] at this
  have hsk : (flowA d.p st k)[k]? = some (SN d.p st k k) := flowA_at (by omega)
  have hslt := SN_lt (p := d.p) hst k k
  obtain ⟨s, hs⟩ : ∃ s, s = SN d.p st k k := ⟨_, rfl⟩
  rw [← hs] at hsk hslt
  obtain ⟨W1, hW⟩ : ∃ W1, W1 = w.alloc (.cells (fwkA d g m) 127) := ⟨_, rfl⟩
  obtain ⟨b, hb⟩ : ∃ b, b = w.heap.size := ⟨_, rfl⟩
  have b1 : Below w.heap.size w W1 := by rw [hW]; exact bl_alloc (Below.refl _ _)
  have hwk : WkF d g m b W1 := by rw [hW, hb]; exact wkF_new d g m w
  have ha1 := ha.step b1
  have zk := ha1.cs k s hsk
  have zk0 : ∀ o, (w.alloc o).cell? ⟨g, k, none⟩ = some (.int .u64 (s : Int)) := fun o => cell_keep (ha.cs k s hsk) (bl_alloc (Below.refl _ _))
  have hgl := ha.lt
  have hbg : b ≠ g := by omega
  have hkm : (k : Int) < (m : Int) := by omega
  have hk0 : (0 : Int) ≤ (k : Int) := by omega
  have hgw : ¬ g = w.heap.size := by omega
  have HB1 : Hid (But g w W1) := But.of b1 (Nat.le_of_lt ha.lt)
  have EW := hid hW
  have EB := hid hb
  by_cases h1 : s = onesN
  · have HE : Hid (∀ o, OverF g d.p st k w (.returned (.bool true)) (w.alloc o)) := fun o => by
      refine ⟨true, rfl, But.of (bl_alloc (Below.refl _ _)) (Nat.le_of_lt ha.lt), fun _ => ⟨fun h => h.1 (hs.symm.trans h1), ?_⟩, fun h => by cases h⟩
      rw [flowA_still hst (hs.symm.trans h1)]
      exact ha.step (bl_alloc (Below.refl _ _))
    have he : ((s : Int) == 18446744073709551615) = true := by rw [h1]; rfl
    clear hl hl0 hb0 hg0 hc hst ha hm hk en hx hp exx ho hsk hslt hs hW hb b1 hwk ha1 zk h1 hng enn
    go_enter Tryz.func45, Tryz.ntmps45
    go_wp2
    go_ret
    exact HE.out _
  · have he : ((s : Int) == 18446744073709551615) = false := by
      rw [beq_eq_false_iff_ne]
      intro h
      exact h1 (by unfold onesN; omega)
    obtain ⟨z0, z1, z2, z3, z4, z5, z6, z7⟩ := hwk.all
    obtain ⟨⟨t0, _⟩, ⟨t1, _⟩, ⟨t2, _⟩, ⟨t3, _⟩, ⟨t4, _⟩, _⟩ := hp
    have u0 := cell_keep t0 b1
    have u1 := cell_keep t1 b1
    have u2 := cell_keep t2 b1
    have u3 := cell_keep t3 b1
    have u4 := cell_keep t4 b1
    have hbd : Below W1.heap.size W1 W1.drew := (Below.refl _ _).drew
    have zd : W1.drew.cell? ⟨g, k, none⟩ = some (.int .u64 (s : Int)) := zk
    have HGO : Hid (Calls Tryz.prog 76 #[fvisV d g m x s] W1.drew (NodeDone g (nodeOk d.p s x.p) (nodeTo d.p s x.p (flowA d.p st k)) W1.drew)) := by
      refine fgoon_any d x s k hl0 (bl_step hb0 (bl_step b1 hbd)) hg0 hc (ha1.step hbd) hm (by rw [flowA_len]; omega) (flowA_64 hst) hslt ho fun w' h => ?_
      have hb2 : But g w w' := HB1.out.trans ((But.of hbd (Nat.le_of_lt ha1.lt)).trans h)
      have hlw : d.lie w' := hl0.step (hb0.trans (hb2.low.mono hg0))
      obtain ⟨_, _, x2, _, hx2, hp2⟩ := row_at hlw.ns hk
      obtain rfl : x = x2 := by rw [hx] at hx2; exact Option.some.inj hx2
      exact hp2.2.2.2.2.2
    have HED : Hid (∀ w', NodeDone g (nodeOk d.p s x.p) (nodeTo d.p s x.p (flowA d.p st k)) W1.drew (.returned (.bool (nodeOk d.p s x.p))) w' → OverF g d.p st k w (.returned (.bool (nodeOk d.p s x.p))) w') := fun w' h => by
      refine ⟨_, rfl, HB1.out.trans ((But.of hbd (Nat.le_of_lt ha1.lt)).trans h.2.1), fun e => ⟨?_, ?_⟩, fun e => ?_⟩
      · rintro ⟨_, h2⟩
        rw [exx, ← hs, e] at h2
        cases h2
      · have := nodeTo_next hc hst (m := k) (by omega) (by rw [← hs]; exact h1)
        rw [exx, ← hs] at this
        rw [← this]
        exact h.2.2 e
      · exact ⟨by rw [← hs]; exact h1, by rw [exx, ← hs]; exact e⟩
    rw [enn] at z5
    unfold fvisV at HGO
    rw [enn] at HGO
    have hki : (k : Int) < (d.nodes.n : Int) := by omega
    clear hl hl0 hb0 hg0 hc hst ha hm hk en hx exx ho hsk hslt hs hW hb b1 hwk ha1 h1 enn t0 t1 t2 t3 t4 hbd
    generalize nodeTo d.p s x.p (flowA d.p st k) = A1 at *
    generalize nodeOk d.p s x.p = KB at *
    go_enter Tryz.func45, Tryz.ntmps45
    go_wp2_with fail
    rw [← EW.out, ← EB.out]
    clear EW EB zk0
    go_still_tail 13, (by kernel_rfl)
    show wpList _ _ _ _ _ W1.drew
    go_wp2_with fail
    refine HGO.out.mono ?_
    rintro e w1 ⟨rfl, h2, h3⟩
    all_goals
      have HE := hid (HED.out w1 ⟨rfl, h2, h3⟩)
      clear HED HGO h2 h3 z0 z1 z2 z3 z4 z5 z6 z7 u0 u1 u2 u3 u4 zd zk
      go_wp2
      go_ret
      exact HE.out
end Go.Proofs.YtajelgjbgehahaaGreat
