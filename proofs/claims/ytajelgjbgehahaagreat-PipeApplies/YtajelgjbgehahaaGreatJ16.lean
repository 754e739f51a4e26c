/- Texts of one chain, joined: WGo, WGo2. -/
import Derived.Test.YtajelgjbgehahaaGreatVWBehind
import Derived.Test.YtajelgjbgehahaaGreatVWPar
namespace Go.Proofs.YtajelgjbgehahaaGreat
open Go.RowKit

theorem few_join {s t : Wk.Sets} (hs : s.few) (ht : t.few) : (Wk.joinS s t).few := by
  unfold Wk.joinS
  split
  · exact ⟨Nat.lt_of_le_of_lt Nat.and_le_left hs.mu, Nat.or_lt_two_pow hs.ma ht.ma, by have := hs.le; have := ht.le; simp only; omega, by have := hs.mo; have := ht.mo; simp only; omega⟩
  · exact ht

def Few (A : List Wk.Sets) : Prop := ∀ s ∈ A, s.few

theorem few_zero : Wk.zero.few := ⟨by decide, by decide, by decide, by decide⟩

theorem Few.at {A : List Wk.Sets} (h : Few A) (j : Nat) : (A.getD j Wk.zero).few := by
  rw [List.getD_eq_getElem?_getD]
  cases e : A[j]? with
  | none => exact few_zero
  | some x => exact h x (List.mem_of_getElem? e)

theorem Few.set {A : List Wk.Sets} (h : Few A) {j : Nat} {s : Wk.Sets} (hs : s.few) : Few (A.set j s) := fun x hx => by
  rcases List.mem_or_eq_of_mem_set hx with h1 | h1
  · exact h x h1
  · rw [h1]; exact hs

theorem few_lead {n : Nat} {A : List Wk.Sets} {s : Wk.Sets} {to : Int} (h : Few A) (hs : s.few) : Few (leadA n A s to) := by
  unfold leadA
  split
  · exact h
  · exact h.set (few_join (h.at _) hs)

theorem lead_length {n : Nat} {A : List Wk.Sets} {s : Wk.Sets} {to : Int} : (leadA n A s to).length = A.length := by
  unfold leadA
  split
  · rfl
  · simp

/-- one behind the other they come to what leadTo tells -/
theorem leads_fold (n : Nat) (s : Wk.Sets) : ∀ (l : List Int) (A : List Wk.Sets), l.foldl (fun A to => leadA n A s to) A = Wk.leadTo A s (leadP n l)
  | [], _ => rfl
  | to :: l, A => by
    rw [List.foldl_cons, leads_fold n s l]
    by_cases e : to = 1001
    · have e1 : leadA n A s to = A := by unfold leadA; rw [if_pos e]
      have e2 : leadP n (to :: l) = leadP n l := by unfold leadP; rw [List.filterMap_cons_none (by rw [if_pos e])]
      rw [e1, e2]
    · have e1 : leadA n A s to = A.set (tgtN n to) (Wk.joinS (A.getD (tgtN n to) Wk.zero) s) := by unfold leadA; rw [if_neg e]
      have e2 : leadP n (to :: l) = tgtN n to :: leadP n l := by unfold leadP; rw [List.filterMap_cons_some (by rw [if_neg e])]
      rw [e1, e2]
      rfl

set_option maxHeartbeats 4000000 in
set_option maxRecDepth 20000 in
theorem lead_no (q g : Nat) (A : List Wk.Sets) (s : Wk.Sets) (w : World) (ha : Ahd g A w) : Calls Tryz.prog 103 #[.pointer (some ⟨q, 0, none⟩), .int .i64 1001, s.v] w (LeadDone g A w) := by
  have HE : Hid (∀ o, LeadDone g A w (.returned (.tuple #[])) (w.alloc o)) := fun o => ⟨rfl, ha.step (bl_alloc (Below.refl _ _)), But.of (bl_alloc (Below.refl _ _)) (Nat.le_of_lt ha.lt)⟩
  clear ha
  go_enter Tryz.func103, Tryz.ntmps103
  go_wp2
  go_end0
  exact HE.out _

theorem wlead_any {d : PlanD} {q g : Nat} {A : List Wk.Sets} {w : World} (s : Wk.Sets) (to : Int) (hb : WkB d q g w) (ha : Ahd g A w) (hf : Few A) (hs : s.few) (hl : A.length = d.states.n + 1) (ht : to = 1000 ∨ to = 1001 ∨ (0 ≤ to ∧ to < (d.states.n : Int))) (hn : d.states.n ≤ 8) :
    Calls Tryz.prog 103 #[.pointer (some ⟨q, 0, none⟩), .int .i64 to, s.v] w (LeadDone g (leadA d.states.n A s to) w) := by
  by_cases e : to = 1001
  · subst e
    have : leadA d.states.n A s 1001 = A := by unfold leadA; rw [if_pos rfl]
    rw [this]
    exact lead_no q g A s w ha
  · have e1 : leadA d.states.n A s to = A.set (tgtN d.states.n to) (Wk.joinS (A.getD (tgtN d.states.n to) Wk.zero) s) := by unfold leadA; rw [if_neg e]
    rw [e1]
    have hj : tgtN d.states.n to < A.length := by unfold tgtN; split <;> omega
    have hx : A[tgtN d.states.n to]? = some (A.getD (tgtN d.states.n to) Wk.zero) := by rw [List.getD_eq_getElem?_getD, List.getElem?_eq_getElem hj]; rfl
    refine lead_at s _ to _ hb ha hs (hf.at _) hx hl e ?_
    unfold tgtN
    by_cases e2 : to = 1000
    · exact .inl ⟨e2, by rw [if_pos e2]⟩
    · exact .inr ⟨e2, by rw [if_neg e2]; omega⟩

/-- what goOver does -/
def GoDone (g : Nat) (C : Int) (A' : List Wk.Sets) (w : World) (e : Ending) (w' : World) : Prop := e = .returned (.int .i64 C) ∧ But g w w' ∧ (C = 0 → Ahd g A' w')

set_option maxHeartbeats 4000000 in
set_option maxRecDepth 20000 in
theorem go_no {d : PlanD} {q g : Nat} {A : List Wk.Sets} {w : World} (k : Nat) (hb : WkB d q g w) (ha : Ahd g A w) {x : Wk.Sets} (hx : A[k]? = some x) (hl : A.length = d.states.n + 1) (ht : x.there = false) :
    Calls Tryz.prog 74 #[.pointer (some ⟨q, 0, none⟩), .int .i64 k] w (GoDone g 0 A w) := by
  have HE : Hid (GoDone g 0 A w (.returned (.int .i64 0)) w) := ⟨rfl, But.refl _ _, fun _ => ha⟩
  obtain ⟨m, hm⟩ : ∃ m, m = d.states.n + 1 := ⟨_, rfl⟩
  have h7 := hb.h7
  rw [← hm] at h7
  have c4 := (ha.cs k x hx).c4
  rw [ht] at c4
  have hk : (k : Int) < (m : Int) := by have := (List.getElem?_eq_some_iff.1 hx).1; omega
  have hk0 : (0 : Int) ≤ (k : Int) := by omega
  clear hb ha hx hl ht hm
  go_enter Tryz.func74, Tryz.ntmps74
  go_wp2
  go_ret
  exact HE.out
end Go.Proofs.YtajelgjbgehahaaGreat

namespace Go.Proofs.YtajelgjbgehahaaGreat
open Go.RowKit

theorem shift_none (s : Wk.Sets) : Wk.shiftS 0 0 s = s := by
  obtain ⟨a, b, c, d, e⟩ := s
  simp [Wk.shiftS]

theorem p_at {d : PlanD} {k : Nat} {x : StateD} (h : d.ss[k]? = some x) : d.p.ss.getD k PState.z = x.p := map_getD h _

theorem behind_any {d : PlanD} {q : Nat} {x : StateD} {s : Wk.Sets} {w : World} {i : Nat} (hl : d.lie w) (hq : w.cell? ⟨q, 0, none⟩ = some (.slice d.heads.a d.heads.n d.heads.c)) (hs : s.few) (hc : (chkP d.p).1 = 0) (ho : StateOk d.p i x.p) :
    Calls Tryz.prog 102 #[visV q x s] w fun e w' => e = .returned (Wk.shiftS (bitN x.head) (szP d.p x.p) s).v ∧ Below w.heap.size w w' := by
  have hh : x.head = -1 ∨ 0 ≤ x.head ∧ x.head < (d.p.hs.length : Int) := ho.head
  have e6 : (d.p.hs.length : Int) ≤ 6 := (chk_zero hc 0 (by decide)).2.1
  have en : d.p.hs.length = d.heads.n := by simp [PlanD.p, hl.hs.1]
  by_cases h0 : x.head < 0
  · have e1 : bitN x.head = 0 := by unfold bitN; rw [if_pos h0]
    have e2 : szP d.p x.p = 0 := by unfold szP; rw [if_pos (show x.p.head < 0 from h0)]
    rw [e1, e2, shift_none]
    exact behind_no q x s w h0
  · have hlt : x.head.toNat < d.heads.n := by omega
    obtain ⟨hg, hof, hd, ea, hx, hp⟩ := row_at hl.hs hlt
    rw [Nat.mul_one] at hp
    have hz : sizeC (d.p.hs.getD x.head.toNat []) = 0 := (chk_zero hc 0 (by decide)).2.2 _ (by show _ < d.p.hs.length; omega)
    have ew : d.p.hs.getD x.head.toNat [] = hd.ws := map_getD hx _
    rw [ew] at hz
    have e2 : szP d.p x.p = sizeN hd.ws := by
      unfold szP
      rw [if_neg (show ¬ x.p.head < 0 from h0)]
      show sizeN (d.p.hs.getD x.head.toNat []) = _
      rw [ew]
    rw [e2]
    exact behind_yes q x s w hs ⟨by omega, by omega⟩ hq (by omega) ea hp hz

theorem shift_few {s : Wk.Sets} {b z : Nat} (h1 : s.must < 2 ^ 6) (h2 : s.may < 2 ^ 6) (h3 : s.least ≤ 900) (h4 : s.most ≤ 900) (hb : b < 2 ^ 6) (hz : z ≤ 32) : (Wk.shiftS b z s).few :=
  ⟨Nat.or_lt_two_pow h1 hb, Nat.or_lt_two_pow h2 hb, by show s.least + z ≤ 1000; omega, by show s.most + z ≤ 1000; omega⟩

/-- the ways of the first j cases -/
def caseA (n : Nat) (A : List Wk.Sets) (s : Wk.Sets) (cs : List CaseD) (j : Nat) : List Wk.Sets := ((cs.take j).map CaseD.to).foldl (fun A to => leadA n A s to) A

theorem caseA_next {n : Nat} {A : List Wk.Sets} {s : Wk.Sets} {cs : List CaseD} {j : Nat} {c : CaseD} (h : cs[j]? = some c) : caseA n A s cs (j + 1) = leadA n (caseA n A s cs j) s c.to := by
  unfold caseA
  rw [List.take_add_one, h]
  simp

theorem caseA_few {n : Nat} {s : Wk.Sets} (hs : s.few) : ∀ (l : List Int) {A : List Wk.Sets}, Few A → Few (l.foldl (fun A to => leadA n A s to) A) ∧ (l.foldl (fun A to => leadA n A s to) A).length = A.length
  | [], _, hA => ⟨hA, rfl⟩
  | to :: l, A, hA => by
    have := caseA_few (n := n) hs l (few_lead (n := n) (to := to) hA hs)
    exact ⟨this.1, this.2.trans lead_length⟩

theorem caseA_end {n : Nat} {A : List Wk.Sets} {s : Wk.Sets} {x : PState} : leadA n (caseA n A s x.cs x.cs.length) s x.els = Wk.leadTo A s (leadP n (outsP x)) := by
  rw [← leads_fold]
  unfold caseA outsP
  rw [List.take_length, List.foldl_append]
  rfl

theorem on_six {p : PPlan} (hc : (chkP p).1 = 0) {i : Nat} {x : PState} (ho : StateOk p i x) (h : 0 < x.cs.length) : x.r.h < 6 := by
  have hw := ho.on h
  have e6 : (p.hs.length : Int) ≤ 6 := (chk_zero hc 0 (by decide)).2.1
  refine Decidable.byContradiction fun hn => hw ?_
  unfold PPlan.width PPlan.fields
  rw [if_neg (show ¬ x.r.h = -1 by omega), if_neg (show ¬ x.r.h = -2 by omega), if_neg (show ¬ x.r.h = -3 by omega), if_pos (show x.r.h < 0 ∨ (p.hs.length : Int) ≤ x.r.h by omega)]
  rw [if_pos (by simp; omega)]

theorem gkeep {w w' : World} {q sg so g ao : Nat} {v0 v1 u0 u1 u2 u3 u4 t0 t1 t2 t3 t4 : Value} (h : w.cell? ⟨q, 2, none⟩ = some v0 ∧ w.cell? ⟨q, 7, none⟩ = some v1 ∧ w.cell? ⟨sg, so, none⟩ = some u0 ∧ w.cell? ⟨sg, so + 1, none⟩ = some u1 ∧ w.cell? ⟨sg, so + 2, none⟩ = some u2 ∧ w.cell? ⟨sg, so + 3, none⟩ = some u3 ∧ w.cell? ⟨sg, so + 4, none⟩ = some u4 ∧ w.cell? ⟨g, ao, none⟩ = some t0 ∧ w.cell? ⟨g, ao + 1, none⟩ = some t1 ∧ w.cell? ⟨g, ao + 2, none⟩ = some t2 ∧ w.cell? ⟨g, ao + 3, none⟩ = some t3 ∧ w.cell? ⟨g, ao + 4, none⟩ = some t4) (b : Below w.heap.size w w') : w'.cell? ⟨q, 2, none⟩ = some v0 ∧ w'.cell? ⟨q, 7, none⟩ = some v1 ∧ w'.cell? ⟨sg, so, none⟩ = some u0 ∧ w'.cell? ⟨sg, so + 1, none⟩ = some u1 ∧ w'.cell? ⟨sg, so + 2, none⟩ = some u2 ∧ w'.cell? ⟨sg, so + 3, none⟩ = some u3 ∧ w'.cell? ⟨sg, so + 4, none⟩ = some u4 ∧ w'.cell? ⟨g, ao, none⟩ = some t0 ∧ w'.cell? ⟨g, ao + 1, none⟩ = some t1 ∧ w'.cell? ⟨g, ao + 2, none⟩ = some t2 ∧ w'.cell? ⟨g, ao + 3, none⟩ = some t3 ∧ w'.cell? ⟨g, ao + 4, none⟩ = some t4 := by
  obtain ⟨h0, h1, h2, h3, h4, h5, h6, h7, h8, h9, h10, h11⟩ := h
  exact ⟨cell_keep h0 b, cell_keep h1 b, cell_keep h2 b, cell_keep h3 b, cell_keep h4 b, cell_keep h5 b, cell_keep h6 b, cell_keep h7 b, cell_keep h8 b, cell_keep h9 b, cell_keep h10 b, cell_keep h11 b⟩

set_option maxHeartbeats 16000000 in
set_option maxRecDepth 20000 in
theorem go_yes {d : PlanD} {q g k : Nat} {A : List Wk.Sets} {w : World} {s : Wk.Sets} {x : StateD} (hl : d.lie w) (hc : (chkP d.p).1 = 0) (hb : WkB d q g w) (ha : Ahd g A w) (hf : Few A) (hlen : A.length = d.states.n + 1) (hk : k < d.states.n) (hx : d.ss[k]? = some x) (hs : A[k]? = some s) (ht : s.there = true) (h9 : s.least ≤ 900 ∧ s.most ≤ 900) (hlg : ∀ w', But g w w' → d.lie w') :
    Calls Tryz.prog 74 #[.pointer (some ⟨q, 0, none⟩), .int .i64 k] w (GoDone g (wrongN x.p s) (Wk.leadTo A (Wk.shiftS (bitN x.head) (szP d.p x.p) s) (leadP d.states.n (outsP x.p))) w) := by
  have hn8 : d.states.n ≤ 8 := by
    have : (d.p.ss.length : Int) ≤ 8 := (chk_zero hc 2 (by decide)).2.1
    have e : d.p.ss.length = d.states.n := by simp [PlanD.p, hl.ss.1]
    omega
  have hkl : k < d.p.ss.length := by simp [PlanD.p, hl.ss.1]; exact hk
  have ho : StateOk d.p k x.p := by have := state_ok hc hkl; rwa [p_at hx] at this
  have hsf : s.few := hf s (List.mem_of_getElem? hs)
  obtain ⟨sg, so, x', ea, hx', hp⟩ := row_at hl.ss hk
  obtain rfl : x = x' := by rw [hx] at hx'; exact Option.some.inj hx'
  obtain ⟨⟨k0, _⟩, ⟨k1, _⟩, ⟨k2, _⟩, ⟨k3, _⟩, ⟨k4, _⟩, hcs⟩ := hp
  have hkg : ∀ w', But g w w' → QRow 3 CaseD.lie w' x.cases x.cs := fun w' h => by
    obtain ⟨_, _, x2, _, hx2, hp2⟩ := row_at (hlg w' h).ss hk
    obtain rfl : x = x2 := by rw [hx] at hx2; exact Option.some.inj hx2
    exact hp2.2.2.2.2.2
  obtain ⟨z0, z2, z7, hne⟩ := hb
  rw [ea] at z2
  obtain ⟨a0, a1, a2, a3, a4⟩ := ha.cs k s hs
  rw [ht] at a4
  obtain ⟨m, hm⟩ : ∃ m, m = d.states.n + 1 := ⟨_, rfl⟩
  rw [← hm] at z7
  have hki : (k : Int) < (d.states.n : Int) := by omega
  have hkm : (k : Int) < (m : Int) := by omega
  have hk0 : (0 : Int) ≤ (k : Int) := by omega
  obtain ⟨ca, eca⟩ : ∃ ca, x.cases.a = ca := ⟨_, rfl⟩
  obtain ⟨r, er⟩ : ∃ r, r = (Wk.shiftS (bitN x.head) (szP d.p x.p) s) := ⟨_, rfl⟩
  have hsz32 : szP d.p x.p ≤ 32 := by
    have h1 : szP d.p (d.p.ss.getD k PState.z) ≤ 32 := szP_le hc k
    rwa [p_at hx] at h1
  have hrf : r.few := by rw [er]; exact shift_few hsf.mu hsf.ma h9.1 h9.2 (bitN_six (by have h1 : x.head = -1 ∨ 0 ≤ x.head ∧ x.head < (d.p.hs.length : Int) := ho.head; have e6 : (d.p.hs.length : Int) ≤ 6 := (chk_zero hc 0 (by decide)).2.1; omega)) hsz32
  have HWR : Hid (∀ w', Calls Tryz.prog 101 #[.agg #[.pointer (some ⟨q, 0, none⟩), .int .i64 x.head, .int .i64 x.r.h, .int .i64 x.r.f, .slice ca x.cases.n x.cases.c, .int .i64 x.els, .int .u64 (s.must : Int), .int .u64 (s.may : Int), .int .i64 (s.least : Int), .int .i64 (s.most : Int), .bool true]] w' fun e w'' => e = .returned (.int .i64 (wrongN x.p s)) ∧ Below w'.heap.size w' w'') := fun w' => by
    have := vwrong_any q x s w' hsf (by have h1 : x.head = -1 ∨ 0 ≤ x.head ∧ x.head < (d.p.hs.length : Int) := ho.head; have e6 : (d.p.hs.length : Int) ≤ 6 := (chk_zero hc 0 (by decide)).2.1; omega) (fun h => on_six hc ho (by show 0 < x.cs.length; rw [hcs.1]; exact h)) hcs.1
    unfold visV at this
    rwa [ht, eca] at this
  have HBE : Hid (∀ w', But g w w' → Calls Tryz.prog 102 #[.agg #[.pointer (some ⟨q, 0, none⟩), .int .i64 x.head, .int .i64 x.r.h, .int .i64 x.r.f, .slice ca x.cases.n x.cases.c, .int .i64 x.els, .int .u64 (s.must : Int), .int .u64 (s.may : Int), .int .i64 (s.least : Int), .int .i64 (s.most : Int), .bool true]] w' fun e w'' => e = .returned (.agg #[.int .u64 (r.must : Int), .int .u64 (r.may : Int), .int .i64 (r.least : Int), .int .i64 (r.most : Int), .bool r.there]) ∧ Below w'.heap.size w' w'') := fun w' h => by
    have := behind_any (q := q) (x := x) (s := s) (hlg w' h) (h.cell hne z0) hsf hc ho
    rw [← er] at this
    unfold visV at this
    rwa [ht, eca] at this
  have HLD : Hid (∀ (w' : World) (B : List Wk.Sets) (to : Int), But g w w' → Ahd g B w' → Few B → B.length = d.states.n + 1 → to ∈ outsP x.p → Calls Tryz.prog 103 #[.pointer (some ⟨q, 0, none⟩), .int .i64 to, .agg #[.int .u64 (r.must : Int), .int .u64 (r.may : Int), .int .i64 (r.least : Int), .int .i64 (r.most : Int), .bool r.there]] w' (LeadDone g (leadA d.states.n B r to) w')) := fun w' B to h hB hf' hl' hto =>
    wlead_any r to (WkB.but ⟨z0, by rw [ea]; exact z2, by rw [← hm]; exact z7, hne⟩ h) hB hf' hrf hl' (by
      rcases ho.out to hto with h1 | h1 | h1
      · exact .inl h1
      · exact .inr (.inl h1)
      · have e : d.p.ss.length = d.states.n := by simp [PlanD.p, hl.ss.1]
        exact .inr (.inr (by omega))) hn8
  have HRF := hid hrf
  have HER := hid er
  have HCA := hid eca
  have HA := hid ha
  have HF := hid hf
  have HLG := hid hlg
  have HKG := hid hkg
  have HO := hid ho
  have HC := hid hc
  have HSF := hid hsf
  have HLN := hid hlen
  have H9 := hid h9
  have HBB : Hid (WkB d q g w) := ⟨z0, by rw [ea]; exact z2, by rw [← hm]; exact z7, hne⟩
  have HN8 := hid hn8
  have HGL : Hid (g < w.heap.size) := ha.lt
  have HCN := hid hcs.1
  rw [eca] at k3
  clear ha hf hlg hkg ho hc hsf hlen h9 hn8 hl hcs hx hs hk hkl hx' hm ea hrf er eca hsz32
  go_enter Tryz.func74, Tryz.ntmps74
  go_wp2_with fail
  go_region_held3 (fun w' => w'.cell? ⟨q, 2, none⟩ = some (.slice (some ⟨sg, so, none⟩) d.states.n d.states.c) ∧ w'.cell? ⟨q, 7, none⟩ = some (.slice (some ⟨g, 0, none⟩) m m) ∧ w'.cell? ⟨sg, so + k * 5, none⟩ = some (.int .i64 x.head) ∧ w'.cell? ⟨sg, so + k * 5 + 1, none⟩ = some (.int .i64 x.r.h) ∧ w'.cell? ⟨sg, so + k * 5 + 2, none⟩ = some (.int .i64 x.r.f) ∧ w'.cell? ⟨sg, so + k * 5 + 3, none⟩ = some (.slice ca x.cases.n x.cases.c) ∧ w'.cell? ⟨sg, so + k * 5 + 4, none⟩ = some (.int .i64 x.els) ∧ w'.cell? ⟨g, k * 5, none⟩ = some (.int .u64 (s.must : Int)) ∧ w'.cell? ⟨g, k * 5 + 1, none⟩ = some (.int .u64 (s.may : Int)) ∧ w'.cell? ⟨g, k * 5 + 2, none⟩ = some (.int .i64 (s.least : Int)) ∧ w'.cell? ⟨g, k * 5 + 3, none⟩ = some (.int .i64 (s.most : Int)) ∧ w'.cell? ⟨g, k * 5 + 4, none⟩ = some (.bool true))
    (first
      | (go_split_ands; with_reducible exact gkeep ⟨by assumption, by assumption, by assumption, by assumption, by assumption, by assumption, by assumption, by assumption, by assumption, by assumption, by assumption, by assumption⟩ (bl_alloc (Below.refl _ _)))
      | go_keep)
    (fail)
  obtain ⟨Wv, hWv⟩ : ∃ Wv, Wv = (w.alloc (.cells #[.pointer (some ⟨q, 0, none⟩), .int .i64 x.head, .int .i64 x.r.h, .int .i64 x.r.f, .slice ca x.cases.n x.cases.c, .int .i64 x.els, .int .u64 (s.must : Int), .int .u64 (s.may : Int), .int .i64 (s.least : Int), .int .i64 (s.most : Int), .bool true] 215)).drew := ⟨_, rfl⟩
  obtain ⟨v, hv⟩ : ∃ v, v = w.heap.size := ⟨_, rfl⟩
  have bv : Below w.heap.size w Wv := by rw [hWv]; exact (bl_alloc (Below.refl _ _)).drew
  have VC : Hid (∀ i, i < 11 → Wv.cell? ⟨v, i, none⟩ = (#[.pointer (some ⟨q, 0, none⟩), .int .i64 x.head, .int .i64 x.r.h, .int .i64 x.r.f, .slice ca x.cases.n x.cases.c, .int .i64 x.els, .int .u64 (s.must : Int), .int .u64 (s.may : Int), .int .i64 (s.least : Int), .int .i64 (s.most : Int), .bool true] : Array Value)[i]?) := fun i hi => by rw [hWv, hv]; exact World.cell?_alloc_at _ _ _ _ rfl
  rw [← hWv, ← hv]
  have HBV := hid (But.of bv (Nat.le_of_lt HGL.out))
  have HBWV := hid bv
  have hvg : v ≠ g := by have := HGL.out; omega
  clear hWv hv bv z0 z2 z7 k0 k1 k2 k3 k4 a0 a1 a2 a3 a4 hki hkm hk0
  have c0 : Wv.cell? ⟨v, 0, none⟩ = some (.pointer (some ⟨q, 0, none⟩)) := VC.out 0 (by decide)
  have c1 : Wv.cell? ⟨v, 1, none⟩ = some (.int .i64 x.head) := VC.out 1 (by decide)
  have c2 : Wv.cell? ⟨v, 2, none⟩ = some (.int .i64 x.r.h) := VC.out 2 (by decide)
  have c3 : Wv.cell? ⟨v, 3, none⟩ = some (.int .i64 x.r.f) := VC.out 3 (by decide)
  have c4 : Wv.cell? ⟨v, 4, none⟩ = some (.slice ca x.cases.n x.cases.c) := VC.out 4 (by decide)
  have c5 : Wv.cell? ⟨v, 5, none⟩ = some (.int .i64 x.els) := VC.out 5 (by decide)
  have c6 : Wv.cell? ⟨v, 6, none⟩ = some (.int .u64 (s.must : Int)) := VC.out 6 (by decide)
  have c7 : Wv.cell? ⟨v, 7, none⟩ = some (.int .u64 (s.may : Int)) := VC.out 7 (by decide)
  have c8 : Wv.cell? ⟨v, 8, none⟩ = some (.int .i64 (s.least : Int)) := VC.out 8 (by decide)
  have c9 : Wv.cell? ⟨v, 9, none⟩ = some (.int .i64 (s.most : Int)) := VC.out 9 (by decide)
  have c10 : Wv.cell? ⟨v, 10, none⟩ = some (.bool true) := VC.out 10 (by decide)
  go_wp2_with fail
  refine (HWR.out _).mono ?_
  rintro e w1 ⟨rfl, hb1⟩
  have HB1 := hid (HBV.out.trans (But.of hb1 (Nat.le_trans (Nat.le_of_lt HGL.out) HBV.out.size)))
  have HBW1 := hid (bl_step HBWV.out hb1)
  clear HWR HBV VC HBWV
  have d0 := cell_keep c0 hb1
  have d1 := cell_keep c1 hb1
  have d2 := cell_keep c2 hb1
  have d3 := cell_keep c3 hb1
  have d4 := cell_keep c4 hb1
  have d5 := cell_keep c5 hb1
  have d6 := cell_keep c6 hb1
  have d7 := cell_keep c7 hb1
  have d8 := cell_keep c8 hb1
  have d9 := cell_keep c9 hb1
  have d10 := cell_keep c10 hb1
  clear c0 c1 c2 c3 c4 c5 c6 c7 c8 c9 c10 hb1
  by_cases hC : wrongN x.p s = 0
  · have HE : Hid (∀ w', But g w w' → Ahd g (Wk.leadTo A r (leadP d.states.n (outsP x.p))) w' → GoDone g (wrongN x.p s) (Wk.leadTo A (Wk.shiftS (bitN x.head) (szP d.p x.p) s) (leadP d.states.n (outsP x.p))) w (.returned (.int .i64 0)) w') := fun w' h1 h2 => ⟨by rw [hC], h1, fun _ => by rw [← HER.out]; exact h2⟩
    rw [hC]
    clear hC
    have HB1' := HB1
    go_wp2_with fail
    refine (HBE.out _ HB1.out).mono ?_
    rintro e w2 ⟨rfl, hb2⟩
    clear HBE
    have e0 := cell_keep d0 hb2
    have e4 := cell_keep d4 hb2
    have e5 := cell_keep d5 hb2
    have hvl2 : v < w2.heap.size := World.block_lt_of_cell? w2 _ e0
    obtain ⟨W3, hW3⟩ : ∃ W3, W3 = w2.alloc (.cells #[.int .u64 (r.must : Int), .int .u64 (r.may : Int), .int .i64 (r.least : Int), .int .i64 (r.most : Int), .bool r.there] 129) := ⟨_, rfl⟩
    obtain ⟨u, hu⟩ : ∃ u, u = w2.heap.size := ⟨_, rfl⟩
    have b3 : Below w2.heap.size w2 W3 := by rw [hW3]; exact bl_alloc (Below.refl _ _)
    have F3 : Hid (Five W3 u 0 r) := by rw [hW3, hu]; refine ⟨?_, ?_, ?_, ?_, ?_⟩ <;> exact (World.cell?_alloc_at _ _ _ _ rfl).trans rfl
    have g1 : g ≤ w1.heap.size := Nat.le_trans (Nat.le_of_lt HGL.out) HB1.out.size
    have HB3 := hid ((HB1.out.trans (But.of hb2 g1)).trans (But.of b3 (Nat.le_trans g1 hb2.size)))
    have hug : u ≠ g := by have := HGL.out; have := HB1.out.size; have := hb2.size; omega
    have HV3 : Hid (W3.cell? ⟨v, 0, none⟩ = some (.pointer (some ⟨q, 0, none⟩)) ∧ W3.cell? ⟨v, 4, none⟩ = some (.slice ca x.cases.n x.cases.c) ∧ W3.cell? ⟨v, 5, none⟩ = some (.int .i64 x.els)) := ⟨cell_keep e0 b3, cell_keep e4 b3, cell_keep e5 b3⟩
    have HA3 : Hid (Ahd g A W3) := HA.out.step (bl_step (bl_step HBW1.out hb2) b3)
    have hcn : x.cases.n ≤ 4 := by have h1 : x.cs.length ≤ 4 := HO.out.few; have := HCN.out; omega
    have E3 := hid hW3
    have EU := hid hu
    have HTO : Hid (∀ (j : Nat) (c : CaseD), x.cs[j]? = some c → c.to ∈ outsP x.p) := fun j c h => List.mem_append_left _ (List.mem_map.2 ⟨c, List.mem_of_getElem? h, rfl⟩)
    have HTE : Hid (x.els ∈ outsP x.p) := List.mem_append_right _ List.mem_cons_self
    have HFW : Hid (∀ j, Few (caseA d.states.n A r x.cs j) ∧ (caseA d.states.n A r x.cs j).length = d.states.n + 1) := fun j => by
      have := caseA_few (n := d.states.n) HRF.out ((x.cs.take j).map CaseD.to) HF.out
      exact ⟨this.1, this.2.trans HLN.out⟩
    clear d0 d1 d2 d3 d4 d5 d6 d7 d8 d9 d10 hW3 hu b3 hb2 HBW1 HB1 HB1' HA g1 HF HLN H9 HSF HLG HN8 HC HER HRF
    go_wp2
    rw [← E3.out, ← EU.out]
    clear E3 EU e0 e4 e5 hvl2
    obtain ⟨e0, e4, e5⟩ := HV3.out
    go_loopw [47, 9] (fun qv _ wr => ∃ j : Nat, j ≤ x.cases.n ∧ qv = .int .i64 j ∧ Hid (Ahd g (caseA d.states.n A r x.cs j) wr) ∧ Hid (But g W3 wr)) (fun qv _ _ => x.cases.n - (intOf qv).toNat)
    case atStart => exact ⟨0, Nat.zero_le _, rfl, HA3, But.refl _ _⟩
    case round =>
      obtain ⟨j, hj, rfl, HAJ, HBJ⟩ := hrel
      clear e0 e4 e5
      have e0 := HBJ.out.cell hvg HV3.out.1
      have e5 := HBJ.out.cell hvg HV3.out.2.2
      obtain ⟨p0, p1, p2, p3, p4⟩ := HBJ.out.five hug F3.out
      simp only [Nat.zero_add] at p1 p2 p3 p4
      have HBWJ := hid (HB3.out.trans HBJ.out)
      by_cases hlt : j < x.cases.n
      · have hji : (j : Int) < (x.cases.n : Int) := by omega
        obtain ⟨cg, co, c, eca, hcj, hcp⟩ := row_at (HKG.out _ HBWJ.out) hlt
        obtain rfl : ca = some ⟨cg, co, none⟩ := by rw [← HCA.out]; exact eca
        obtain ⟨⟨q0, _⟩, ⟨q1, _⟩, ⟨q2, _⟩⟩ := hcp
        have HL1 : Hid (∀ o, Calls Tryz.prog 103 #[.pointer (some ⟨q, 0, none⟩), .int .i64 c.to, .agg #[.int .u64 (r.must : Int), .int .u64 (r.may : Int), .int .i64 (r.least : Int), .int .i64 (r.most : Int), .bool r.there]] (wr.alloc o) (LeadDone g (leadA d.states.n (caseA d.states.n A r x.cs j) r c.to) (wr.alloc o))) := fun o =>
          HLD.out _ _ _ (HBWJ.out.trans (But.of (bl_alloc (Below.refl _ _)) (Nat.le_of_lt HAJ.out.lt))) (HAJ.out.step (bl_alloc (Below.refl _ _))) (HFW.out j).1 (HFW.out j).2 (HTO.out j c hcj)
        have HNX := hid (caseA_next (n := d.states.n) (A := A) (s := r) hcj)
        have HGJ : Hid (g < wr.heap.size) := HAJ.out.lt
        have hvl : v < wr.heap.size := World.block_lt_of_cell? _ _ e0
        have hul : u < wr.heap.size := World.block_lt_of_cell? _ _ p0
        clear hcj eca HAJ
        go_wp2_with fail
        refine (HL1.out _).mono ?_
        rintro e w4 ⟨rfl, ha4, hb4⟩
        have RA : Hid (Ahd g (caseA d.states.n A r x.cs (j + 1)) w4) := by show Ahd g _ w4; rw [HNX.out]; exact ha4
        have RB := hid (HBJ.out.trans ((But.of (bl_alloc (Below.refl _ _)) (Nat.le_of_lt HGJ.out)).trans hb4))
        clear HL1 ha4 hb4 HBJ HNX q0 q1 q2 p0 p1 p2 p3 p4 e0 e5
        go_wp2
        go_roundw
        case rel => exact ⟨j + 1, by omega, by go_num, RA, RB⟩
        case measure => simp [intOf]; omega
      · have ej : j = x.cases.n := by omega
        have hji : ¬ (j : Int) < (x.cases.n : Int) := by omega
        have HL2 := hid (HLD.out _ _ _ HBWJ.out HAJ.out (HFW.out j).1 (HFW.out j).2 HTE.out)
        have HED := hid (caseA_end (n := d.states.n) (A := A) (s := r) (x := x.p))
        have HEJ : Hid (caseA d.states.n A r x.cs j = caseA d.states.n A r x.p.cs x.p.cs.length) := by show _ = caseA d.states.n A r x.cs x.cs.length; rw [ej, HCN.out]
        clear HLD HAJ ej
        go_wp2_with fail
        refine HL2.out.mono ?_
        rintro e w4 ⟨rfl, ha4, hb4⟩
        have HF := hid (HE.out w4 (HBWJ.out.trans hb4) (by rw [← HED.out, ← HEJ.out]; exact ha4))
        clear HL2 ha4 hb4 HE HBJ HBWJ p0 p1 p2 p3 p4 e0 e5
        go_wp2
        go_ret
        exact HF.out
  · have hCn : (wrongN x.p s != 0) = true := by rw [bne_iff_ne]; exact hC
    have HE : Hid (GoDone g (wrongN x.p s) (Wk.leadTo A (Wk.shiftS (bitN x.head) (szP d.p x.p) s) (leadP d.states.n (outsP x.p))) w (.returned (.int .i64 (wrongN x.p s))) w1) := ⟨rfl, HB1.out, fun h => absurd h hC⟩
    generalize wrongN x.p s = C at *
    clear hC HBE HLD d0 d1 d2 d3 d4 d5 d6 d7 d8 d9 d10
    go_wp2
    go_ret
    exact HE.out
end Go.Proofs.YtajelgjbgehahaaGreat
