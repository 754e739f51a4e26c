/- What is let by stays so, where more room is asked for: the pure part. -/
import Derived.Test.YtjmlkaciibdpaaaHDef
namespace Go.Proofs.Ytjmlkaciibdpaaa
open Go.RowKit

/-- an instruction that asks for more room -/
def moreI (k : Nat) (x : InsD) : InsD := if x.op = 9 then { x with n := min (x.n + k) 600 } else x
theorem moreI_op (k : Nat) (x : InsD) : (moreI k x).op = x.op := by unfold moreI; split <;> rfl
theorem moreI_r (k : Nat) (x : InsD) : (moreI k x).r = x.r := by unfold moreI; split <;> rfl
theorem moreI_s (k : Nat) (x : InsD) : (moreI k x).s = x.s := by unfold moreI; split <;> rfl
theorem moreI_k (k : Nat) (x : InsD) : (moreI k x).k = x.k := by unfold moreI; split <;> rfl
theorem moreI_to (k : Nat) (x : InsD) : (moreI k x).to = x.to := by unfold moreI; split <;> rfl
theorem moreI_n {k : Nat} {x : InsD} (h : x.op ≠ 9) : (moreI k x).n = x.n := by unfold moreI; rw [if_neg h]
theorem moreI_same {k : Nat} {x : InsD} (h : x.op ≠ 9) : moreI k x = x := by unfold moreI; rw [if_neg h]
theorem moreI_nine {k : Nat} {x : InsD} (h : x.op = 9) : (moreI k x).n = min (x.n + k) 600 := by unfold moreI; rw [if_pos h]

def roomLe (a b : Option Nat) : Prop := ∀ n, a = some n → ∃ m, b = some m ∧ n ≤ m
def RD.le (r t : RD) : Prop := t.set = r.set ∧ t.just = r.just ∧ roomLe r.room t.room
def SD.le (s t : SD) : Prop := (∀ i, (s.reg i).le (t.reg i)) ∧ ∀ i, t.slot i = s.slot i
theorem RD.le_refl (r : RD) : r.le r := ⟨rfl, rfl, fun n h => ⟨n, h, Nat.le_refl _⟩⟩
theorem SD.le_refl (s : SD) : s.le s := ⟨fun _ => RD.le_refl _, fun _ => rfl⟩
theorem roomLe.least {a b c d : Option Nat} (h : roomLe a b) (k : roomLe c d) : roomLe (leastO a c) (leastO b d) := fun n hn => by
  cases a with
  | none => simp [leastO] at hn
  | some x =>
    cases c with
    | none => simp [leastO] at hn
    | some y =>
      obtain ⟨x', rfl, hx⟩ := h x rfl
      obtain ⟨y', rfl, hy⟩ := k y rfl
      simp only [leastO, Option.some.injEq] at hn
      exact ⟨min x' y', rfl, by omega⟩
theorem RD.le.join {r r' t t' : RD} (h : r.le r') (k : t.le t') : (r.join t).le (r'.join t') :=
  ⟨by simp only [RD.join, h.1, k.1], by simp only [RD.join, h.2.1, k.2.1], h.2.2.least k.2.2⟩
theorem SD.le.join {r r' t t' : SD} (h : r.le r') (k : t.le t') : (r.join t).le (r'.join t') := ⟨fun i => (h.1 i).join (k.1 i), fun i => by simp only [SD.join, h.2 i, k.2 i]⟩
theorem RD.le.has {r t : RD} (h : r.le t) {n : Nat} (hn : r.has n = true) : t.has n = true := by
  unfold RD.has at hn ⊢
  cases e : r.room with
  | none => rw [e] at hn; cases hn
  | some m =>
    obtain ⟨m', e', hm⟩ := h.2.2 m e
    rw [e] at hn
    rw [e']
    have : n ≤ m := by simpa using hn
    simp only [decide_eq_true_eq]
    omega
theorem RD.le.more {r t : RD} (h : r.le t) {n m : Nat} (hn : n ≤ m) : (r.more n).le (t.more m) := by
  have hset : ∀ (r : RD) n, (r.more n).set = r.set ∧ (r.more n).just = r.just := fun r n => by unfold RD.more; split <;> exact ⟨rfl, rfl⟩
  refine ⟨by rw [(hset _ _).1, (hset _ _).1]; exact h.1, by rw [(hset _ _).2, (hset _ _).2]; exact h.2.1, fun q hq => ?_⟩
  unfold RD.more at hq ⊢
  by_cases h2 : t.has m = true
  · rw [if_pos h2]
    have hm : ∃ m', t.room = some m' ∧ m ≤ m' := by
      unfold RD.has at h2
      cases e : t.room with
      | none => rw [e] at h2; cases h2
      | some m' => rw [e] at h2; exact ⟨m', rfl, by simpa using h2⟩
    obtain ⟨m', e', hm'⟩ := hm
    by_cases h1 : r.has n = true
    · rw [if_pos h1] at hq
      exact h.2.2 q hq
    · rw [if_neg h1] at hq
      simp only [Option.some.injEq] at hq
      exact ⟨m', e', by omega⟩
  · rw [if_neg h2]
    refine ⟨m, rfl, ?_⟩
    by_cases h1 : r.has n = true
    · rw [if_pos h1] at hq
      obtain ⟨q', e', hq'⟩ := h.2.2 q hq
      unfold RD.has at h2
      rw [e'] at h2
      simp only [decide_eq_true_eq] at h2
      omega
    · rw [if_neg h1] at hq
      simp only [Option.some.injEq] at hq
      omega
theorem RD.le.bin {r r' s s' : RD} (h : r.le r') (k : s.le s') (c : Int) : (r.bin c s).le (r'.bin c s') := by
  unfold RD.bin
  split
  · refine ⟨rfl, by simp only [h.2.1, k.2.1], fun n hn => ?_⟩
    dsimp only at hn ⊢
    rw [k.2.1]
    cases e : r.room with
    | none => simp [e, lessO] at hn
    | some a =>
      obtain ⟨a', e', ha⟩ := h.2.2 a e
      cases e2 : s.just with
      | none => simp [e, e2, lessO] at hn
      | some b =>
        rw [e, e2, lessO] at hn
        rw [e', lessO]
        by_cases hb : b ≤ a
        · rw [if_pos hb] at hn
          rw [if_pos (by omega)]
          simp only [Option.some.injEq] at hn
          exact ⟨a' - b, rfl, by omega⟩
        · rw [if_neg hb] at hn
          cases hn
  · exact RD.le_refl _
theorem SD.le.setR {s t : SD} (h : s.le t) {i : Nat} {r r' : RD} (hr : r.le r') : (s.setR i r).le (t.setR i r') := ⟨fun j => by
  show (if j = i then r else s.reg j).le (if j = i then r' else t.reg j)
  split
  · exact hr
  · exact h.1 j, h.2⟩
theorem SD.le.fill {s t : SD} (h : s.le t) (a n : Nat) : (s.fill a n).le (t.fill a n) := ⟨h.1, fun j => by
  show (t.slot j || _) = (s.slot j || _)
  rw [h.2 j]⟩

theorem ready_more {s t : SD} (h : s.le t) (k : Nat) (x : InsD) : readyD t (moreI k x) = readyD s x := by
  unfold readyD
  rw [moreI_op, moreI_r, moreI_s, (h.1 _).1, (h.1 _).1]
theorem asked_more {s t : SD} (h : s.le t) (ts : List ShapeD) (k : Nat) (x : InsD) : askedD ts t (moreI k x) = askedD ts s x := by
  have hs : t.slot = s.slot := funext h.2
  unfold askedD
  rw [moreI_op, moreI_s, hs]
  by_cases h7 : x.op = 7
  · rw [if_pos h7, if_pos h7, moreI_n (by omega)]
  · rw [if_neg h7, if_neg h7]
    by_cases h13 : x.op = 13
    · rw [if_pos h13, if_pos h13]
      unfold keysOf
      rw [moreI_n (by omega)]
    · rw [if_neg h13, if_neg h13]
theorem wrong_more {s t : SD} (h : s.le t) (ts : List ShapeD) (k : Nat) (x : InsD) (hw : wrongD ts s x = 0) : wrongD ts t (moreI k x) = 0 := by
  unfold wrongD at hw ⊢
  rw [ready_more h, asked_more h, moreI_op, moreI_s, moreI_r, moreI_k]
  by_cases h1 : readyD s x = false
  · rw [if_pos h1] at hw; exact absurd hw (by decide)
  rw [if_neg h1] at hw ⊢
  by_cases h2 : x.op = 6 ∧ (s.reg x.s.toNat).has (x.n.toNat + x.k.toNat) = false
  · rw [if_pos h2] at hw; exact absurd hw (by decide)
  rw [if_neg h2] at hw
  have h2' : ¬ (x.op = 6 ∧ (t.reg x.s.toNat).has ((moreI k x).n.toNat + x.k.toNat) = false) := fun ⟨q, e⟩ => by
    rw [moreI_n (by omega)] at e
    have : (s.reg x.s.toNat).has (x.n.toNat + x.k.toNat) = true := by
      cases e2 : (s.reg x.s.toNat).has (x.n.toNat + x.k.toNat)
      · exact absurd ⟨q, e2⟩ h2
      · rfl
    rw [(h.1 _).has this] at e
    cases e
  rw [if_neg h2']
  by_cases h3 : x.op = 15 ∧ (s.reg x.r.toNat).has 0 = false
  · rw [if_pos h3] at hw; exact absurd hw (by decide)
  rw [if_neg h3] at hw
  have h3' : ¬ (x.op = 15 ∧ (t.reg x.r.toNat).has 0 = false) := fun ⟨q, e⟩ => by
    have : (s.reg x.r.toNat).has 0 = true := by
      cases e2 : (s.reg x.r.toNat).has 0
      · exact absurd ⟨q, e2⟩ h3
      · rfl
    rw [(h.1 _).has this] at e
    cases e
  rw [if_neg h3']
  exact hw
theorem behind_more {s t : SD} (h : s.le t) (ts : List ShapeD) (k : Nat) (x : InsD) (h9 : x.op = 9 → 0 ≤ x.n ∧ x.n ≤ 600) : (behindD ts s x).le (behindD ts t (moreI k x)) := by
  by_cases q9 : x.op = 9
  · have e1 : behindD ts s x = s.setR x.r.toNat ((s.reg x.r.toNat).more x.n.toNat) := by
      unfold behindD
      rw [if_neg (by omega), if_neg (by omega), if_neg (by omega), if_neg (by omega), if_neg (by omega), if_neg (by omega), if_pos q9]
    have e2 : behindD ts t (moreI k x) = t.setR x.r.toNat ((t.reg x.r.toNat).more (moreI k x).n.toNat) := by
      unfold behindD
      rw [moreI_op, moreI_r, if_neg (by omega), if_neg (by omega), if_neg (by omega), if_neg (by omega), if_neg (by omega), if_neg (by omega), if_pos q9]
    rw [e1, e2]
    have := h9 q9
    exact h.setR ((h.1 _).more (by rw [moreI_nine q9]; omega))
  · rw [moreI_same q9]
    unfold behindD
    split
    · exact h.setR (RD.le_refl _)
    split
    · exact h.setR (h.1 _)
    split
    · exact h.setR ((h.1 _).bin (h.1 _) _)
    split
    · exact h.setR (RD.le_refl _)
    split
    · exact h.fill _ _
    split
    · exact (h.setR (RD.le_refl _)).fill _ _
    · exact h

def optLe : Option SD → Option SD → Prop
  | none, none => True
  | some s, some t => s.le t
  | _, _ => False
def leA (A B : Nat → Option SD) : Prop := ∀ j, optLe (A j) (B j)
theorem leA_put {A B : Nat → Option SD} (h : leA A B) {i : Nat} {s t : SD} (hs : s.le t) : leA (putA A i s) (putA B i t) := fun j => by
  unfold putA
  split
  · exact hs
  · exact h j
theorem leA_join {A B : Nat → Option SD} (h : leA A B) (i : Nat) {s t : SD} (hs : s.le t) : (joinO (A i) s).le (joinO (B i) t) := by
  have := h i
  cases e : A i with
  | none =>
    cases e2 : B i with
    | none => exact hs
    | some b => rw [e, e2] at this; cases this
  | some a =>
    cases e2 : B i with
    | none => rw [e, e2] at this; cases this
    | some b => rw [e, e2] at this; exact SD.le.join this hs
theorem goes_more (k : Nat) (x : InsD) : goesD (moreI k x) = goesD x := by unfold goesD; rw [moreI_op]
theorem leA_over {A B : Nat → Option SD} (h : leA A B) {s t : SD} (hs : s.le t) (ts : List ShapeD) (k i : Nat) (x : InsD) (h9 : x.op = 9 → 0 ≤ x.n ∧ x.n ≤ 600) : leA (overA ts A i x s) (overA ts B i (moreI k x) t) := by
  have h1 : leA (if hasT x.op = true then putA A (i + 1 + x.to.toNat) (joinO (A (i + 1 + x.to.toNat)) s) else A) (if hasT x.op = true then putA B (i + 1 + x.to.toNat) (joinO (B (i + 1 + x.to.toNat)) t) else B) := by
    split
    · exact leA_put h (leA_join h _ hs)
    · exact h
  unfold overA
  rw [moreI_op, moreI_to, goes_more]
  dsimp only
  split
  · exact leA_put h1 (leA_join h1 _ (behind_more hs ts k x h9))
  · exact h1
theorem guardG_more (ts : List ShapeD) (k : Nat) : ∀ (cs : List InsD) (i : Nat) (A B : Nat → Option SD), (∀ x ∈ cs, x.op = 9 → 0 ≤ x.n ∧ x.n ≤ 600) → leA A B → (guardG ts cs i A).1 = 0 → (guardG ts (cs.map (moreI k)) i B).1 = 0
  | [], _, _, _, _, _, _ => rfl
  | x :: r, i, A, B, h9, h, hg => by
    have hx := h9 x List.mem_cons_self
    have hr : ∀ y ∈ r, y.op = 9 → 0 ≤ y.n ∧ y.n ≤ 600 := fun y hy => h9 y (List.mem_cons_of_mem _ hy)
    rw [List.map_cons, guardG]
    rw [guardG] at hg
    have hi := h i
    cases e : A i with
    | none =>
      cases e2 : B i with
      | none =>
        rw [e] at hg
        exact guardG_more ts k r (i + 1) A B hr h hg
      | some b => rw [e, e2] at hi; cases hi
    | some a =>
      cases e2 : B i with
      | none => rw [e, e2] at hi; cases hi
      | some b =>
        rw [e, e2] at hi
        rw [e] at hg
        dsimp only at hg ⊢
        by_cases hw : wrongD ts a x = 0
        · rw [if_neg (by rw [hw]; decide)] at hg
          rw [if_neg (by rw [wrong_more hi ts k x hw]; decide)]
          exact guardG_more ts k r (i + 1) _ _ hr (leA_over h hi ts k i x hx) hg
        · rw [if_pos hw] at hg
          exact absurd hg hw

theorem bare_more (k : Nat) (x : InsD) : bareB (moreI k x) = bareB x := by
  by_cases h : x.op = 9
  · unfold bareB
    rw [moreI_op, moreI_r, moreI_s, moreI_k, moreI_to, h]
    have : hasN 9 = true := by decide
    rw [this, Bool.true_or, Bool.true_or]
  · rw [moreI_same h]
theorem chkW_more {slots : Int} {ts : List ShapeD} {cs : List InsD} (hw : ∀ x ∈ cs, x.wf) (k : Nat) (h : (chkW slots ts cs).1 = 0) : (chkW (min (slots + k) 96) ts (cs.map (moreI k))).1 = 0 := by
  have hp := chk_fit hw h
  have hz : (sizesN slots ts cs.length).1 = 0 := by
    unfold chkW at h
    by_cases h1 : (sizesN slots ts cs.length).1 ≠ 0
    · rw [if_pos h1] at h; exact absurd h h1
    · simpa using h1
  have hi : (inssN slots ts cs.length cs 0).1 = 0 := by
    unfold chkW at h
    rw [if_neg (by rw [hz]; decide)] at h
    by_cases h1 : (inssN slots ts cs.length cs 0).1 ≠ 0
    · rw [if_pos h1] at h; exact absurd h h1
    · simpa using h1
  have he : endsB ((cs[cs.length - 1]?.map InsD.op).getD 0) = true := by
    unfold chkW at h
    rw [if_neg (by rw [hz]; decide), if_neg (by rw [hi]; decide)] at h
    by_cases h1 : endsB ((cs[cs.length - 1]?.map InsD.op).getD 0) = true
    · exact h1
    · rw [if_neg h1] at h
      exact absurd (show (18 : Int) = 0 from h) (by decide)
  have hs := hp.s
  have hin : inB (min (slots + k) 96) 0 96 = true := by rw [inB_iff]; omega
  have hz' : (sizesN (min (slots + k) 96) ts (cs.map (moreI k)).length).1 = 0 := by
    unfold sizesN at hz ⊢
    rw [List.length_map, if_neg (by rw [hin]; decide)]
    by_cases a1 : inB slots 0 96 = false
    · rw [if_pos a1] at hz; exact absurd hz (by decide)
    rw [if_neg a1] at hz
    exact hz
  have hi' : inssN (min (slots + k) 96) ts (cs.map (moreI k)).length (cs.map (moreI k)) 0 = (0, 0) := by
    refine inss_good fun j y hj hy => ?_
    rw [List.length_map] at hj
    rw [List.getElem?_map, List.getElem?_eq_getElem hj] at hy
    simp only [Option.map_some, Option.some.injEq] at hy
    subst hy
    have hx := hinss_at hi j _ (List.getElem?_eq_getElem hj)
    generalize cs[j] = x at *
    rw [List.length_map]
    unfold insN at hx ⊢
    by_cases h4 : (formB x && fitsB slots ts x) = false
    · rw [if_pos h4] at hx; exact absurd hx (by decide)
    rw [if_neg h4] at hx
    simp only [Bool.not_eq_false, Bool.and_eq_true] at h4
    have hf : formB (moreI k x) = true := by
      have := h4.1
      unfold formB at this ⊢
      rw [bare_more, moreI_op, moreI_to]
      unfold regsB at this ⊢
      rw [moreI_op, moreI_r, moreI_s]
      exact this
    have ht : fitsB (min (slots + k) 96) ts (moreI k x) = true := by
      have h7 := h4.2
      unfold fitsB at h7 ⊢
      rw [moreI_op, moreI_k]
      by_cases q3 : x.op = 3
      · rw [if_pos q3] at h7 ⊢; exact h7
      rw [if_neg q3] at h7 ⊢
      by_cases q6 : x.op = 6
      · rw [if_pos q6] at h7 ⊢
        rw [moreI_n (by omega)]
        exact h7
      rw [if_neg q6] at h7 ⊢
      by_cases q14 : x.op = 14
      · rw [if_pos q14] at h7 ⊢; exact h7
      rw [if_neg q14] at h7 ⊢
      by_cases q9 : x.op = 9
      · rw [if_pos q9]
        rw [moreI_nine q9]
        simp only [decide_eq_true_eq]
        omega
      rw [if_neg q9] at h7 ⊢
      by_cases q7 : x.op = 7 ∨ x.op = 8
      · rw [if_pos q7] at h7 ⊢
        rw [moreI_n (by omega)]
        simp only [decide_eq_true_eq] at h7 ⊢
        omega
      rw [if_neg q7] at h7 ⊢
      by_cases q13 : x.op = 13
      · rw [if_pos q13] at h7 ⊢
        rw [moreI_same (by omega)]
        unfold callB at h7 ⊢
        cases ht : ts[x.n.toNat]? with
        | none => rw [ht] at h7; cases h7
        | some t =>
          rw [ht] at h7
          simp only [Bool.and_eq_true] at h7 ⊢
          have a := inB_true h7.1
          have b := inB_true h7.2
          exact ⟨inB_iff.2 (by omega), inB_iff.2 (by omega)⟩
      · rw [if_neg q13]
    rw [if_neg (by rw [hf, ht]; decide), moreI_op, moreI_to]
    rw [Int.zero_add] at hx
    exact hx
  unfold chkW
  rw [if_neg (by rw [hz']; decide), hi', if_neg (by decide), List.length_map, List.getElem?_map]
  have : ((cs[cs.length - 1]?.map (moreI k)).map InsD.op) = cs[cs.length - 1]?.map InsD.op := by
    cases cs[cs.length - 1]? with
    | none => rfl
    | some x => simp [moreI_op]
  rw [this, if_pos he]

theorem guardW_more {slots : Int} {ts : List ShapeD} {cs : List InsD} (hw : ∀ x ∈ cs, x.wf) (k : Nat) (h : (guardW slots ts cs).1 = 0) : (guardW (min (slots + k) 96) ts (cs.map (moreI k))).1 = 0 := by
  unfold guardW at h ⊢
  have hc : (chkW slots ts cs).1 = 0 := by
    by_cases h1 : (chkW slots ts cs).1 ≠ 0
    · rw [if_pos h1] at h; exact absurd h h1
    · simpa using h1
  rw [if_neg (by rw [hc]; decide)] at h
  rw [if_neg (by rw [chkW_more hw k hc]; decide)]
  refine guardG_more ts k cs 0 _ _ (fun x hx q9 => ?_) (fun j => ?_) h
  · obtain ⟨j, hj, rfl⟩ := List.getElem_of_mem hx
    have hg := gok hw hc (List.getElem?_eq_getElem hj)
    exact ⟨hg.n.1, hg.room q9⟩
  · cases e : startA j with
    | none => trivial
    | some s => exact SD.le_refl s
end Go.Proofs.Ytjmlkaciibdpaaa
