/- Texts of one chain, joined: QChk, ZBk1. -/
import Derived.Test.YtedeiaokohdhpaaGreatG22
import Derived.Test.YtedeiaokohdhpaaGreatG23
import Derived.Test.YtedeiaokohdhpaaGreatG4
namespace Go.Proofs.YtedeiaokohdhpaaGreat
open Go.RowKit
theorem wf_i64 (n : Int) (h : -9223372036854775808 ≤ n ∧ n < 9223372036854775808) : (Lit.int .i64 n).wf = true := by
  simp [Lit.wf, IntKind.min, IntKind.max, IntKind.bits, IntKind.signed]
  omega
def saysC (al : List PAct) (ac : List Int) (dflt : Int) (zs : List Int) : Int := if dflt ∈ ac then hit2 zs (al.getD dflt.toNat ⟨[], []⟩).ws else 5
def storeC (t : PTab) (wl : List Int) (al : List PAct) : Int :=
  if isK t.kind = false then 5 else if InC 1 (mostK t.kind) [(wl.length : Int)] = false ∨ InC 1 4 [(t.al.length : Int)] = false then 2 else if InC 0 16 [t.cap] = false then 1 else if InC 1 48 wl = false then 6 else if InC 0 ((al.length : Int) - 1) t.al = false then 1 else saysC al t.al t.dflt t.zs
theorem says_is {al : List ActD} {ac : List Int} {S : List SayD} {dflt C : Int} {zs : List Int} (h : S.map (fun s => (s.act, s.ps)) = sayL al ac) (hs : SayIs S dflt zs C) : C = saysC (al.map ActD.p) ac dflt zs := by
  have key : ∀ s ∈ S, s.act ∈ ac ∧ s.ps = (al.getD s.act.toNat ActD.z).ws := by
    intro s hs
    have : (s.act, s.ps) ∈ sayL al ac := by rw [← h]; exact List.mem_map.2 ⟨s, hs, rfl⟩
    obtain ⟨i, hi, e⟩ := List.mem_map.1 this
    simp only [Prod.mk.injEq] at e
    obtain ⟨e1, e2⟩ := e
    subst e1
    exact ⟨hi, e2.symm⟩
  have gd : ∀ k : Nat, ((al.map ActD.p).getD k ⟨[], []⟩).ws = (al.getD k ActD.z).ws := by
    intro k
    simp only [List.getD_eq_getElem?_getD, List.getElem?_map]
    cases al[k]? <;> rfl
  unfold saysC
  rcases hs with ⟨hno, rfl⟩ | ⟨s, hs, ha, rfl⟩
  · have : dflt ∉ ac := by
      intro hd
      have : (dflt, (al.getD dflt.toNat ActD.z).ws) ∈ S.map (fun s => (s.act, s.ps)) := by rw [h]; exact List.mem_map.2 ⟨dflt, hd, rfl⟩
      obtain ⟨s, hs, e⟩ := List.mem_map.1 this
      simp only [Prod.mk.injEq] at e
      exact hno s hs e.1
    rw [if_neg this]
  · obtain ⟨h1, h2⟩ := key s hs
    rw [ha] at h1 h2
    rw [if_pos h1, gd, h2]
theorem past3 (w : World) (cs : Array Value) (ty : TypeId) (o1 o2 o3 : Obj) (i : Nat) (v : Value) (h : cs[i]? = some v) : ((((w.alloc (.cells cs ty)).alloc o1).alloc o2).alloc o3).cell? ⟨w.heap.size, i, none⟩ = some v :=
  (World.cell?_alloc_past _ _ _ (by simp; omega)).trans ((World.cell?_alloc_past _ _ _ (by simp; omega)).trans ((World.cell?_alloc_past _ _ _ (by simp)).trans ((World.cell?_alloc_at _ _ _ _ rfl).trans h)))
set_option maxHeartbeats 16000000 in
set_option maxRecDepth 20000 in
theorem check_store (t : TabD) (wq : QSl) (wl : List Int) (aq : QSl) (al : List ActD) (w : World) (hw : Has .i64 w wq.a wq.n wl) (hwn : wq.nil0) (hws : wq.n ≤ 100000) (hcap : (Lit.int .i64 t.cap).wf = true) (ht : Has .i64 w t.acts.a t.acts.n t.al) (htn : t.acts.n ≤ 10000) (hz : Has .u64 w t.args.a t.args.n t.zs) (hzn : t.args.n ≤ 100000) (ha : QRow 2 ActD.lie w aq al) (haq : aq.n ≤ 100000) (hpar : ∀ x ∈ al, x.w.n ≤ 100000) :
    Calls Tryz.prog 98 #[t.v', .slice wq.a wq.n wq.c, .slice aq.a aq.n aq.c] w fun e w' => e = .returned (.int .i64 (storeC t.p wl (al.map ActD.p))) ∧ Below w.heap.size w w' := by
  have bw1 : ∀ o, Below w.heap.size w (w.alloc o) := fun o => bl_alloc (Below.refl _ _)
  have HKI : Hid (∀ w', Calls Tryz.prog 137 #[.int .i64 t.kind] w' fun e w'' => e = .returned (.bool (isK t.kind)) ∧ w'' = w') := fun w' => qkind_any t.kind w'
  have HMO : Hid (∀ w', Calls Tryz.prog 139 #[.int .i64 t.kind] w' fun e w'' => e = .returned (.int .i64 (mostK t.kind)) ∧ w'' = w') := fun w' => qmost_any t.kind w'
  have HW1 : Hid (∀ (lo hi x : Int), (Lit.int .i64 x).wf = true → ∀ (w' : World) (b : Nat), b = w'.heap.size → Calls Tryz.prog 138 #[.int .i64 lo, .int .i64 hi, .slice (some ⟨b, 0, none⟩) 1 1] (w'.alloc (.cells #[.int .i64 x] 3)) fun e w'' => e = .returned (.bool (InC lo hi [x])) ∧ w'' = w'.alloc (.cells #[.int .i64 x] 3)) := fun lo hi x hx w' b hb => by
    subst hb
    exact qwithin_any lo hi _ 1 1 [x] _ (by omega) (has_oneI w' x hx)
  have HWN := hid (HW1.out 1 (mostK t.kind) (wq.n : Int) (wf_i64 _ (by omega)))
  have HTN := hid (HW1.out 1 4 (t.acts.n : Int) (wf_i64 _ (by omega)))
  have HCP := hid (HW1.out 0 16 t.cap hcap)
  have HWW : Hid (∀ w', Below w.heap.size w w' → Calls Tryz.prog 138 #[.int .i64 1, .int .i64 48, .slice wq.a wq.n wq.c] w' fun e w'' => e = .returned (.bool (InC 1 48 wl)) ∧ w'' = w') := fun w' h => qwithin_any 1 48 _ _ _ wl w' hws (hw.step h)
  have HTW : Hid (∀ w', Below w.heap.size w w' → Calls Tryz.prog 138 #[.int .i64 0, .int .i64 ((aq.n : Int) - 1), .slice t.acts.a t.acts.n t.acts.c] w' fun e w'' => e = .returned (.bool (InC 0 ((aq.n : Int) - 1) t.al)) ∧ w'' = w') := fun w' h => qwithin_any 0 _ _ _ _ t.al w' (by omega) (ht.step h)
  have HRU : Hid (InC 0 ((aq.n : Int) - 1) t.al = true → ∀ w', Below w.heap.size w w' → Calls Tryz.prog 140 #[t.v', .slice wq.a wq.n wq.c, .slice aq.a aq.n aq.c] w' (RulesDone t.kind wl al t.al w')) := fun hin w' h =>
    rulesOf_any t wq wl aq al w' (hw.step h) hwn hws (ht.step h) htn (ha.step ActD.keeps h) (fun i hi => by
      have := List.all_eq_true.1 hin i hi
      have := of_decide_eq_true this
      omega) hpar
  have HZ := hid hz
  have HRES : Hid (storeC t.p wl (al.map ActD.p) = if isK t.kind = false then 5 else if InC 1 (mostK t.kind) [(wq.n : Int)] = false ∨ InC 1 4 [(t.acts.n : Int)] = false then 2 else if InC 0 16 [t.cap] = false then 1 else if InC 1 48 wl = false then 6 else if InC 0 ((aq.n : Int) - 1) t.al = false then 1 else saysC (al.map ActD.p) t.al t.dflt t.zs) := by
    show storeC t.p wl (al.map ActD.p) = _
    unfold storeC
    rw [hw.1, List.length_map, ha.1, show t.p.al.length = t.acts.n from ht.1]
    rfl
  have HAL := hid ht.1
  clear hw hwn ht hz ha hpar hcap HW1
  cases hK : isK t.kind with
  | false =>
    rw [hK] at HKI
    rw [if_pos hK] at HRES
    clear HMO HWN HTN HCP HWW HTW HRU hK
    go_enter Tryz.func98, Tryz.ntmps98
    go_wp2_with fail
    refine (HKI.out _).mono ?_
    rintro e w1 ⟨rfl, rfl⟩
    clear HKI
    go_wp2
    go_ret
    exact ⟨by rw [HRES.out]; rfl, bw1 _⟩
  | true =>
    rw [hK] at HKI
    rw [if_neg (by rw [hK]; decide)] at HRES
    clear hK
    go_enter Tryz.func98, Tryz.ntmps98
    go_wp2_with fail
    refine (HKI.out _).mono ?_
    rintro e w1 ⟨rfl, rfl⟩
    clear HKI
    go_wp2_with fail
    refine (HMO.out _).mono ?_
    rintro e w1 ⟨rfl, rfl⟩
    clear HMO
    go_wp2_with fail
    refine (HWN.out _ _ (by simp)).mono ?_
    rintro e w1 ⟨rfl, rfl⟩
    clear HWN
    cases hA : InC 1 (mostK t.kind) [(wq.n : Int)] with
    | false =>
      rw [if_pos (.inl hA)] at HRES
      clear HTN HCP HWW HTW HRU hA
      go_wp2
      go_ret
      exact ⟨by rw [HRES.out]; rfl, (bl_alloc (bl_alloc (Below.refl w.heap.size w)))⟩
    | true =>
      go_wp2_with fail
      refine (HTN.out _ _ (by simp)).mono ?_
      rintro e w1 ⟨rfl, rfl⟩
      clear HTN
      cases hB : InC 1 4 [(t.acts.n : Int)] with
      | false =>
        rw [if_pos (.inr hB)] at HRES
        clear HCP HWW HTW HRU hA hB
        go_wp2
        go_ret
        exact ⟨by rw [HRES.out]; rfl, (bl_alloc (bl_alloc (bl_alloc (Below.refl w.heap.size w))))⟩
      | true =>
        rw [if_neg (fun h => h.elim (fun h => by rw [hA] at h; cases h) (fun h => by rw [hB] at h; cases h))] at HRES
        clear hA hB
        go_wp2_with fail
        refine (HCP.out _ _ (by simp)).mono ?_
        rintro e w1 ⟨rfl, rfl⟩
        clear HCP
        cases hC : InC 0 16 [t.cap] with
        | false =>
          rw [if_pos hC] at HRES
          clear HWW HTW HRU hC
          go_wp2
          go_ret
          exact ⟨by rw [HRES.out]; rfl, (bl_alloc (bl_alloc (bl_alloc (bl_alloc (Below.refl w.heap.size w)))))⟩
        | true =>
          rw [if_neg (fun h => by rw [hC] at h; cases h)] at HRES
          clear hC
          go_wp2_with fail
          refine (HWW.out _ (bl_alloc (bl_alloc (bl_alloc (bl_alloc (Below.refl w.heap.size w)))))).mono ?_
          rintro e w1 ⟨rfl, rfl⟩
          clear HWW
          cases hD : InC 1 48 wl with
          | false =>
            rw [if_pos hD] at HRES
            clear HTW HRU hD
            go_wp2
            go_ret
            exact ⟨by rw [HRES.out]; rfl, (bl_alloc (bl_alloc (bl_alloc (bl_alloc (Below.refl w.heap.size w)))))⟩
          | true =>
            rw [if_neg (fun h => by rw [hD] at h; cases h)] at HRES
            clear hD
            go_wp2_with fail
            refine (HTW.out _ (bl_alloc (bl_alloc (bl_alloc (bl_alloc (Below.refl w.heap.size w)))))).mono ?_
            rintro e w1 ⟨rfl, rfl⟩
            clear HTW
            cases hE : InC 0 ((aq.n : Int) - 1) t.al with
            | false =>
              rw [if_pos hE] at HRES
              clear HRU hE
              go_wp2
              go_ret
              exact ⟨by rw [HRES.out]; rfl, (bl_alloc (bl_alloc (bl_alloc (bl_alloc (Below.refl w.heap.size w)))))⟩
            | true =>
              rw [if_neg (fun h => by rw [hE] at h; cases h)] at HRES
              have HRU := hid (HRU.out hE)
              clear hE
              go_wp2_with fail
              refine (HRU.out _ (bl_alloc (bl_alloc (bl_alloc (bl_alloc (Below.refl w.heap.size w)))))).mono ?_
              rintro e w1 ⟨wa, wc, m, S, rfl, _, hrow, hsays, hb1⟩
              have HB1 := hid (bl_step (bl_alloc (bl_alloc (bl_alloc (bl_alloc (Below.refl w.heap.size w))))) hb1)
              have HROW := hid hrow
              have HSA := hid hsays
              have x4 : w1.cell? ⟨w.heap.size, 4, none⟩ = some (.int .i64 t.dflt) := cell_keep (past3 w _ _ _ _ _ 4 _ rfl) hb1
              have x5 : w1.cell? ⟨w.heap.size, 5, none⟩ = some (.slice t.args.a t.args.n t.args.c) := cell_keep (past3 w _ _ _ _ _ 5 _ rfl) hb1
              have hs1 : w.heap.size < w1.heap.size := World.block_lt_of_cell? w1 _ x4
              have hml : m.n ≤ 100000 := by
                have h1 := congrArg List.length HSA.out
                simp only [List.length_map, sayL, HROW.out.1, HAL.out] at h1
                omega
              have HHI : Hid (∀ o, (w1.alloc o).cell? ⟨w1.heap.size, 2, none⟩ = some (.slice m.a m.n m.c) → Calls Tryz.prog 141 #[.pointer (some ⟨w1.heap.size, 0, none⟩), .agg #[.int .i64 t.dflt, .slice t.args.a t.args.n t.args.c]] (w1.alloc o) (SayDone S t.dflt t.zs (w1.alloc o))) := fun o h2 =>
                qhit_any w1.heap.size m S t.dflt t.args.a t.args.n t.args.c t.zs (w1.alloc o) hml hzn h2 (HROW.out.step SayD.keeps (bl_alloc (Below.refl _ _))) ((HZ.out.step HB1.out).step (bl_alloc (Below.refl _ _)))
              clear HRU hb1 hrow hsays
              go_wp2_with fail
              refine (HHI.out _ ((World.cell?_alloc_at _ _ _ _ rfl).trans rfl)).mono ?_
              rintro e w2 ⟨C, rfl, hC, hb2⟩
              have HC := hid (says_is HSA.out hC)
              have HE := hid (bl_step (bl_alloc HB1.out) hb2)
              clear HHI hC hb2 HB1
              go_wp2
              go_ret
              exact ⟨by rw [HRES.out, ← HC.out]; rfl, HE.out⟩
end Go.Proofs.YtedeiaokohdhpaaGreat

namespace Go.Proofs.YtedeiaokohdhpaaGreat
open Go.RowKit
def Rds {α : Type} (f : List Int → Nat → Except (Int × Int) (α × Nat)) (bs : List Int) (x : α) : Prop :=
  ∀ pre post : List Int, f (pre ++ (bs ++ post)) pre.length = .ok (x, pre.length + bs.length)
theorem plainF_of : ∀ (f n i acc : Nat) (pre post : List Int), f + i = 10 → n < 2 ^ (64 - 7 * i) → (0 < i → 0 < n) → plainF (pre ++ (plainL n ++ post)) f i pre.length acc = .ok (acc + n * 2 ^ (7 * i), pre.length + (plainL n).length)
  | 0, n, i, acc, pre, post, hf, hn, h0 => by
    have e : i = 10 := by omega
    subst e
    have := h0 (by omega)
    have h1 : (2 : Nat) ^ (64 - 7 * 10) = 1 := by decide
    omega
  | f + 1, n, i, acc, pre, post, hf, hn, h0 => by
    have h9 : i = 9 → n < 2 := fun e => by subst e; exact hn
    by_cases hs : n < 128
    · rw [plain_small hs, plainF, List.getElem?_append_right (Nat.le_refl _), Nat.sub_self]
      show (if (i = 9 ∧ 1 < (n : Int)) ∨ (0 < i ∧ (n : Int) = 0) then _ else _) = _
      rw [if_neg (by omega), if_pos (by omega)]
      rfl
    · have hi : i < 9 := by
        rcases Nat.lt_or_ge i 9 with h | h
        · exact h
        · have : i = 9 ∨ i = 10 := by omega
          rcases this with e | e
          · have := h9 e; omega
          · subst e; have h1 : (2 : Nat) ^ (64 - 7 * 10) = 1 := by decide
            omega
      have hd : n / 128 < 2 ^ (64 - 7 * (i + 1)) := by
        have e : (2 : Nat) ^ (64 - 7 * i) = 2 ^ (64 - 7 * (i + 1)) * 128 := by
          rw [show (128 : Nat) = 2 ^ 7 from rfl, ← Nat.pow_add]
          congr 1
          omega
        rw [e] at hn
        exact Nat.div_lt_of_lt_mul (by rw [Nat.mul_comm]; exact hn)
      have ih := plainF_of f (n / 128) (i + 1) (acc + n % 128 * 2 ^ (7 * i)) (pre ++ [((n % 128 + 128 : Nat) : Int)]) post (by omega) hd (fun _ => by omega)
      rw [plain_great hs, plainF, List.getElem?_append_right (Nat.le_refl _), Nat.sub_self]
      show (if (i = 9 ∧ 1 < ((n % 128 + 128 : Nat) : Int)) ∨ (0 < i ∧ ((n % 128 + 128 : Nat) : Int) = 0) then _ else _) = _
      rw [if_neg (by omega), if_neg (by omega)]
      rw [List.length_append, List.append_assoc] at ih
      rw [show (((n % 128 + 128 : Nat) : Int).toNat - 128) = n % 128 by omega]
      refine Eq.trans ih ?_
      have e : acc + n % 128 * 2 ^ (7 * i) + n / 128 * 2 ^ (7 * (i + 1)) = acc + n * 2 ^ (7 * i) := by
        have h1 : (2 : Nat) ^ (7 * (i + 1)) = 128 * 2 ^ (7 * i) := by
          rw [show (128 : Nat) = 2 ^ 7 from rfl, ← Nat.pow_add]
          congr 1
          omega
        have h2 : n * 2 ^ (7 * i) = (n % 128 + 128 * (n / 128)) * 2 ^ (7 * i) := by rw [Nat.mod_add_div]
        rw [h1, h2, Nat.add_mul, ← Nat.mul_assoc, Nat.mul_comm (n / 128) 128]
        omega
      rw [e]
      simp only [List.length_cons, List.length_nil]
      congr 2
      omega
theorem rds_plain {n : Nat} (h : n < 18446744073709551616) : Rds plainR (plainL n) n := fun pre post => by
  have := plainF_of 10 n 0 0 pre post rfl h (by omega)
  simpa [plainR] using this
theorem rds_plainI {z : Int} (h0 : 0 ≤ z) (h : z < 18446744073709551616) : Rds plainI (plainL z.toNat) z := fun pre post => by
  unfold plainI
  rw [rds_plain (n := z.toNat) (by omega) pre post]
  show Except.ok (((z.toNat : Nat) : Int), _) = _
  rw [Int.toNat_of_nonneg h0]
theorem unfold_fold (x : Int) : unfoldN (foldN x) = x := by
  unfold unfoldN foldN
  split <;> split <;> omega
theorem rds_num {x : Int} (h : wfI x) : Rds numR (numL x) x := fun pre post => by
  unfold numR numL
  rw [rds_plain (fold_lt h) pre post]
  show Except.ok (unfoldN (foldN x), _) = _
  rw [unfold_fold]
theorem Rds.next {α β : Type} {f : List Int → Nat → Except (Int × Int) (α × Nat)} {g : α → List Int → Nat → Except (Int × Int) (β × Nat)} {bs cs : List Int} {x : α} {y : β} (hf : Rds f bs x) (hg : Rds (g x) cs y) : Rds (fun zs t => thenR (f zs t) fun a u => g a zs u) (bs ++ cs) y := fun pre post => by
  have h1 := hf pre (cs ++ post)
  have h2 := hg (pre ++ bs) post
  rw [List.append_assoc, List.length_append] at h2
  show thenR (f (pre ++ (bs ++ cs ++ post)) pre.length) _ = _
  rw [List.append_assoc, h1]
  show g x (pre ++ (bs ++ (cs ++ post))) (pre.length + bs.length) = _
  rw [h2, List.length_append, Nat.add_assoc]
theorem Rds.done {α : Type} (x : α) : Rds (fun _ t => .ok (x, t)) [] x := fun _ _ => rfl
theorem Rds.last {α : Type} {f : List Int → Nat → Except (Int × Int) (α × Nat)} {bs : List Int} {x : α} (h : Rds f (bs ++ []) x) : Rds f bs x := by rwa [List.append_nil] at h
theorem rds_list {α γ : Type} {f : List Int → Nat → Except (Int × Int) (α × Nat)} {enc : γ → List Int} {val : γ → α} : ∀ (ys : List γ), (∀ y ∈ ys, Rds f (enc y) (val y)) → Rds (fun zs t => listR (f zs) ys.length t) (ys.flatMap enc) (ys.map val)
  | [], _ => fun pre post => rfl
  | y :: ys, h => fun pre post => by
    have h1 := h y (List.mem_cons_self ..) pre (ys.flatMap enc ++ post)
    have h2 := rds_list ys (fun z hz => h z (List.mem_cons_of_mem _ hz)) (pre ++ enc y) post
    dsimp only at h2 ⊢
    rw [List.append_assoc, List.length_append] at h2
    rw [List.flatMap_cons, List.length_cons, listR, List.append_assoc, h1]
    dsimp only
    rw [h2]
    dsimp only
    rw [List.length_append, List.map_cons, Nat.add_assoc]
theorem rds_listC {α γ : Type} {f : List Int → Nat → Except (Int × Int) (α × Nat)} {enc : γ → List Int} {val : γ → α} (ys : List γ) (hn : ys.length ≤ 100000) (h : ∀ y ∈ ys, Rds f (enc y) (val y)) (h1 : ∀ y ∈ ys, 1 ≤ (enc y).length) : Rds (fun zs t => listC zs (f zs) t) (numL ys.length ++ ys.flatMap enc) (ys.map val) := fun pre post => by
  have e := rds_num (x := (ys.length : Int)) (wf_i64 _ (by omega)) pre (ys.flatMap enc ++ post)
  have hl : ys.length ≤ (ys.flatMap enc).length := by
    clear hn h e
    induction ys with
    | nil => exact Nat.le_refl _
    | cons y ys ih =>
      have a := h1 y (List.mem_cons_self ..)
      have b := ih fun z hz => h1 z (List.mem_cons_of_mem _ hz)
      rw [List.flatMap_cons, List.length_append, List.length_cons]
      omega
  have h2 := rds_list ys h (pre ++ numL ys.length) post
  dsimp only at h2 ⊢
  rw [List.append_assoc, List.length_append] at h2
  unfold listC cntR
  rw [List.append_assoc, e]
  dsimp only
  rw [if_neg (by simp only [List.length_append]; omega)]
  dsimp only
  rw [Int.toNat_natCast, h2, List.length_append, Nat.add_assoc]
end Go.Proofs.YtedeiaokohdhpaaGreat
