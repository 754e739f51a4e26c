/- Texts of one chain, joined: QPart, QCheck. -/
import Derived.Test.YtedeiaokohdhpaaGreatG15
import Derived.Test.YtedeiaokohdhpaaGreatG19
import Derived.Laws.EntriesVeiled
namespace Go.Proofs.YtedeiaokohdhpaaGreat
open Go.RowKit
def FaultIs (num : Int) (many : Nat) (least most : Int) (c : Nat → Int) (C A : Int) : Prop :=
  (((many : Int) < least ∨ most < (many : Int)) ∧ C = 2 ∧ A = -num) ∨
  (¬ ((many : Int) < least ∨ most < (many : Int)) ∧ ((∃ n, n < many ∧ c n ≠ 0 ∧ (∀ j, j < n → c j = 0) ∧ C = c n ∧ A = 1000 * num + n) ∨ ((∀ j, j < many → c j = 0) ∧ C = 0 ∧ A = 0)))
def PartDone (num : Int) (many : Nat) (least most : Int) (c : Nat → Int) (w : World) (e : Ending) (w' : World) : Prop :=
  ∃ C A, FaultIs num many least most c C A ∧ e = .returned (.agg #[.int .i64 C, .int .i64 A]) ∧ Below w.heap.size w w'
abbrev PB (many : Nat) (least most : Int) (fv : Value) : Obj := .cells #[.int .i64 many, .int .i64 least, .int .i64 most, fv] 105
abbrev FZ : Obj := .cells #[.int .i64 0, .int .i64 0] 35
theorem part_cells {w wr : World} {many : Nat} {least most : Int} {fv : Value} (hb : Below (w.heap.size + 2) ((w.alloc (PB many least most fv)).alloc FZ) wr) :
    wr.cell? ⟨w.heap.size, 3, none⟩ = some fv ∧ wr.cell? ⟨w.heap.size + 1, 0, none⟩ = some (.int .i64 0) ∧ wr.cell? ⟨w.heap.size + 1, 1, none⟩ = some (.int .i64 0) ∧ wr.frozen? ⟨w.heap.size + 1, 0, none⟩ = false ∧ wr.frozen? ⟨w.heap.size + 1, 1, none⟩ = false ∧ w.heap.size + 1 < wr.heap.size :=
  ⟨(hb.cell (p := ⟨w.heap.size, 3, none⟩) (by simp)).trans (by simp), (hb.cell (p := ⟨w.heap.size + 1, 0, none⟩) (by simp)).trans (by simp), (hb.cell (p := ⟨w.heap.size + 1, 1, none⟩) (by simp)).trans (by simp),
   (hb.frozen (p := ⟨w.heap.size + 1, 0, none⟩) (by simp)).trans (by simp), (hb.frozen (p := ⟨w.heap.size + 1, 1, none⟩) (by simp)).trans (by simp), by have := hb.size; simp at this; omega⟩
theorem end_part {w wr : World} {many : Nat} {least most : Int} {fv : Value} (hb : Below (w.heap.size + 2) ((w.alloc (PB many least most fv)).alloc FZ) wr) (x y : Value) : Below w.heap.size w ((wr.setCell ⟨w.heap.size + 1, 0, none⟩ x).setCell ⟨w.heap.size + 1, 1, none⟩ y) :=
  (((bl_alloc (bl_alloc (Below.refl w.heap.size w))).trans (hb.mono (by omega))).setCell (by simp) _).setCell (by simp) _
def Tells (N : Nat) (dv : Value) (many : Nat) (c : Nat → Int) (w : World) : Prop :=
  ∀ w', Below w.heap.size w w' → ∀ n : Nat, n < many → Calls Tryz.prog N #[dv, .int .i64 n] w' fun e w'' => e = .returned (.int .i64 (c n)) ∧ Below w'.heap.size w' w''
set_option maxHeartbeats 2000000 in
set_option maxRecDepth 20000 in
theorem part_any (N : Nat) (dv : Value) (num : Int) (many : Nat) (least most : Int) (c : Nat → Int) (w : World) (hN : N = 46 ∨ N = 47 ∨ N = 48 ∨ N = 49 ∨ N = 50 ∨ N = 51 ∨ N = 52) (hnum : 1 ≤ num ∧ num ≤ 7) (hmost : most ≤ 100) (hC : Tells N dv many c w) :
    Calls Tryz.prog 53 #[.agg #[.int .i64 many, .int .i64 least, .int .i64 most, .func (.func N) #[dv] #[]], .int .i64 num] w (PartDone num many least most c w) := by
  by_cases h1 : (many : Int) < least
  · have HE : Hid (∀ w', Below w.heap.size w w' → PartDone num many least most c w (.returned (.agg #[.int .i64 2, .int .i64 (-num)])) w') := fun w' hb => ⟨2, -num, .inl ⟨.inl h1, rfl, rfl⟩, rfl, hb⟩
    have d1 := decide_eq_true h1
    clear hC hN
    go_enter Tryz.func53, Tryz.ntmps53
    go_wp2
    exact bodyPost_ret (v := .agg #[.int .i64 2, .int .i64 (-num)]) (by simp [results, Tryz.results53, go_sem]) rfl (HE.out _ (bl_alloc (bl_alloc (Below.refl _ _))))
  have d1 := decide_eq_false h1
  by_cases h2 : most < (many : Int)
  · have HE : Hid (∀ w', Below w.heap.size w w' → PartDone num many least most c w (.returned (.agg #[.int .i64 2, .int .i64 (-num)])) w') := fun w' hb => ⟨2, -num, .inl ⟨.inr h2, rfl, rfl⟩, rfl, hb⟩
    have d2 := decide_eq_true h2
    clear hC hN
    go_enter Tryz.func53, Tryz.ntmps53
    go_wp2
    exact bodyPost_ret (v := .agg #[.int .i64 2, .int .i64 (-num)]) (by simp [results, Tryz.results53, go_sem]) rfl (HE.out _ (bl_alloc (bl_alloc (Below.refl _ _))))
  have d2 := decide_eq_false h2
  have hno : ¬ ((many : Int) < least ∨ most < (many : Int)) := by omega
  have hm : many ≤ 100 := by omega
  have HNO := hid hno
  have HC := hid hC
  have HN := hid hN
  clear hC hN hno h1 h2
  go_enter Tryz.func53, Tryz.ntmps53
  go_wp2
  go_loopw [24, 5, 6] (fun q _ _ wr => ∃ k : Nat, k ≤ many ∧ q = .int .i64 k ∧ Hid (∀ j, j < k → c j = 0) ∧ Hid (Below (w.heap.size + 2) ((w.alloc (PB many least most (.func (.func N) #[dv] #[]))).alloc FZ) wr)) (fun q _ _ _ => many - (intOf q).toNat)
  case atStart => exact ⟨0, Nat.zero_le _, rfl, fun j hj => absurd hj (by omega), Below.refl _ _⟩
  case round =>
    obtain ⟨k, hk, rfl, hz, hb⟩ := hrel
    obtain ⟨q3, f0, f1, z0, z1, sz⟩ := part_cells hb.out
    by_cases hlt : k < many
    · have hki : (k : Int) < (many : Int) := by omega
      have hC := hid (HC.out wr ((bl_alloc (bl_alloc (Below.refl w.heap.size w))).trans (hb.out.mono (by omega))) k hlt)
      clear q3 f0 f1 z0 z1 sz
      have hB2 : Hid (∀ w1, Below wr.heap.size wr w1 → Below (w.heap.size + 2) ((w.alloc (PB many least most (.func (.func N) #[dv] #[]))).alloc FZ) w1) := fun w1 h1 => hb.out.trans (h1.mono (by have := hb.out.size; simpa using this))
      by_cases hck : c k = 0
      · have HZ : Hid (∀ j, j < k + 1 → c j = 0) := fun j hj => by
          by_cases ej : j = k
          · subst ej; exact hck
          · exact hz.out j (by omega)
        rw [hck] at hC
        clear hck
        rcases HN.out with rfl | rfl | rfl | rfl | rfl | rfl | rfl
        all_goals
          have q3 := (part_cells hb.out).1
          go_wp2_with fail
          refine hC.out.mono ?_
          rintro e w1 ⟨rfl, hb1⟩
          have HB1 := hid (hB2.out w1 hb1)
          clear hb1 q3
          go_wp2
          go_roundw
          case rel => exact ⟨k + 1, by omega, by go_num, HZ, HB1⟩
          case measure => simp [intOf]; omega
      · have HE : Hid (∀ w', Below w.heap.size w w' → PartDone num many least most c w (.returned (.agg #[.int .i64 (c k), .int .i64 (1000 * num + k)])) w') := fun w' hb => ⟨c k, 1000 * num + k, .inr ⟨HNO.out, .inl ⟨k, hlt, hck, hz.out, rfl, rfl⟩⟩, rfl, hb⟩
        generalize c k = x at *
        have hx : (x != 0) = true := by simpa using hck
        rcases HN.out with rfl | rfl | rfl | rfl | rfl | rfl | rfl
        all_goals
          have q3 := (part_cells hb.out).1
          go_wp2_with fail
          refine hC.out.mono ?_
          rintro e w1 ⟨rfl, hb1⟩
          have HB1 := hid (hB2.out w1 hb1)
          obtain ⟨_, f0, f1, z0, z1, sz⟩ := part_cells HB1.out
          have HB3 := hid (end_part HB1.out (.int .i64 x) (.int .i64 (1000 * num + k)))
          clear hb1 q3 HC hB2 hz hb hC
          go_wp2
          exact bodyPost_ret (v := .agg #[.int .i64 x, .int .i64 (1000 * num + k)]) (by simp [results, Tryz.results53, go_sem, *]) rfl (HE.out _ HB3.out)
    · have ek : k = many := by omega
      subst ek
      have HE : Hid (∀ w', Below w.heap.size w w' → PartDone num k least most c w (.returned (.agg #[.int .i64 0, .int .i64 0])) w') := fun w' hb => ⟨0, 0, .inr ⟨HNO.out, .inr ⟨hz.out, rfl, rfl⟩⟩, rfl, hb⟩
      have HB3 := hid (end_part hb.out (.int .i64 0) (.int .i64 0))
      clear HC hb hz q3
      go_wp2
      exact bodyPost_ret (v := .agg #[.int .i64 0, .int .i64 0]) (by simp [results, Tryz.results53, go_sem, *]) rfl (HE.out _ HB3.out)
end Go.Proofs.YtedeiaokohdhpaaGreat

namespace Go.Proofs.YtedeiaokohdhpaaGreat
open Go.RowKit
def manyOf (d : PlanD) : Nat → Nat
  | 0 => d.heads.n
  | 1 => d.mta.n
  | 2 => d.states.n
  | 3 => d.acts.n
  | 4 => d.tabs.n
  | 5 => d.nodes.n
  | _ => d.out.n
def leastOf : Nat → Int
  | 2 => 1
  | _ => 0
def mostOf : Nat → Int
  | 0 => 6
  | 1 => 4
  | 2 => 8
  | 3 => 8
  | 4 => 5
  | 5 => 10
  | _ => 6
def judgeOf : Nat → Nat
  | 0 => 46
  | 1 => 47
  | 2 => 48
  | 3 => 49
  | 4 => 50
  | 5 => 51
  | _ => 52
def NoFault (d : PlanD) (cs : Nat → Nat → Int) (k : Nat) : Prop := ∃ A, FaultIs ((k : Int) + 1) (manyOf d k) (leastOf k) (mostOf k) (cs k) 0 A
def CheckIs (d : PlanD) (cs : Nat → Nat → Int) (C A : Int) : Prop :=
  (∃ k : Nat, k < 7 ∧ FaultIs ((k : Int) + 1) (manyOf d k) (leastOf k) (mostOf k) (cs k) C A ∧ C ≠ 0 ∧ ∀ j, j < k → NoFault d cs j) ∨ ((∀ j, j < 7 → NoFault d cs j) ∧ C = 0 ∧ A = 0)
def CheckDone (d : PlanD) (cs : Nat → Nat → Int) (w : World) (e : Ending) (w' : World) : Prop := ∃ C A, CheckIs d cs C A ∧ e = .returned (.agg #[.int .i64 C, .int .i64 A]) ∧ Below w.heap.size w w'
abbrev JB (d : PlanD) : Obj := .cells #[.slice d.heads.a d.heads.n d.heads.c, .slice d.mta.a d.mta.n d.mta.c, .slice d.states.a d.states.n d.states.c, .slice d.acts.a d.acts.n d.acts.c, .slice d.tabs.a d.tabs.n d.tabs.c, .slice d.nodes.a d.nodes.n d.nodes.c, .slice d.out.a d.out.n d.out.c] 102
abbrev PCs (d : PlanD) : Array Value := #[.int .i64 (d.heads.n : Int), .int .i64 0, .int .i64 6, .func (.func 46) #[d.v] #[], .int .i64 (d.mta.n : Int), .int .i64 0, .int .i64 4, .func (.func 47) #[d.v] #[], .int .i64 (d.states.n : Int), .int .i64 1, .int .i64 8, .func (.func 48) #[d.v] #[], .int .i64 (d.acts.n : Int), .int .i64 0, .int .i64 8, .func (.func 49) #[d.v] #[], .int .i64 (d.tabs.n : Int), .int .i64 0, .int .i64 5, .func (.func 50) #[d.v] #[], .int .i64 (d.nodes.n : Int), .int .i64 0, .int .i64 10, .func (.func 51) #[d.v] #[], .int .i64 (d.out.n : Int), .int .i64 0, .int .i64 6, .func (.func 52) #[d.v] #[]]
abbrev PS (d : PlanD) : Obj := .cells (PCs d) 105
theorem chk_cell {d : PlanD} {w wr : World} (hb : Below (w.heap.size + 4) ((((w.alloc d.box).alloc FZ).alloc (JB d)).alloc (PS d)) wr) (i : Nat) : wr.cell? ⟨w.heap.size + 3, i, none⟩ = (PCs d)[i]? :=
  (hb.cell (p := ⟨w.heap.size + 3, i, none⟩) (by simp)).trans (World.cell?_alloc_at _ _ _ _ (by simp))
theorem chk_fault {d : PlanD} {w wr : World} (hb : Below (w.heap.size + 4) ((((w.alloc d.box).alloc FZ).alloc (JB d)).alloc (PS d)) wr) :
    wr.cell? ⟨w.heap.size + 1, 0, none⟩ = some (.int .i64 0) ∧ wr.cell? ⟨w.heap.size + 1, 1, none⟩ = some (.int .i64 0) ∧ wr.frozen? ⟨w.heap.size + 1, 0, none⟩ = false ∧ wr.frozen? ⟨w.heap.size + 1, 1, none⟩ = false ∧ w.heap.size + 3 < wr.heap.size :=
  ⟨(hb.cell (p := ⟨w.heap.size + 1, 0, none⟩) (by simp)).trans ((World.cell?_alloc_past _ _ _ (by simp)).trans ((World.cell?_alloc_past _ _ _ (by simp)).trans ((World.cell?_alloc_at _ _ _ _ (by simp)).trans rfl))), (hb.cell (p := ⟨w.heap.size + 1, 1, none⟩) (by simp)).trans ((World.cell?_alloc_past _ _ _ (by simp)).trans ((World.cell?_alloc_past _ _ _ (by simp)).trans ((World.cell?_alloc_at _ _ _ _ (by simp)).trans rfl))),
   (hb.frozen (p := ⟨w.heap.size + 1, 0, none⟩) (by simp)).trans ((World.frozen?_alloc_past _ _ _ (by simp)).trans ((World.frozen?_alloc_past _ _ _ (by simp)).trans (World.frozen?_alloc_at _ _ _ _ (by simp)))), (hb.frozen (p := ⟨w.heap.size + 1, 1, none⟩) (by simp)).trans ((World.frozen?_alloc_past _ _ _ (by simp)).trans ((World.frozen?_alloc_past _ _ _ (by simp)).trans (World.frozen?_alloc_at _ _ _ _ (by simp)))), by have := hb.size; simp at this; omega⟩
theorem end_chk {d : PlanD} {w wr : World} (hb : Below (w.heap.size + 4) ((((w.alloc d.box).alloc FZ).alloc (JB d)).alloc (PS d)) wr) (x y : Value) : Below w.heap.size w ((wr.setCell ⟨w.heap.size + 1, 0, none⟩ x).setCell ⟨w.heap.size + 1, 1, none⟩ y) :=
  (((bl_alloc (bl_alloc (bl_alloc (bl_alloc (Below.refl w.heap.size w))))).trans (hb.mono (by omega))).setCell (by simp) _).setCell (by simp) _
theorem seven_ways {k : Nat} (h : k < 7) : k = 0 ∨ k = 1 ∨ k = 2 ∨ k = 3 ∨ k = 4 ∨ k = 5 ∨ k = 6 := by omega
theorem chk_part {d : PlanD} {w wr : World} (hb : Below (w.heap.size + 4) ((((w.alloc d.box).alloc FZ).alloc (JB d)).alloc (PS d)) wr) {k : Nat} (hk : k < 7) :
    wr.cell? ⟨w.heap.size + 3, k * 4, none⟩ = some (.int .i64 (manyOf d k)) ∧ wr.cell? ⟨w.heap.size + 3, k * 4 + 1, none⟩ = some (.int .i64 (leastOf k)) ∧ wr.cell? ⟨w.heap.size + 3, k * 4 + 2, none⟩ = some (.int .i64 (mostOf k)) ∧ wr.cell? ⟨w.heap.size + 3, k * 4 + 3, none⟩ = some (.func (.func (judgeOf k)) #[d.v] #[]) := by
  have h := chk_cell hb
  rcases seven_ways hk with rfl | rfl | rfl | rfl | rfl | rfl | rfl
  all_goals exact ⟨h _, h _, h _, h _⟩
set_option maxHeartbeats 8000000 in
set_option maxRecDepth 20000 in
theorem check_any (d : PlanD) (cs : Nat → Nat → Int) (w : World) (hT : ∀ k, k < 7 → Tells (judgeOf k) d.v (manyOf d k) (cs k) w) :
    Calls Tryz.prog 19 #[d.v] w (CheckDone d cs w) := by
  have HP : Hid (∀ k, k < 7 → ∀ wr, Below w.heap.size w wr → Calls Tryz.prog 53 #[.agg #[.int .i64 (manyOf d k), .int .i64 (leastOf k), .int .i64 (mostOf k), .func (.func (judgeOf k)) #[d.v] #[]], .int .i64 ((k : Int) + 1)] wr (PartDone ((k : Int) + 1) (manyOf d k) (leastOf k) (mostOf k) (cs k) wr)) := by
    intro k hk wr hb
    refine part_any (judgeOf k) d.v _ (manyOf d k) (leastOf k) (mostOf k) (cs k) wr ?_ (by omega) ?_ (fun w' hb' n hn => hT k hk w' (bl_step hb hb') n hn)
    · rcases seven_ways hk with rfl | rfl | rfl | rfl | rfl | rfl | rfl <;> simp [judgeOf]
    · rcases seven_ways hk with rfl | rfl | rfl | rfl | rfl | rfl | rfl <;> simp [mostOf]
  clear hT
  have hmf : ∀ (fn : Fn) (first cap : Array Value) (w : World), (Instr.makeFunc fn first cap).run Tryz.prog w = .ok (.func fn first cap) w := fun _ _ _ _ => rfl
  go_enter Tryz.func19, Tryz.ntmps19
  go_wp2
  go_loopw [55, 5, 6, 7] (fun q _ _ _ wr => ∃ k : Nat, k ≤ 7 ∧ q = .int .i64 k ∧ Hid (∀ j, j < k → NoFault d cs j) ∧ Hid (Below (w.heap.size + 4) ((((w.alloc d.box).alloc FZ).alloc (JB d)).alloc (PS d)) wr)) (fun q _ _ _ _ => 7 - (intOf q).toNat)
  case atStart => exact ⟨0, Nat.zero_le _, rfl, fun j hj => absurd hj (by omega), Below.refl _ _⟩
  case round =>
    obtain ⟨k, hk, rfl, hz, hb⟩ := hrel
    by_cases hlt : k < 7
    · obtain ⟨p0, p1, p2, p3⟩ := chk_part hb.out hlt
      have hki : (k : Int) < 7 := by omega
      have B0 : Hid (Below w.heap.size w wr) := (bl_alloc (bl_alloc (bl_alloc (bl_alloc (Below.refl w.heap.size w))))).trans (hb.out.mono (by omega))
      have HC := hid (HP.out k hlt (wr.alloc (PB (manyOf d k) (leastOf k) (mostOf k) (.func (.func (judgeOf k)) #[d.v] #[]))) (bl_step B0.out (bl_alloc (Below.refl _ _))))
      have B1 : Hid (∀ w1, Below (wr.alloc (PB (manyOf d k) (leastOf k) (mostOf k) (.func (.func (judgeOf k)) #[d.v] #[]))).heap.size (wr.alloc (PB (manyOf d k) (leastOf k) (mostOf k) (.func (.func (judgeOf k)) #[d.v] #[]))) w1 → ∀ o, Below (w.heap.size + 4) ((((w.alloc d.box).alloc FZ).alloc (JB d)).alloc (PS d)) (w1.alloc o)) := fun w1 h1 o =>
        hb.out.trans ((bl_alloc (bl_step (bl_alloc (Below.refl wr.heap.size wr)) h1)).mono (by have := hb.out.size; simpa using this))
      have HF : Hid (∀ C A, FaultIs ((k : Int) + 1) (manyOf d k) (leastOf k) (mostOf k) (cs k) C A → (C ≠ 0 → ∀ w', Below w.heap.size w w' → CheckDone d cs w (.returned (.agg #[.int .i64 C, .int .i64 A])) w') ∧ (C = 0 → ∀ j, j < k + 1 → NoFault d cs j)) := fun C A hf =>
        ⟨fun hC w' hb => ⟨C, A, .inl ⟨k, hlt, hf, hC, hz.out⟩, rfl, hb⟩, fun hC j hj => by
          by_cases ej : j = k
          · subst ej; subst hC; exact ⟨A, hf⟩
          · exact hz.out j (by omega)⟩
      generalize manyOf d k = mn at *
      generalize leastOf k = le at *
      generalize mostOf k = mo at *
      generalize judgeOf k = jn at *
      have hs3 : w.heap.size + 3 < wr.heap.size := (chk_fault hb.out).2.2.2.2
      go_wp2_with fail
      refine HC.out.mono ?_
      rintro e w1 ⟨C, A, hf, rfl, hb1⟩
      have HC2 := hid (HF.out C A hf)
      have HB2 := hid (B1.out w1 hb1 (.cells #[.int .i64 C, .int .i64 A] 35))
      clear hb1 HC HF B1 hf p0 p1 p2 p3 hs3 B0 HP
      by_cases hC0 : C = 0
      · have HZ := hid (HC2.out.2 hC0)
        subst hC0
        clear HC2
        go_wp2
        go_roundw
        case rel => exact ⟨k + 1, by omega, by go_num, HZ, HB2⟩
        case measure => simp [intOf]; omega
      · have hx : (C != 0) = true := by simpa using hC0
        have HE := hid (HC2.out.1 hC0)
        obtain ⟨f0, f1, z0, z1, sz⟩ := chk_fault HB2.out
        have HB3 := hid (end_chk HB2.out (.int .i64 C) (.int .i64 A))
        clear HC2 hC0 hb hz HB2
        go_wp2
        exact bodyPost_ret (v := .agg #[.int .i64 C, .int .i64 A]) (by simp [results, Tryz.results19, go_sem, *]) rfl (HE.out _ HB3.out)
    · have ek : k = 7 := by omega
      subst ek
      obtain ⟨f0, f1, z0, z1, sz⟩ := chk_fault hb.out
      have HE : Hid (∀ w', Below w.heap.size w w' → CheckDone d cs w (.returned (.agg #[.int .i64 0, .int .i64 0])) w') := fun w' hb => ⟨0, 0, .inr ⟨hz.out, rfl, rfl⟩, rfl, hb⟩
      have HB3 := hid (end_chk hb.out (.int .i64 0) (.int .i64 0))
      clear HP hb hz
      go_wp2
      exact bodyPost_ret (v := .agg #[.int .i64 0, .int .i64 0]) (by simp [results, Tryz.results19, go_sem, *]) rfl (HE.out _ HB3.out)
end Go.Proofs.YtedeiaokohdhpaaGreat
