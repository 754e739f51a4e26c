/- Texts of one chain, joined: QFirst, QOut. -/
import Derived.Test.YtedeiaokohdhpaaGreatG21
import Derived.Test.YtedeiaokohdhpaaGreatG19
import Derived.Test.YtedeiaokohdhpaaGreatG1
namespace Go.Proofs.YtedeiaokohdhpaaGreat
open Go.RowKit
def FirstDone (L : List Int) (w : World) (e : Ending) (w' : World) : Prop := e = .returned (.int .i64 (firstC L)) ∧ Below w.heap.size w w'
theorem int_at {w : World} {s : QSl} {L : List Int} (h : Has .i64 w s.a s.n L) {k : Nat} (hk : k < s.n) : ∃ g off x, s.a = some ⟨g, off, none⟩ ∧ L[k]? = some x ∧ w.cell? ⟨g, off + k, none⟩ = some (.int .i64 x) := by
  obtain ⟨g, off, e, _, hc⟩ := h.some (by omega)
  have hk' : k < L.length := by rw [h.1]; exact hk
  have := hc k hk
  rw [List.getD_eq_getElem?_getD, List.getElem?_eq_getElem hk', Option.getD_some] at this
  exact ⟨g, off, _, e, List.getElem?_eq_getElem hk', this⟩
set_option maxHeartbeats 4000000 in
set_option maxRecDepth 20000 in
theorem firstCase_any (rv : Value) (s : QSl) (L : List CaseD) (code : CaseD → Int) (w : World) (hs : s.n ≤ 100000) (hL : QRow 3 CaseD.lie w s L)
    (hC : ∀ w', Below w.heap.size w w' → ∀ c ∈ L, Calls Tryz.prog 91 #[rv, .agg #[.int .u64 c.value, .int .u64 c.mask, .int .i64 c.to]] w' fun e w'' => e = .returned (.int .i64 (code c)) ∧ Below w'.heap.size w' w'') :
    Calls Tryz.prog 90 #[.slice s.a s.n s.c, .func (.func 91) #[rv] #[]] w (FirstDone (L.map code) w) := by
  have HD : Hid (∀ w' R, firstC (L.map code) = R → Below w.heap.size w w' → FirstDone (L.map code) w (.returned (.int .i64 R)) w') := fun w' R h hb => ⟨by rw [h], hb⟩
  obtain ⟨ea, ee⟩ : ∃ ea, s.a = ea := ⟨_, rfl⟩
  have HL := hid hL
  have HC := hid hC
  have HN := hid hL.1
  have HB0 : Hid (Below w.heap.size w w) := Below.refl _ _
  rw [ee]
  have EE := hid ee
  clear hL hC ee
  go_enter Tryz.func90, Tryz.ntmps90
  go_wp2
  go_loopw [10, 6, 7] (fun q _ _ wr => ∃ k : Nat, k ≤ s.n ∧ q = .int .i64 k ∧ Hid (firstC (L.map code) = firstC ((L.drop k).map code)) ∧ Hid (Below w.heap.size w wr)) (fun q _ _ _ => s.n - (intOf q).toNat)
  case atStart => exact ⟨0, Nat.zero_le _, rfl, rfl, HB0⟩
  case round =>
    obtain ⟨k, hk, rfl, hgo, hb⟩ := hrel
    clear HB0
    by_cases hlt : k < s.n
    · obtain ⟨g, off, x, ea', hx, ⟨r0, _⟩, ⟨r1, _⟩, ⟨r2, _⟩⟩ := row_at (HL.out.step CaseD.keeps hb.out) hlt
      obtain rfl : ea = some ⟨g, off, none⟩ := by rw [← EE.out]; exact ea'
      have hki : (k : Int) < (s.n : Int) := by omega
      have hst : firstC ((L.drop k).map code) = if code x ≠ 0 then code x else firstC ((L.drop (k + 1)).map code) := by
        obtain ⟨hk', e⟩ := List.getElem?_eq_some_iff.1 hx
        rw [List.drop_eq_getElem_cons hk', e]
        rfl
      have hCx := hid (HC.out (wr.alloc (.cells #[.int .u64 x.value, .int .u64 x.mask, .int .i64 x.to] 98)) (bl_step hb.out (bl_alloc (Below.refl _ _))) x (List.mem_of_getElem? hx))
      have BO := hid (bl_alloc (o := .cells #[.int .u64 x.value, .int .u64 x.mask, .int .i64 x.to] 98) (Below.refl wr.heap.size wr))
      clear ea' hx
      generalize code x = C at *
      by_cases h0 : C = 0
      · have HG : Hid (firstC (L.map code) = firstC ((L.drop (k + 1)).map code)) := by show firstC (L.map code) = _; rw [hgo.out, hst, if_neg (by simp [h0])]
        subst h0
        clear hst hgo
        go_wp2_with fail
        refine hCx.out.mono ?_
        rintro e w1 ⟨rfl, hb1⟩
        have HE1 := hid (bl_step (bl_step hb.out BO.out) hb1)
        clear hCx hb1 hb BO
        go_wp2
        go_roundw
        case rel => exact ⟨k + 1, by omega, by go_num, HG, HE1⟩
        case measure => simp [intOf]; omega
      · have HG : Hid (firstC (L.map code) = C) := by show firstC (L.map code) = _; rw [hgo.out, hst, if_pos h0]
        have b0 : (C != 0) = true := by simpa using h0
        clear hst hgo
        go_wp2_with fail
        refine hCx.out.mono ?_
        rintro e w1 ⟨rfl, hb1⟩
        have HE1 := hid (bl_step (bl_step hb.out BO.out) hb1)
        clear hCx hb1 hb BO
        go_wp2
        go_ret
        exact HD.out _ _ HG.out HE1.out
    · have ek : k = s.n := by omega
      have HF : Hid (firstC (L.map code) = 0) := by
        show firstC (L.map code) = _
        rw [hgo.out, ek, ← HN.out, List.drop_length]
        rfl
      have HBE := hid hb.out
      clear hgo hb
      subst ek
      go_wp2
      go_ret
      exact HD.out _ _ HF.out HBE.out
set_option maxHeartbeats 4000000 in
set_option maxRecDepth 20000 in
theorem firstOp_any (rv : Value) (s : QSl) (L : List OpD) (code : OpD → Int) (w : World) (hs : s.n ≤ 100000) (hL : QRow 5 OpD.lie w s L)
    (hC : ∀ w', Below w.heap.size w w' → ∀ c ∈ L, Calls Tryz.prog 95 #[rv, .agg #[.int .i64 c.kind, .int .i64 c.r.h, .int .i64 c.r.f, .int .i64 c.head, .slice c.e.a c.e.n c.e.c]] w' fun e w'' => e = .returned (.int .i64 (code c)) ∧ Below w'.heap.size w' w'') :
    Calls Tryz.prog 94 #[.slice s.a s.n s.c, .func (.func 95) #[rv] #[]] w (FirstDone (L.map code) w) := by
  have HD : Hid (∀ w' R, firstC (L.map code) = R → Below w.heap.size w w' → FirstDone (L.map code) w (.returned (.int .i64 R)) w') := fun w' R h hb => ⟨by rw [h], hb⟩
  obtain ⟨ea, ee⟩ : ∃ ea, s.a = ea := ⟨_, rfl⟩
  have HL := hid hL
  have HC := hid hC
  have HN := hid hL.1
  have HB0 : Hid (Below w.heap.size w w) := Below.refl _ _
  rw [ee]
  have EE := hid ee
  clear hL hC ee
  go_enter Tryz.func94, Tryz.ntmps94
  go_wp2
  go_loopw [10, 6, 7] (fun q _ _ wr => ∃ k : Nat, k ≤ s.n ∧ q = .int .i64 k ∧ Hid (firstC (L.map code) = firstC ((L.drop k).map code)) ∧ Hid (Below w.heap.size w wr)) (fun q _ _ _ => s.n - (intOf q).toNat)
  case atStart => exact ⟨0, Nat.zero_le _, rfl, rfl, HB0⟩
  case round =>
    obtain ⟨k, hk, rfl, hgo, hb⟩ := hrel
    clear HB0
    by_cases hlt : k < s.n
    · obtain ⟨g, off, x, ea', hx, ⟨r0, _⟩, ⟨r1, _⟩, ⟨r2, _⟩, ⟨r3, _⟩, ⟨r4, _⟩, _⟩ := row_at (HL.out.step OpD.keeps hb.out) hlt
      obtain rfl : ea = some ⟨g, off, none⟩ := by rw [← EE.out]; exact ea'
      have hki : (k : Int) < (s.n : Int) := by omega
      have hst : firstC ((L.drop k).map code) = if code x ≠ 0 then code x else firstC ((L.drop (k + 1)).map code) := by
        obtain ⟨hk', e⟩ := List.getElem?_eq_some_iff.1 hx
        rw [List.drop_eq_getElem_cons hk', e]
        rfl
      have hCx := hid (HC.out (wr.alloc (.cells #[.int .i64 x.kind, .int .i64 x.r.h, .int .i64 x.r.f, .int .i64 x.head, .slice x.e.a x.e.n x.e.c] 59)) (bl_step hb.out (bl_alloc (Below.refl _ _))) x (List.mem_of_getElem? hx))
      have BO := hid (bl_alloc (o := .cells #[.int .i64 x.kind, .int .i64 x.r.h, .int .i64 x.r.f, .int .i64 x.head, .slice x.e.a x.e.n x.e.c] 59) (Below.refl wr.heap.size wr))
      clear ea' hx
      generalize code x = C at *
      by_cases h0 : C = 0
      · have HG : Hid (firstC (L.map code) = firstC ((L.drop (k + 1)).map code)) := by show firstC (L.map code) = _; rw [hgo.out, hst, if_neg (by simp [h0])]
        subst h0
        clear hst hgo
        go_wp2_with fail
        refine hCx.out.mono ?_
        rintro e w1 ⟨rfl, hb1⟩
        have HE1 := hid (bl_step (bl_step hb.out BO.out) hb1)
        clear hCx hb1 hb BO
        go_wp2
        go_roundw
        case rel => exact ⟨k + 1, by omega, by go_num, HG, HE1⟩
        case measure => simp [intOf]; omega
      · have HG : Hid (firstC (L.map code) = C) := by show firstC (L.map code) = _; rw [hgo.out, hst, if_pos h0]
        have b0 : (C != 0) = true := by simpa using h0
        clear hst hgo
        go_wp2_with fail
        refine hCx.out.mono ?_
        rintro e w1 ⟨rfl, hb1⟩
        have HE1 := hid (bl_step (bl_step hb.out BO.out) hb1)
        clear hCx hb1 hb BO
        go_wp2
        go_ret
        exact HD.out _ _ HG.out HE1.out
    · have ek : k = s.n := by omega
      have HF : Hid (firstC (L.map code) = 0) := by
        show firstC (L.map code) = _
        rw [hgo.out, ek, ← HN.out, List.drop_length]
        rfl
      have HBE := hid hb.out
      clear hgo hb
      subst ek
      go_wp2
      go_ret
      exact HD.out _ _ HF.out HBE.out
set_option maxHeartbeats 4000000 in
set_option maxRecDepth 20000 in
theorem firstWid_any (s : QSl) (L : List Int) (code : Int → Int) (w : World) (hs : s.n ≤ 100000) (hL : Has .i64 w s.a s.n L)
    (hC : ∀ w', Below w.heap.size w w' → ∀ c ∈ L, Calls Tryz.prog 86 #[.int .i64 c] w' fun e w'' => e = .returned (.int .i64 (code c)) ∧ Below w'.heap.size w' w'') :
    Calls Tryz.prog 93 #[.slice s.a s.n s.c, .func (.func 86) #[] #[]] w (FirstDone (L.map code) w) := by
  have HD : Hid (∀ w' R, firstC (L.map code) = R → Below w.heap.size w w' → FirstDone (L.map code) w (.returned (.int .i64 R)) w') := fun w' R h hb => ⟨by rw [h], hb⟩
  obtain ⟨ea, ee⟩ : ∃ ea, s.a = ea := ⟨_, rfl⟩
  have HL := hid hL
  have HC := hid hC
  have HN := hid hL.1
  have HB0 : Hid (Below w.heap.size w w) := Below.refl _ _
  rw [ee]
  have EE := hid ee
  clear hL hC ee
  go_enter Tryz.func93, Tryz.ntmps93
  go_wp2
  go_loopw [10, 6, 7] (fun q _ _ wr => ∃ k : Nat, k ≤ s.n ∧ q = .int .i64 k ∧ Hid (firstC (L.map code) = firstC ((L.drop k).map code)) ∧ Hid (Below w.heap.size w wr)) (fun q _ _ _ => s.n - (intOf q).toNat)
  case atStart => exact ⟨0, Nat.zero_le _, rfl, rfl, HB0⟩
  case round =>
    obtain ⟨k, hk, rfl, hgo, hb⟩ := hrel
    clear HB0
    by_cases hlt : k < s.n
    · obtain ⟨g, off, x, ea', hx, r0⟩ := int_at (HL.out.step hb.out) hlt
      obtain rfl : ea = some ⟨g, off, none⟩ := by rw [← EE.out]; exact ea'
      have hki : (k : Int) < (s.n : Int) := by omega
      have hst : firstC ((L.drop k).map code) = if code x ≠ 0 then code x else firstC ((L.drop (k + 1)).map code) := by
        obtain ⟨hk', e⟩ := List.getElem?_eq_some_iff.1 hx
        rw [List.drop_eq_getElem_cons hk', e]
        rfl
      have hCx := hid (HC.out wr (hb.out) x (List.mem_of_getElem? hx))
      have BO := hid (Below.refl wr.heap.size wr)
      clear ea' hx
      generalize code x = C at *
      by_cases h0 : C = 0
      · have HG : Hid (firstC (L.map code) = firstC ((L.drop (k + 1)).map code)) := by show firstC (L.map code) = _; rw [hgo.out, hst, if_neg (by simp [h0])]
        subst h0
        clear hst hgo
        go_wp2_with fail
        refine hCx.out.mono ?_
        rintro e w1 ⟨rfl, hb1⟩
        have HE1 := hid (bl_step (bl_step hb.out BO.out) hb1)
        clear hCx hb1 hb BO
        go_wp2
        go_roundw
        case rel => exact ⟨k + 1, by omega, by go_num, HG, HE1⟩
        case measure => simp [intOf]; omega
      · have HG : Hid (firstC (L.map code) = C) := by show firstC (L.map code) = _; rw [hgo.out, hst, if_pos h0]
        have b0 : (C != 0) = true := by simpa using h0
        clear hst hgo
        go_wp2_with fail
        refine hCx.out.mono ?_
        rintro e w1 ⟨rfl, hb1⟩
        have HE1 := hid (bl_step (bl_step hb.out BO.out) hb1)
        clear hCx hb1 hb BO
        go_wp2
        go_ret
        exact HD.out _ _ HG.out HE1.out
    · have ek : k = s.n := by omega
      have HF : Hid (firstC (L.map code) = 0) := by
        show firstC (L.map code) = _
        rw [hgo.out, ek, ← HN.out, List.drop_length]
        rfl
      have HBE := hid hb.out
      clear hgo hb
      subst ek
      go_wp2
      go_ret
      exact HD.out _ _ HF.out HBE.out
end Go.Proofs.YtedeiaokohdhpaaGreat

namespace Go.Proofs.YtedeiaokohdhpaaGreat
open Go.RowKit
def IdxIs (L : List Int) (x i : Int) : Prop := (i = -1 ∧ x ∉ L) ∨ (∃ k : Nat, i = k ∧ L[k]? = some x)
set_option maxHeartbeats 2000000 in
set_option maxRecDepth 20000 in
theorem index_any (a : Option Addr) (n c : Nat) (L : List Int) (x : Int) (w : World) (hn : n ≤ 100000) (hL : Has .i64 w a n L) :
    Calls Tryz.prog 136 #[.slice a n c, .int .i64 x] w fun e w' => ∃ i, e = .returned (.int .i64 i) ∧ IdxIs L x i ∧ w' = w := by
  have hlen := hL.1
  have HL := hid hL
  have HN := hid hlen
  obtain ⟨ea, ee⟩ : ∃ ea, a = ea := ⟨_, rfl⟩
  clear hL hlen
  go_enter Tryz.func136, Tryz.ntmps136
  go_wp2
  go_loop [8, 5] (fun q _ => ∃ k : Nat, k ≤ n ∧ q = .int .i64 k ∧ Hid (∀ j : Nat, j < k → L[j]? ≠ some x)) (fun q _ => n - (intOf q).toNat)
  case atStart => exact ⟨0, Nat.zero_le _, rfl, fun j hj => absurd hj (by omega)⟩
  case round =>
    obtain ⟨k, hk, rfl, hz⟩ := hrel
    by_cases hlt : k < n
    · obtain ⟨g, off, y, ea', hy, r0⟩ := int_at (s := ⟨a, n, c⟩) HL.out hlt
      dsimp only at ea'
      subst ea'
      have hki : (k : Int) < (n : Int) := by omega
      by_cases hxy : x = y
      · subst hxy
        have HI : Hid (IdxIs L x k) := .inr ⟨k, rfl, hy⟩
        clear hz hy ee
        go_wp2
        go_ret
        exact ⟨k, rfl, HI.out, rfl⟩
      · have b1 : (x == y) = false := by simpa using hxy
        have HZ : Hid (∀ j : Nat, j < k + 1 → L[j]? ≠ some x) := fun j hj => by
          by_cases ej : j = k
          · subst ej; rw [hy]; intro h; exact hxy (Option.some.inj h).symm
          · exact hz.out j (by omega)
        clear hz hy hxy ee
        go_wp2
        go_round
        case rel => exact ⟨k + 1, by omega, by go_num, HZ⟩
        case measure => simp [intOf]; omega
    · have ek : k = n := by omega
      have HI : Hid (IdxIs L x (-1)) := .inl ⟨rfl, fun h => by
        obtain ⟨i, hi⟩ := List.getElem?_of_mem h
        have := (List.getElem?_eq_some_iff.1 hi).1
        exact hz.out i (by rw [HN.out] at this; omega) hi⟩
      clear hz ee
      subst ek
      go_wp2
      go_ret
      exact ⟨-1, rfl, HI.out, rfl⟩
set_option maxHeartbeats 2000000 in
set_option maxRecDepth 20000 in
theorem contains_any (a : Option Addr) (n c : Nat) (L : List Int) (x : Int) (w : World) (hn : n ≤ 100000) (hL : Has .i64 w a n L) :
    Calls Tryz.prog 97 #[.slice a n c, .int .i64 x] w fun e w' => e = .returned (.bool (decide (x ∈ L))) ∧ w' = w := by
  have HC := hid (index_any a n c L x w hn hL)
  clear hL
  go_enter Tryz.func97, Tryz.ntmps97
  go_wp2_with fail
  refine HC.out.mono ?_
  rintro e w1 ⟨i, rfl, hi, rfl⟩
  rcases hi with ⟨rfl, hx⟩ | ⟨k, rfl, hx⟩
  · have HD := hid (decide_eq_false hx)
    clear HC hx
    go_wp2
    go_ret
    exact ⟨by rw [HD.out]; rfl, rfl⟩
  · have HD := hid (decide_eq_true (List.mem_of_getElem? hx))
    have d0 : decide ((0 : Int) ≤ (k : Int)) = true := decide_eq_true (by omega)
    clear HC hx
    go_wp2
    go_ret
    exact ⟨by rw [HD.out]; rfl, rfl⟩
theorem has_take {w : World} {a : Option Addr} {n k : Nat} {L : List Int} (h : Has .i64 w a n L) (hk : k ≤ n) : Has .i64 w a k (L.take k) := by
  refine ⟨by rw [List.length_take, h.1]; omega, fun x hx => h.2.1 x (List.mem_of_mem_take hx), ?_⟩
  by_cases h0 : k = 0
  · subst h0; exact .inl (by simp)
  · obtain ⟨g, off, e, hg, hc⟩ := h.some (by omega)
    refine .inr ⟨g, off, e, hg, fun i hi => ?_⟩
    rw [hc i (by omega)]
    simp only [List.getD_eq_getElem?_getD, List.getElem?_take, if_pos hi]
set_option maxHeartbeats 8000000 in
set_option maxRecDepth 20000 in
theorem out_any (d : PlanD) (w : World) (hl : d.lie w) (hn : d.out.n ≤ 100000) (k : Nat) (hk : k < d.out.n) :
    Calls Tryz.prog 52 #[d.v, .int .i64 k] w fun e w' => e = .returned (.int .i64 (outC d.p k)) ∧ Below w.heap.size w w' := by
  obtain ⟨g, off, x, ea, hx, c0⟩ := int_at hl.os hk
  have ehs : d.p.hs.length = d.heads.n := by simp [PlanD.p, hl.hs.1]
  have eos : d.p.os.getD k 0 = x := by simp only [PlanD.p, List.getD_eq_getElem?_getD, hx, Option.getD_some]
  have HRES : Hid (outC d.p k = if 0 ≤ x ∧ x < (d.heads.n : Int) then (if x ∈ d.os.take k then 7 else 0) else 1) := by
    show outC d.p k = _
    unfold outC
    rw [eos, ehs]
    rfl
  have HI : Hid (∀ w', Calls Tryz.prog 87 #[.slice d.heads.a d.heads.n d.heads.c, .int .i64 x] w' fun e w'' => e = .returned (.bool (decide (0 ≤ x ∧ x < (d.heads.n : Int)))) ∧ w'' = w') := fun w' => isOfH_any _ _ _ _ w'
  have HCO : Hid (∀ w', Below w.heap.size w w' → Calls Tryz.prog 97 #[.slice (some ⟨g, off, none⟩) k d.out.c, .int .i64 x] w' fun e w'' => e = .returned (.bool (decide (x ∈ d.os.take k))) ∧ w'' = w') := fun w' h => contains_any _ k _ _ x w' (by omega) (by rw [← ea]; exact has_take (hl.os.step h) (by omega))
  obtain ⟨W1, hW⟩ : ∃ W1, W1 = w.alloc (.cells #[.slice d.heads.a d.heads.n d.heads.c, .slice d.mta.a d.mta.n d.mta.c, .slice d.states.a d.states.n d.states.c, .slice d.acts.a d.acts.n d.acts.c, .slice d.tabs.a d.tabs.n d.tabs.c, .slice d.nodes.a d.nodes.n d.nodes.c, .slice (some ⟨g, off, none⟩) d.out.n d.out.c] 102) := ⟨_, rfl⟩
  obtain ⟨b0, h0⟩ : ∃ b0, b0 = w.heap.size := ⟨_, rfl⟩
  have z0 : W1.cell? ⟨b0, 0, none⟩ = some (.slice d.heads.a d.heads.n d.heads.c) := by rw [hW, h0]; exact (World.cell?_alloc_at _ _ _ _ rfl).trans rfl
  have z6 : W1.cell? ⟨b0, 6, none⟩ = some (.slice (some ⟨g, off, none⟩) d.out.n d.out.c) := by rw [hW, h0]; exact (World.cell?_alloc_at _ _ _ _ rfl).trans rfl
  have HB : Hid (Below w.heap.size w W1) := by rw [hW]; exact bl_alloc (Below.refl _ _)
  have c1 := cell_keep c0 HB.out
  have z0' := cell_by z0
  have z6' := cell_by z6
  have c1' := cell_by c1
  have E1 := hid hW
  have E0 := hid h0
  have hki : (k : Int) < (d.out.n : Int) := by omega
  have hkl : (k : Int) ≤ (d.out.n : Int) := by omega
  have hcap : (d.out.n : Int) ≤ (d.out.c : Int) := by have := hl.oc; omega
  clear hW h0 hl hx c0 ehs eos
  by_cases hH : 0 ≤ x ∧ x < (d.heads.n : Int)
  · rw [if_pos hH] at HRES
    rw [decide_eq_true hH] at HI
    clear hH
    go_enter Tryz.func52, Tryz.ntmps52
    go_wp2_with fail
    rw [← E1.out, ← E0.out]
    clear E1 E0
    haveI inhB : ∀ w : World, Inhabited (BelowBy w) := fun w => ⟨⟨w, Below.refl _ _⟩⟩
    refine wp_region_quiet_below (by kernel_rfl) (by kernel_rfl) ?_
    repeat (go_big_quiet_step (first | (go_at_call 87; exact calls_same _ (HI.out _))))
    refine wpQuiet_nil ?_
    intro wq hw'
    obtain ⟨⟨_, hwq⟩, hw''⟩ := hw'
    subst hw''
    have HB2 := hid (bl_step HB.out hwq)
    have z0 := cell_keep z0 hwq
    have z6 := cell_keep z6 hwq
    have c1 := cell_keep c1 hwq
    clear z0' z6' c1' hwq HB
    have z0' := cell_by z0
    have z6' := cell_by z6
    have c1' := cell_by c1
    have HCO : Hid (∀ p : BelowBy wq, Calls Tryz.prog 97 #[.slice (some ⟨g, off, none⟩) k d.out.c, .int .i64 x] p.to fun e w'' => e = .returned (.bool (decide (x ∈ d.os.take k))) ∧ w'' = p.to) := fun p => HCO.out p.to (bl_step HB2.out p.h)
    by_cases hM : x ∈ d.os.take k
    · rw [if_pos hM] at HRES
      rw [decide_eq_true hM] at HCO
      clear hM HI
      go_wp2_with fail
      haveI inhB : ∀ w : World, Inhabited (BelowBy w) := fun w => ⟨⟨w, Below.refl _ _⟩⟩
      refine wp_region_quiet_below (by kernel_rfl) (by kernel_rfl) ?_
      repeat (go_big_quiet_step (first | (go_at_call 97; exact calls_same _ (HCO.out _))))
      refine wpQuiet_nil ?_
      intro wr hw'
      obtain ⟨⟨_, hwr⟩, hw''⟩ := hw'
      subst hw''
      have HE := hid (bl_step HB2.out hwr)
      clear HB2 hwr HCO
      go_wp2
      go_ret
      exact ⟨by rw [HRES.out]; rfl, HE.out⟩
    · rw [if_neg hM] at HRES
      rw [decide_eq_false hM] at HCO
      clear hM HI
      go_wp2_with fail
      haveI inhB : ∀ w : World, Inhabited (BelowBy w) := fun w => ⟨⟨w, Below.refl _ _⟩⟩
      refine wp_region_quiet_below (by kernel_rfl) (by kernel_rfl) ?_
      repeat (go_big_quiet_step (first | (go_at_call 97; exact calls_same _ (HCO.out _))))
      refine wpQuiet_nil ?_
      intro wr hw'
      obtain ⟨⟨_, hwr⟩, hw''⟩ := hw'
      subst hw''
      have HE := hid (bl_step HB2.out hwr)
      clear HB2 hwr HCO
      go_wp2
      go_ret
      exact ⟨by rw [HRES.out]; rfl, HE.out⟩
  · rw [if_neg hH] at HRES
    rw [decide_eq_false hH] at HI
    clear hH HCO
    go_enter Tryz.func52, Tryz.ntmps52
    go_wp2_with fail
    rw [← E1.out, ← E0.out]
    clear E1 E0
    haveI inhB : ∀ w : World, Inhabited (BelowBy w) := fun w => ⟨⟨w, Below.refl _ _⟩⟩
    refine wp_region_quiet_below (by kernel_rfl) (by kernel_rfl) ?_
    repeat (go_big_quiet_step (first | (go_at_call 87; exact calls_same _ (HI.out _))))
    refine wpQuiet_nil ?_
    intro wq hw'
    obtain ⟨⟨_, hwq⟩, hw''⟩ := hw'
    subst hw''
    have HE := hid (bl_step HB.out hwq)
    clear HB hwq
    go_wp2
    go_ret
    exact ⟨by rw [HRES.out]; rfl, HE.out⟩
end Go.Proofs.YtedeiaokohdhpaaGreat
