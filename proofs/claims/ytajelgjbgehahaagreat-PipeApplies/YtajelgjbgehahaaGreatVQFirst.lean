/- The first code that is not 0 of what stands in a list. -/
import Derived.Test.YtajelgjbgehahaaGreatVQCase
namespace Go.Proofs.YtajelgjbgehahaaGreat
open Go.RowKit

def FirstDone (L : List Int) (w : World) (e : Ending) (w' : World) : Prop := e = .returned (.int .i64 (firstC L)) ∧ Below w.heap.size w w'

theorem int_at {w : World} {s : QSl} {L : List Int} (h : Has .i64 w s.a s.n L) {k : Nat} (hk : k < s.n) : ∃ g off x, s.a = some ⟨g, off, none⟩ ∧ L[k]? = some x ∧ w.cell? ⟨g, off + k, none⟩ = some (.int .i64 x) := by
  obtain ⟨g, off, e, _, hc⟩ := h.some (by omega)
  have hk' : k < L.length := by rw [h.1]; exact hk
  have := hc k hk
  rw [List.getD_eq_getElem?_getD, List.getElem?_eq_getElem hk', Option.getD_some] at this
  exact ⟨g, off, _, e, List.getElem?_eq_getElem hk', this⟩

set_option maxHeartbeats 4000000 in
set_option maxRecDepth 20000 in
theorem firstCase_any (rv : Value) (s : QSl) (L : List CaseD) (code : CaseD → Int) (w : World) (hs : s.n ≤ 100000) (hL : QRow 3 CaseD.lie w s L)
    (hC : ∀ w', Below w.heap.size w w' → ∀ c ∈ L, Calls Tryz.prog 125 #[rv, .agg #[.int .u64 c.value, .int .u64 c.mask, .int .i64 c.to]] w' fun e w'' => e = .returned (.int .i64 (code c)) ∧ Below w'.heap.size w' w'') :
    Calls Tryz.prog 124 #[.slice s.a s.n s.c, .func (.func 125) #[rv] #[]] w (FirstDone (L.map code) w) := by
  have HD : Hid (∀ w' R, firstC (L.map code) = R → Below w.heap.size w w' → FirstDone (L.map code) w (.returned (.int .i64 R)) w') := fun w' R h hb => ⟨by rw [h], hb⟩
  obtain ⟨ea, ee⟩ : ∃ ea, s.a = ea := ⟨_, rfl⟩
  have HL := hid hL
  have HC := hid hC
  have HN := hid hL.1
  have HB0 : Hid (Below w.heap.size w w) := Below.refl _ _
  rw [ee]
  have EE := hid ee
  clear hL hC ee
  go_enter Tryz.func124, Tryz.ntmps124
  go_wp2
  go_loopw [10, 6, 7] (fun q _ _ wr => ∃ k : Nat, k ≤ s.n ∧ q = .int .i64 k ∧ Hid (firstC (L.map code) = firstC ((L.drop k).map code)) ∧ Hid (Below w.heap.size w wr)) (fun q _ _ _ => s.n - (intOf q).toNat)
  case atStart => exact ⟨0, Nat.zero_le _, rfl, rfl, HB0⟩
  case round =>
    obtain ⟨k, hk, rfl, hgo, hb⟩ := hrel
    clear HB0
    by_cases hlt : k < s.n
    · obtain ⟨g, off, x, ea', hx, ⟨r0, _⟩, ⟨r1, _⟩, ⟨r2, _⟩⟩ := row_at (HL.out.step CaseD.keeps hb.out) hlt
      obtain rfl : ea = some ⟨g, off, none⟩ := by rw [← EE.out]; exact ea'
      have hki : (k : Int) < (s.n : Int) := by omega
      have hst : firstC ((L.drop k).map code) = if code x ≠ 0 then code x else firstC ((L.drop (k + 1)).map code) := by
        obtain ⟨hk', e⟩ := List.getElem?_eq_some_iff.1 hx
        rw [List.drop_eq_getElem_cons hk', e]
        rfl
      have hCx := hid (HC.out (wr.alloc (.cells #[.int .u64 x.value, .int .u64 x.mask, .int .i64 x.to] 137)) (bl_step hb.out (bl_alloc (Below.refl _ _))) x (List.mem_of_getElem? hx))
      have BO := hid (bl_alloc (o := .cells #[.int .u64 x.value, .int .u64 x.mask, .int .i64 x.to] 137) (Below.refl wr.heap.size wr))
      clear ea' hx
      generalize code x = C at *
      by_cases h0 : C = 0
      · have HG : Hid (firstC (L.map code) = firstC ((L.drop (k + 1)).map code)) := by show firstC (L.map code) = _; rw [hgo.out, hst, if_neg (by simp [h0])]
        subst h0
        clear hst hgo
        go_wp2_with fail
        refine hCx.out.mono ?_
        rintro e w1 ⟨rfl, hb1⟩
        have HE1 := hid (bl_step (bl_step hb.out BO.out) hb1)
        clear hCx hb1 hb BO
        go_wp2
        go_roundw
        case rel => exact ⟨k + 1, by omega, by go_num, HG, HE1⟩
        case measure => simp [intOf]; omega
      · have HG : Hid (firstC (L.map code) = C) := by show firstC (L.map code) = _; rw [hgo.out, hst, if_pos h0]
        have b0 : (C != 0) = true := by simpa using h0
        clear hst hgo
        go_wp2_with fail
        refine hCx.out.mono ?_
        rintro e w1 ⟨rfl, hb1⟩
        have HE1 := hid (bl_step (bl_step hb.out BO.out) hb1)
        clear hCx hb1 hb BO
        go_wp2
        go_ret
        exact HD.out _ _ HG.out HE1.out
    · have ek : k = s.n := by omega
      have HF : Hid (firstC (L.map code) = 0) := by
        show firstC (L.map code) = _
        rw [hgo.out, ek, ← HN.out, List.drop_length]
        rfl
      have HBE := hid hb.out
      clear hgo hb
      subst ek
      go_wp2
      go_ret
      exact HD.out _ _ HF.out HBE.out

set_option maxHeartbeats 4000000 in
set_option maxRecDepth 20000 in
theorem firstOp_any (rv : Value) (s : QSl) (L : List OpD) (code : OpD → Int) (w : World) (hs : s.n ≤ 100000) (hL : QRow 5 OpD.lie w s L)
    (hC : ∀ w', Below w.heap.size w w' → ∀ c ∈ L, Calls Tryz.prog 129 #[rv, .agg #[.int .i64 c.kind, .int .i64 c.r.h, .int .i64 c.r.f, .int .i64 c.head, .slice c.e.a c.e.n c.e.c]] w' fun e w'' => e = .returned (.int .i64 (code c)) ∧ Below w'.heap.size w' w'') :
    Calls Tryz.prog 128 #[.slice s.a s.n s.c, .func (.func 129) #[rv] #[]] w (FirstDone (L.map code) w) := by
  have HD : Hid (∀ w' R, firstC (L.map code) = R → Below w.heap.size w w' → FirstDone (L.map code) w (.returned (.int .i64 R)) w') := fun w' R h hb => ⟨by rw [h], hb⟩
  obtain ⟨ea, ee⟩ : ∃ ea, s.a = ea := ⟨_, rfl⟩
  have HL := hid hL
  have HC := hid hC
  have HN := hid hL.1
  have HB0 : Hid (Below w.heap.size w w) := Below.refl _ _
  rw [ee]
  have EE := hid ee
  clear hL hC ee
  go_enter Tryz.func128, Tryz.ntmps128
  go_wp2
  go_loopw [10, 6, 7] (fun q _ _ wr => ∃ k : Nat, k ≤ s.n ∧ q = .int .i64 k ∧ Hid (firstC (L.map code) = firstC ((L.drop k).map code)) ∧ Hid (Below w.heap.size w wr)) (fun q _ _ _ => s.n - (intOf q).toNat)
  case atStart => exact ⟨0, Nat.zero_le _, rfl, rfl, HB0⟩
  case round =>
    obtain ⟨k, hk, rfl, hgo, hb⟩ := hrel
    clear HB0
    by_cases hlt : k < s.n
    · obtain ⟨g, off, x, ea', hx, ⟨r0, _⟩, ⟨r1, _⟩, ⟨r2, _⟩, ⟨r3, _⟩, ⟨r4, _⟩, _⟩ := row_at (HL.out.step OpD.keeps hb.out) hlt
      obtain rfl : ea = some ⟨g, off, none⟩ := by rw [← EE.out]; exact ea'
      have hki : (k : Int) < (s.n : Int) := by omega
      have hst : firstC ((L.drop k).map code) = if code x ≠ 0 then code x else firstC ((L.drop (k + 1)).map code) := by
        obtain ⟨hk', e⟩ := List.getElem?_eq_some_iff.1 hx
        rw [List.drop_eq_getElem_cons hk', e]
        rfl
      have hCx := hid (HC.out (wr.alloc (.cells #[.int .i64 x.kind, .int .i64 x.r.h, .int .i64 x.r.f, .int .i64 x.head, .slice x.e.a x.e.n x.e.c] 71)) (bl_step hb.out (bl_alloc (Below.refl _ _))) x (List.mem_of_getElem? hx))
      have BO := hid (bl_alloc (o := .cells #[.int .i64 x.kind, .int .i64 x.r.h, .int .i64 x.r.f, .int .i64 x.head, .slice x.e.a x.e.n x.e.c] 71) (Below.refl wr.heap.size wr))
      clear ea' hx
      generalize code x = C at *
      by_cases h0 : C = 0
      · have HG : Hid (firstC (L.map code) = firstC ((L.drop (k + 1)).map code)) := by show firstC (L.map code) = _; rw [hgo.out, hst, if_neg (by simp [h0])]
        subst h0
        clear hst hgo
        go_wp2_with fail
        refine hCx.out.mono ?_
        rintro e w1 ⟨rfl, hb1⟩
        have HE1 := hid (bl_step (bl_step hb.out BO.out) hb1)
        clear hCx hb1 hb BO
        go_wp2
        go_roundw
        case rel => exact ⟨k + 1, by omega, by go_num, HG, HE1⟩
        case measure => simp [intOf]; omega
      · have HG : Hid (firstC (L.map code) = C) := by show firstC (L.map code) = _; rw [hgo.out, hst, if_pos h0]
        have b0 : (C != 0) = true := by simpa using h0
        clear hst hgo
        go_wp2_with fail
        refine hCx.out.mono ?_
        rintro e w1 ⟨rfl, hb1⟩
        have HE1 := hid (bl_step (bl_step hb.out BO.out) hb1)
        clear hCx hb1 hb BO
        go_wp2
        go_ret
        exact HD.out _ _ HG.out HE1.out
    · have ek : k = s.n := by omega
      have HF : Hid (firstC (L.map code) = 0) := by
        show firstC (L.map code) = _
        rw [hgo.out, ek, ← HN.out, List.drop_length]
        rfl
      have HBE := hid hb.out
      clear hgo hb
      subst ek
      go_wp2
      go_ret
      exact HD.out _ _ HF.out HBE.out

set_option maxHeartbeats 4000000 in
set_option maxRecDepth 20000 in
theorem firstWid_any (s : QSl) (L : List Int) (code : Int → Int) (w : World) (hs : s.n ≤ 100000) (hL : Has .i64 w s.a s.n L)
    (hC : ∀ w', Below w.heap.size w w' → ∀ c ∈ L, Calls Tryz.prog 120 #[.int .i64 c] w' fun e w'' => e = .returned (.int .i64 (code c)) ∧ Below w'.heap.size w' w'') :
    Calls Tryz.prog 127 #[.slice s.a s.n s.c, .func (.func 120) #[] #[]] w (FirstDone (L.map code) w) := by
  have HD : Hid (∀ w' R, firstC (L.map code) = R → Below w.heap.size w w' → FirstDone (L.map code) w (.returned (.int .i64 R)) w') := fun w' R h hb => ⟨by rw [h], hb⟩
  obtain ⟨ea, ee⟩ : ∃ ea, s.a = ea := ⟨_, rfl⟩
  have HL := hid hL
  have HC := hid hC
  have HN := hid hL.1
  have HB0 : Hid (Below w.heap.size w w) := Below.refl _ _
  rw [ee]
  have EE := hid ee
  clear hL hC ee
  go_enter Tryz.func127, Tryz.ntmps127
  go_wp2
  go_loopw [10, 6, 7] (fun q _ _ wr => ∃ k : Nat, k ≤ s.n ∧ q = .int .i64 k ∧ Hid (firstC (L.map code) = firstC ((L.drop k).map code)) ∧ Hid (Below w.heap.size w wr)) (fun q _ _ _ => s.n - (intOf q).toNat)
  case atStart => exact ⟨0, Nat.zero_le _, rfl, rfl, HB0⟩
  case round =>
    obtain ⟨k, hk, rfl, hgo, hb⟩ := hrel
    clear HB0
    by_cases hlt : k < s.n
    · obtain ⟨g, off, x, ea', hx, r0⟩ := int_at (HL.out.step hb.out) hlt
      obtain rfl : ea = some ⟨g, off, none⟩ := by rw [← EE.out]; exact ea'
      have hki : (k : Int) < (s.n : Int) := by omega
      have hst : firstC ((L.drop k).map code) = if code x ≠ 0 then code x else firstC ((L.drop (k + 1)).map code) := by
        obtain ⟨hk', e⟩ := List.getElem?_eq_some_iff.1 hx
        rw [List.drop_eq_getElem_cons hk', e]
        rfl
      have hCx := hid (HC.out wr (hb.out) x (List.mem_of_getElem? hx))
      have BO := hid (Below.refl wr.heap.size wr)
      clear ea' hx
      generalize code x = C at *
      by_cases h0 : C = 0
      · have HG : Hid (firstC (L.map code) = firstC ((L.drop (k + 1)).map code)) := by show firstC (L.map code) = _; rw [hgo.out, hst, if_neg (by simp [h0])]
        subst h0
        clear hst hgo
        go_wp2_with fail
        refine hCx.out.mono ?_
        rintro e w1 ⟨rfl, hb1⟩
        have HE1 := hid (bl_step (bl_step hb.out BO.out) hb1)
        clear hCx hb1 hb BO
        go_wp2
        go_roundw
        case rel => exact ⟨k + 1, by omega, by go_num, HG, HE1⟩
        case measure => simp [intOf]; omega
      · have HG : Hid (firstC (L.map code) = C) := by show firstC (L.map code) = _; rw [hgo.out, hst, if_pos h0]
        have b0 : (C != 0) = true := by simpa using h0
        clear hst hgo
        go_wp2_with fail
        refine hCx.out.mono ?_
        rintro e w1 ⟨rfl, hb1⟩
        have HE1 := hid (bl_step (bl_step hb.out BO.out) hb1)
        clear hCx hb1 hb BO
        go_wp2
        go_ret
        exact HD.out _ _ HG.out HE1.out
    · have ek : k = s.n := by omega
      have HF : Hid (firstC (L.map code) = 0) := by
        show firstC (L.map code) = _
        rw [hgo.out, ek, ← HN.out, List.drop_length]
        rfl
      have HBE := hid hb.out
      clear hgo hb
      subst ek
      go_wp2
      go_ret
      exact HD.out _ _ HF.out HBE.out
end Go.Proofs.YtajelgjbgehahaaGreat
