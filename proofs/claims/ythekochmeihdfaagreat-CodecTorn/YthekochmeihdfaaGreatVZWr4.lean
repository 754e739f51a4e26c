/- The writer of plans: lists of numbers, headers, actions, deeds. -/
import Derived.Test.YthekochmeihdfaaGreatVZWr3
namespace Go.Proofs.YthekochmeihdfaaGreat
open Go.RowKit

def intsL (ns : List Int) : List Int := numL ns.length ++ ns.flatMap numL
def numsL (zs : List Int) : List Int := numL zs.length ++ zs.flatMap fun z => plainL z.toNat

set_option maxHeartbeats 4000000 in
set_option maxRecDepth 20000 in
theorem writeList_int (W0 : World) (p : Nat) (bs : List Int) (s : QSl) (S : List Int) (w : World) (h : Wr W0.heap.size p bs w) (hw0 : Below W0.heap.size W0 w) (hr : Has .i64 W0 s.a s.n S) (hn : s.n ≤ 100000) (hl : (bs ++ intsL S).length ≤ 9000000) :
    Calls Tryz.prog 57 #[.pointer (some ⟨p, 0, none⟩), .slice s.a s.n s.c, .func (.func 58) #[.pointer (some ⟨p, 0, none⟩)] #[]] w (WDone W0.heap.size p (bs ++ intsL S) w) := by
  have eL : intsL S = numL (s.n : Int) ++ S.flatMap numL := by unfold intsL; rw [hr.1]
  rw [eL] at hl ⊢
  have hwn : wfI (s.n : Int) := wf_i64 _ (by omega)
  have HNU := hid (number_any W0.heap.size p bs (s.n : Int) w hwn h (by rw [← List.append_assoc, List.length_append] at hl; omega))
  have HL := hid hl
  have HR := hid hr
  have HW0 := hid hw0
  obtain ⟨sa, esa⟩ : ∃ sa, s.a = sa := ⟨_, rfl⟩
  rw [esa]
  have ESA := hid esa
  clear h hl hr hw0 esa hwn eL
  go_enter Tryz.func57, Tryz.ntmps57
  go_wp2_with fail
  refine HNU.out.mono ?_
  rintro e w1 ⟨rfl, h1, h2, h3⟩
  have H1 := hid h1
  have H2 := hid h2
  have H3 := hid h3
  clear h1 h2 h3 HNU
  go_wp2
  go_loopw [14, 7] (fun q _ wr => ∃ i : Nat, i ≤ s.n ∧ q = .int .i64 i ∧ Hid (Wr W0.heap.size p (bs ++ (numL s.n ++ (S.take i).flatMap numL)) wr) ∧ Hid (Below W0.heap.size w wr) ∧ Hid (Fram p w wr)) (fun q _ _ => s.n - (intOf q).toNat)
  case atStart => exact ⟨0, Nat.zero_le _, rfl, by simpa using H1, H2, H3⟩
  case round =>
    obtain ⟨i, hi, rfl, WR, HB, HF⟩ := hrel
    clear H1 H2 H3
    by_cases hlt : i < s.n
    · have hii : (i : Int) < (s.n : Int) := by omega
      have hil : i < S.length := by rw [HR.out.1]; exact hlt
      obtain ⟨g, off, ea, _, hc⟩ := (HR.out.step (HW0.out.trans HB.out)).some (by omega)
      obtain rfl : sa = some ⟨g, off, none⟩ := by rw [← ESA.out]; exact ea
      have hx := List.getElem?_eq_getElem hil
      have hwf := HR.out.2.1 _ (List.getElem_mem hil)
      have c0 := hc i hlt
      rw [List.getD_eq_getElem?_getD, hx, Option.getD_some] at c0
      have HT := hid (flat_take (f := numL) hx)
      have hle := flat_le numL S (i + 1)
      generalize S[i] = x at *
      have HLE : Hid ((bs ++ (numL s.n ++ (S.take i).flatMap numL) ++ numL x).length ≤ 9000000) := by
        show _ ≤ _
        have := HL.out
        rw [HT.out] at hle
        simp only [List.length_append] at this hle ⊢
        omega
      have HC := hid (number_any W0.heap.size p _ x wr hwf WR.out HLE.out)
      clear ea hx hle hwf hc
      go_wp2_with fail
      refine HC.out.mono ?_
      rintro e w3 ⟨rfl, h1, h2, h3⟩
      have R1 : Hid (Wr W0.heap.size p (bs ++ (numL s.n ++ (S.take (i + 1)).flatMap numL)) w3) := by show Wr _ _ _ _; rw [HT.out]; simpa using h1
      have R2 := hid (HB.out.trans h2)
      have R3 := hid (HF.out.trans h3)
      clear h1 h2 h3 WR HB HF HC HT
      go_wp2
      go_roundw
      case rel => exact ⟨i + 1, by omega, by go_num, R1, R2, R3⟩
      case measure => simp [intOf]; omega
    · have hii : ¬ (i : Int) < (s.n : Int) := by omega
      have HE : Hid (WDone W0.heap.size p (bs ++ (numL s.n ++ S.flatMap numL)) w (.returned (.tuple #[])) wr) := ⟨rfl, by have := WR.out; rw [List.take_of_length_le (by rw [HR.out.1]; omega)] at this; exact this, HB.out, HF.out⟩
      clear WR HB HF
      go_wp2
      go_end0
      exact HE.out

set_option maxHeartbeats 4000000 in
set_option maxRecDepth 20000 in
theorem writeList_num (W0 : World) (p : Nat) (bs : List Int) (s : QSl) (S : List Int) (w : World) (h : Wr W0.heap.size p bs w) (hw0 : Below W0.heap.size W0 w) (hr : Has .u64 W0 s.a s.n S) (hn : s.n ≤ 100000) (hl : (bs ++ numsL S).length ≤ 9000000) :
    Calls Tryz.prog 109 #[.pointer (some ⟨p, 0, none⟩), .slice s.a s.n s.c, .func (.func 103) #[.pointer (some ⟨p, 0, none⟩)] #[]] w (WDone W0.heap.size p (bs ++ numsL S) w) := by
  have eL : numsL S = numL (s.n : Int) ++ S.flatMap (fun z => plainL z.toNat) := by unfold numsL; rw [hr.1]
  rw [eL] at hl ⊢
  have hwn : wfI (s.n : Int) := wf_i64 _ (by omega)
  have HNU := hid (number_any W0.heap.size p bs (s.n : Int) w hwn h (by rw [← List.append_assoc, List.length_append] at hl; omega))
  have HL := hid hl
  have HR := hid hr
  have HW0 := hid hw0
  obtain ⟨sa, esa⟩ : ∃ sa, s.a = sa := ⟨_, rfl⟩
  rw [esa]
  have ESA := hid esa
  clear h hl hr hw0 esa hwn eL
  go_enter Tryz.func109, Tryz.ntmps109
  go_wp2_with fail
  refine HNU.out.mono ?_
  rintro e w1 ⟨rfl, h1, h2, h3⟩
  have H1 := hid h1
  have H2 := hid h2
  have H3 := hid h3
  clear h1 h2 h3 HNU
  go_wp2
  go_loopw [14, 7] (fun q _ wr => ∃ i : Nat, i ≤ s.n ∧ q = .int .i64 i ∧ Hid (Wr W0.heap.size p (bs ++ (numL s.n ++ (S.take i).flatMap (fun z => plainL z.toNat))) wr) ∧ Hid (Below W0.heap.size w wr) ∧ Hid (Fram p w wr)) (fun q _ _ => s.n - (intOf q).toNat)
  case atStart => exact ⟨0, Nat.zero_le _, rfl, by simpa using H1, H2, H3⟩
  case round =>
    obtain ⟨i, hi, rfl, WR, HB, HF⟩ := hrel
    clear H1 H2 H3
    by_cases hlt : i < s.n
    · have hii : (i : Int) < (s.n : Int) := by omega
      have hil : i < S.length := by rw [HR.out.1]; exact hlt
      obtain ⟨g, off, ea, _, hc⟩ := (HR.out.step (HW0.out.trans HB.out)).some (by omega)
      obtain rfl : sa = some ⟨g, off, none⟩ := by rw [← ESA.out]; exact ea
      have hx := List.getElem?_eq_getElem hil
      have hwf := HR.out.2.1 _ (List.getElem_mem hil)
      have c0 := hc i hlt
      rw [List.getD_eq_getElem?_getD, hx, Option.getD_some] at c0
      have HT := hid (flat_take (f := (fun z => plainL z.toNat)) hx)
      have hle := flat_le (fun z => plainL z.toNat) S (i + 1)
      generalize S[i] = x at *
      have hub := bounds_u64 hwf
      obtain ⟨N, rfl⟩ : ∃ N : Nat, x = N := ⟨x.toNat, by omega⟩
      rw [Int.toNat_natCast] at HT
      have hNb : N < 18446744073709551616 := by omega
      have HLE : Hid ((bs ++ (numL s.n ++ (S.take i).flatMap (fun z => plainL z.toNat)) ++ plainL N).length ≤ 9000000) := by
        show _ ≤ _
        have := HL.out
        rw [HT.out] at hle
        simp only [List.length_append] at this hle ⊢
        omega
      have HC := hid (plain_any W0.heap.size p _ N wr hNb WR.out HLE.out)
      clear ea hx hle hwf hc
      go_wp2_with fail
      refine HC.out.mono ?_
      rintro e w3 ⟨rfl, h1, h2, h3⟩
      have R1 : Hid (Wr W0.heap.size p (bs ++ (numL s.n ++ (S.take (i + 1)).flatMap (fun z => plainL z.toNat))) w3) := by show Wr _ _ _ _; rw [HT.out]; simpa using h1
      have R2 := hid (HB.out.trans h2)
      have R3 := hid (HF.out.trans h3)
      clear h1 h2 h3 WR HB HF HC HT
      go_wp2
      go_roundw
      case rel => exact ⟨i + 1, by omega, by go_num, R1, R2, R3⟩
      case measure => simp [intOf]; omega
    · have hii : ¬ (i : Int) < (s.n : Int) := by omega
      have HE : Hid (WDone W0.heap.size p (bs ++ (numL s.n ++ S.flatMap (fun z => plainL z.toNat))) w (.returned (.tuple #[])) wr) := ⟨rfl, by have := WR.out; rw [List.take_of_length_le (by rw [HR.out.1]; omega)] at this; exact this, HB.out, HF.out⟩
      clear WR HB HF
      go_wp2
      go_end0
      exact HE.out

set_option maxHeartbeats 2000000 in
set_option maxRecDepth 20000 in
theorem header_wr (W0 : World) (p : Nat) (bs : List Int) (x : HeadD) (w : World) (h : Wr W0.heap.size p bs w) (hw0 : Below W0.heap.size W0 w) (hr : Has .i64 W0 x.w.a x.w.n x.ws) (hn : x.w.n ≤ 100000) (hl : (bs ++ intsL x.ws).length ≤ 9000000) :
    Calls Tryz.prog 56 #[.pointer (some ⟨p, 0, none⟩), .agg #[.slice x.w.a x.w.n x.w.c]] w (WDone W0.heap.size p (bs ++ intsL x.ws) w) := by
  have hb1 : Below w.heap.size w (w.alloc (.cells #[.slice x.w.a x.w.n x.w.c] 55)) := bl_alloc (Below.refl _ _)
  have HC := hid (writeList_int W0 p bs x.w x.ws (w.alloc (.cells #[.slice x.w.a x.w.n x.w.c] 55)) (h.step hb1) (hw0.trans (hb1.mono h.bl)) hr hn hl)
  have HD : Hid (∀ w', Wr W0.heap.size p (bs ++ intsL x.ws) w' → Below W0.heap.size (w.alloc (.cells #[.slice x.w.a x.w.n x.w.c] 55)) w' → Fram p (w.alloc (.cells #[.slice x.w.a x.w.n x.w.c] 55)) w' → WDone W0.heap.size p (bs ++ intsL x.ws) w (.returned (.tuple #[])) w') := fun w' h1 h2 h3 => ⟨rfl, h1, (hb1.mono h.bl).trans h2, (Fram.below hb1).trans h3⟩
  have hmf : ∀ (fn : Fn) (first cap : Array Value) (w : World), (Instr.makeFunc fn first cap).run Tryz.prog w = .ok (.func fn first cap) w := fun _ _ _ _ => rfl
  clear h hl hr hb1 hw0
  go_enter Tryz.func56, Tryz.ntmps56
  go_wp2_with fail
  refine HC.out.mono ?_
  rintro e w1 ⟨rfl, h1, h2, h3⟩
  have HE := hid (HD.out w1 h1 h2 h3)
  clear h1 h2 h3 HC HD
  go_wp2
  go_end0
  exact HE.out
end Go.Proofs.YthekochmeihdfaaGreat
