/- Texts of one chain, joined: ZWr3, ZWr4, ZWr5. -/
import Derived.Test.YtedeiaokohdhpaaGreatG25
import Derived.Laws.EntriesVeiled
namespace Go.Proofs.YtedeiaokohdhpaaGreat
open Go.RowKit
theorem box_cell {w : World} {b : Nat} {cs : Array Value} {T : TypeId} {f : Nat × Nat} (h : w.heap[b]? = some (.cells cs T f)) (i : Nat) : w.cell? ⟨b, i, none⟩ = cs[i]? := by simp [World.cell?, h]
theorem alloc_at (w : World) (cs : Array Value) (T : TypeId) : (w.alloc (.cells cs T)).heap[w.heap.size]? = some (.cells cs T (0, 0)) := heap_alloc_new w _
theorem Wr.pl {B p : Nat} {bs : List Int} {w : World} (h : Wr B p bs w) : p < w.heap.size := h.at.elim fun _ ⟨_, _, _, h, _⟩ => h
theorem Wr.bl {B p : Nat} {bs : List Int} {w : World} (h : Wr B p bs w) : B ≤ w.heap.size := by have := h.pl; have := h.low; omega
def refL (x : RefD) : List Int := numL x.h ++ numL x.f
def stepL (x : PushD) : List Int := numL x.op ++ (if x.op = 1 then plainL x.n.toNat else if x.op = 2 then refL x.r else [])
def treeL (es : List PushD) : List Int := numL es.length ++ es.flatMap stepL
theorem two_any (B p b : Nat) (bs : List Int) (x y : Int) (w : World) (hb : b = w.heap.size) (hx : wfI x) (hy : wfI y) (h : Wr B p bs w) (hl : (bs ++ (numL x ++ numL y)).length ≤ 9000000) :
    Calls Tryz.prog 103 #[.pointer (some ⟨p, 0, none⟩), .slice (some ⟨b, 0, none⟩) 2 2] (w.alloc (.cells #[.int .i64 x, .int .i64 y] 3)) (WDone B p (bs ++ (numL x ++ numL y)) (w.alloc (.cells #[.int .i64 x, .int .i64 y] 3))) := by
  subst hb
  have e : ([x, y] : List Int).flatMap numL = numL x ++ numL y := by simp
  have := numbers_any B p w.heap.size 2 bs [x, y] (w.alloc (.cells #[.int .i64 x, .int .i64 y] 3)) (h.step (bl_alloc (Below.refl _ _))) (alloc_at _ _ _) (by have := h.pl; omega) (by intro n hn; simp only [List.mem_cons, List.not_mem_nil, or_false] at hn; rcases hn with rfl | rfl; exact hx; exact hy) (by simp) (by rw [e]; exact hl)
  rw [e] at this
  exact this
set_option maxHeartbeats 2000000 in
set_option maxRecDepth 20000 in
theorem field_wr (B p : Nat) (bs : List Int) (x : RefD) (w : World) (hx : wfI x.h ∧ wfI x.f) (h : Wr B p bs w) (hl : (bs ++ refL x).length ≤ 9000000) :
    Calls Tryz.prog 104 #[.pointer (some ⟨p, 0, none⟩), .agg #[.int .i64 x.h, .int .i64 x.f]] w (WDone B p (bs ++ refL x) w) := by
  have hb1 : Below w.heap.size w (w.alloc (.cells #[.int .i64 x.h, .int .i64 x.f] 48)) := bl_alloc (Below.refl _ _)
  have HC := hid (two_any B p (w.heap.size + 1) bs x.h x.f (w.alloc (.cells #[.int .i64 x.h, .int .i64 x.f] 48)) (by simp) hx.1 hx.2 (h.step hb1) hl)
  have HD : Hid (∀ w', Wr B p (bs ++ refL x) w' → Below B ((w.alloc (.cells #[.int .i64 x.h, .int .i64 x.f] 48)).alloc (.cells #[.int .i64 x.h, .int .i64 x.f] 3)) w' → Fram p ((w.alloc (.cells #[.int .i64 x.h, .int .i64 x.f] 48)).alloc (.cells #[.int .i64 x.h, .int .i64 x.f] 3)) w' → WDone B p (bs ++ refL x) w (.returned (.tuple #[])) w') := fun w' h1 h2 h3 => ⟨rfl, h1, (((bl_alloc hb1).mono h.bl).trans h2), (Fram.below (bl_alloc hb1)).trans h3⟩
  clear h hl hx hb1
  go_enter Tryz.func104, Tryz.ntmps104
  go_wp2_with fail
  refine HC.out.mono ?_
  rintro e w1 ⟨rfl, h1, h2, h3⟩
  have HE := hid (HD.out w1 h1 h2 h3)
  clear h1 h2 h3 HC HD
  go_wp2
  go_end0
  exact HE.out
set_option maxHeartbeats 4000000 in
set_option maxRecDepth 20000 in
theorem step_wr (B p : Nat) (bs : List Int) (x : PushD) (w : World) (hx : wfI x.op ∧ wfI x.r.h ∧ wfI x.r.f ∧ wfU x.n) (h : Wr B p bs w) (hl : (bs ++ stepL x).length ≤ 9000000) :
    Calls Tryz.prog 145 #[.pointer (some ⟨p, 0, none⟩), .agg #[.int .i64 x.op, .int .i64 x.r.h, .int .i64 x.r.f, .int .u64 x.n]] w (WDone B p (bs ++ stepL x) w) := by
  have hb1 : Below w.heap.size w (w.alloc (.cells #[.int .i64 x.op, .int .i64 x.r.h, .int .i64 x.r.f, .int .u64 x.n] 144)) := bl_alloc (Below.refl _ _)
  have hun := bounds_u64 hx.2.2.2
  obtain ⟨N, hN0⟩ : ∃ N : Nat, x.n = N := ⟨x.n.toNat, by omega⟩
  have hN := hid hN0
  have hNb : N < 18446744073709551616 := by omega
  clear hN0
  have HC := hid (number_any B p bs x.op _ hx.1 (h.step hb1) (by rw [stepL, ← List.append_assoc, List.length_append] at hl; omega))
  have hat := alloc_at w #[.int .i64 x.op, .int .i64 x.r.h, .int .i64 x.r.f, .int .u64 x.n] 144
  have hbp : w.heap.size ≠ p := by have := h.pl; omega
  have HD : Hid (∀ w1, Wr B p (bs ++ numL x.op) w1 → Below B (w.alloc (.cells #[.int .i64 x.op, .int .i64 x.r.h, .int .i64 x.r.f, .int .u64 x.n] 144)) w1 → Fram p (w.alloc (.cells #[.int .i64 x.op, .int .i64 x.r.h, .int .i64 x.r.f, .int .u64 x.n] 144)) w1 → Below B w w1 ∧ Fram p w w1 ∧ w1.cell? ⟨w.heap.size, 0, none⟩ = some (.int .i64 x.op) ∧ w1.cell? ⟨w.heap.size, 1, none⟩ = some (.int .i64 x.r.h) ∧ w1.cell? ⟨w.heap.size, 2, none⟩ = some (.int .i64 x.r.f) ∧ w1.cell? ⟨w.heap.size, 3, none⟩ = some (.int .u64 x.n)) := fun w1 h1 h2 h3 => by
    have hc := box_cell (h3.2 _ _ _ _ hbp (by decide) hat)
    exact ⟨(hb1.mono h.bl).trans h2, (Fram.below hb1).trans h3, hc 0, hc 1, hc 2, hc 3⟩
  have HL := hid hl
  have HX := hid hx
  clear h hl hx hb1 hat
  by_cases k1 : x.op = 1
  · have e1 : (x.op == 1) = true := by simpa using k1
    have es : stepL x = numL x.op ++ plainL N := by unfold stepL; rw [if_pos k1, hN.out, Int.toNat_natCast]
    rw [es] at HL ⊢
    clear k1 es
    go_enter Tryz.func145, Tryz.ntmps145
    go_wp2_with fail
    refine HC.out.mono ?_
    rintro e w1 ⟨rfl, h1, h2, h3⟩
    obtain ⟨b1, f1, c0, c1, c2, c3⟩ := HD.out w1 h1 h2 h3
    rw [hN.out] at c3
    have HP := hid (plain_any B p _ N w1 hNb h1 (by rw [List.append_assoc]; exact HL.out))
    have B1 := hid b1
    have F1 := hid f1
    clear h1 h2 h3 b1 f1 HC HD
    go_wp2_with fail
    refine HP.out.mono ?_
    rintro e w2 ⟨rfl, g1, g2, g3⟩
    rw [List.append_assoc] at g1
    have HE : Hid (WDone B p (bs ++ (numL x.op ++ plainL N)) w (.returned (.tuple #[])) w2) := ⟨rfl, g1, B1.out.trans g2, F1.out.trans g3⟩
    clear g1 g2 g3 HP
    go_wp2
    go_end0
    exact HE.out
  have e1 : (x.op == 1) = false := by simpa using k1
  by_cases k2 : x.op = 2
  · have e2 : (x.op == 2) = true := by simpa using k2
    have es : stepL x = numL x.op ++ refL x.r := by unfold stepL; rw [if_neg k1, if_pos k2]
    rw [es] at HL ⊢
    clear k1 k2 es
    go_enter Tryz.func145, Tryz.ntmps145
    go_wp2_with fail
    refine HC.out.mono ?_
    rintro e w1 ⟨rfl, h1, h2, h3⟩
    obtain ⟨b1, f1, c0, c1, c2, c3⟩ := HD.out w1 h1 h2 h3
    have HP := hid (field_wr B p _ x.r w1 ⟨HX.out.2.1, HX.out.2.2.1⟩ h1 (by rw [List.append_assoc]; exact HL.out))
    have B1 := hid b1
    have F1 := hid f1
    clear h1 h2 h3 b1 f1 HC HD
    go_wp2_with fail
    refine HP.out.mono ?_
    rintro e w2 ⟨rfl, g1, g2, g3⟩
    rw [List.append_assoc] at g1
    have HE : Hid (WDone B p (bs ++ (numL x.op ++ refL x.r)) w (.returned (.tuple #[])) w2) := ⟨rfl, g1, B1.out.trans g2, F1.out.trans g3⟩
    clear g1 g2 g3 HP
    go_wp2
    go_end0
    exact HE.out
  · have e2 : (x.op == 2) = false := by simpa using k2
    have es : stepL x = numL x.op := by unfold stepL; rw [if_neg k1, if_neg k2, List.append_nil]
    rw [es]
    clear k1 k2 es
    go_enter Tryz.func145, Tryz.ntmps145
    go_wp2_with fail
    refine HC.out.mono ?_
    rintro e w1 ⟨rfl, h1, h2, h3⟩
    obtain ⟨b1, f1, c0, c1, c2, c3⟩ := HD.out w1 h1 h2 h3
    have HE : Hid (WDone B p (bs ++ numL x.op) w (.returned (.tuple #[])) w1) := ⟨rfl, h1, b1, f1⟩
    clear h1 h2 h3 b1 f1 HC HD
    go_wp2
    go_end0
    exact HE.out
set_option maxHeartbeats 2000000 in
set_option maxRecDepth 20000 in
theorem tree_wr (W0 : World) (p : Nat) (bs : List Int) (s : QSl) (es : List PushD) (w : World) (h : Wr W0.heap.size p bs w) (hw0 : Below W0.heap.size W0 w) (hr : QRow 4 PushD.lie W0 s es) (hn : s.n ≤ 100000) (hl : (bs ++ treeL es).length ≤ 9000000) :
    Calls Tryz.prog 109 #[.pointer (some ⟨p, 0, none⟩), .slice s.a s.n s.c] w (WDone W0.heap.size p (bs ++ treeL es) w) := by
  have e : treeL es = numL (s.n : Int) ++ es.flatMap stepL := by unfold treeL; rw [hr.1]
  rw [e] at hl ⊢
  have HC := hid (writeList_push W0 p _ bs s es stepL w rfl h hw0 hr hn hl (fun x hx cs w' h1 _ h3 => step_wr _ p cs x w' (kPush.inns hr x hx) h1 h3))
  have hmf : ∀ (fn : Fn) (first cap : Array Value) (w : World), (Instr.makeFunc fn first cap).run Tryz.prog w = .ok (.func fn first cap) w := fun _ _ _ _ => rfl
  clear h hw0 hr hl e
  go_enter Tryz.func109, Tryz.ntmps109
  go_wp2_with fail
  refine HC.out.mono ?_
  rintro e w1 hd
  have HE := hid hd
  have he := hd.1
  subst he
  clear hd HC
  go_wp2
  go_end0
  exact HE.out
end Go.Proofs.YtedeiaokohdhpaaGreat

namespace Go.Proofs.YtedeiaokohdhpaaGreat
open Go.RowKit
def intsL (ns : List Int) : List Int := numL ns.length ++ ns.flatMap numL
def numsL (zs : List Int) : List Int := numL zs.length ++ zs.flatMap fun z => plainL z.toNat
set_option maxHeartbeats 4000000 in
set_option maxRecDepth 20000 in
theorem writeList_int (W0 : World) (p : Nat) (bs : List Int) (s : QSl) (S : List Int) (w : World) (h : Wr W0.heap.size p bs w) (hw0 : Below W0.heap.size W0 w) (hr : Has .i64 W0 s.a s.n S) (hn : s.n ≤ 100000) (hl : (bs ++ intsL S).length ≤ 9000000) :
    Calls Tryz.prog 56 #[.pointer (some ⟨p, 0, none⟩), .slice s.a s.n s.c, .func (.func 57) #[.pointer (some ⟨p, 0, none⟩)] #[]] w (WDone W0.heap.size p (bs ++ intsL S) w) := by
  have eL : intsL S = numL (s.n : Int) ++ S.flatMap numL := by unfold intsL; rw [hr.1]
  rw [eL] at hl ⊢
  have hwn : wfI (s.n : Int) := wf_i64 _ (by omega)
  have HNU := hid (number_any W0.heap.size p bs (s.n : Int) w hwn h (by rw [← List.append_assoc, List.length_append] at hl; omega))
  have HL := hid hl
  have HR := hid hr
  have HW0 := hid hw0
  obtain ⟨sa, esa⟩ : ∃ sa, s.a = sa := ⟨_, rfl⟩
  rw [esa]
  have ESA := hid esa
  clear h hl hr hw0 esa hwn eL
  go_enter Tryz.func56, Tryz.ntmps56
  go_wp2_with fail
  refine HNU.out.mono ?_
  rintro e w1 ⟨rfl, h1, h2, h3⟩
  have H1 := hid h1
  have H2 := hid h2
  have H3 := hid h3
  clear h1 h2 h3 HNU
  go_wp2
  go_loopw [14, 7] (fun q _ wr => ∃ i : Nat, i ≤ s.n ∧ q = .int .i64 i ∧ Hid (Wr W0.heap.size p (bs ++ (numL s.n ++ (S.take i).flatMap numL)) wr) ∧ Hid (Below W0.heap.size w wr) ∧ Hid (Fram p w wr)) (fun q _ _ => s.n - (intOf q).toNat)
  case atStart => exact ⟨0, Nat.zero_le _, rfl, by simpa using H1, H2, H3⟩
  case round =>
    obtain ⟨i, hi, rfl, WR, HB, HF⟩ := hrel
    clear H1 H2 H3
    by_cases hlt : i < s.n
    · have hii : (i : Int) < (s.n : Int) := by omega
      have hil : i < S.length := by rw [HR.out.1]; exact hlt
      obtain ⟨g, off, ea, _, hc⟩ := (HR.out.step (HW0.out.trans HB.out)).some (by omega)
      obtain rfl : sa = some ⟨g, off, none⟩ := by rw [← ESA.out]; exact ea
      have hx := List.getElem?_eq_getElem hil
      have hwf := HR.out.2.1 _ (List.getElem_mem hil)
      have c0 := hc i hlt
      rw [List.getD_eq_getElem?_getD, hx, Option.getD_some] at c0
      have HT := hid (flat_take (f := numL) hx)
      have hle := flat_le numL S (i + 1)
      generalize S[i] = x at *
      have HLE : Hid ((bs ++ (numL s.n ++ (S.take i).flatMap numL) ++ numL x).length ≤ 9000000) := by
        show _ ≤ _
        have := HL.out
        rw [HT.out] at hle
        simp only [List.length_append] at this hle ⊢
        omega
      have HC := hid (number_any W0.heap.size p _ x wr hwf WR.out HLE.out)
      clear ea hx hle hwf hc
      go_wp2_with fail
      refine HC.out.mono ?_
      rintro e w3 ⟨rfl, h1, h2, h3⟩
      have R1 : Hid (Wr W0.heap.size p (bs ++ (numL s.n ++ (S.take (i + 1)).flatMap numL)) w3) := by show Wr _ _ _ _; rw [HT.out]; simpa using h1
      have R2 := hid (HB.out.trans h2)
      have R3 := hid (HF.out.trans h3)
      clear h1 h2 h3 WR HB HF HC HT
      go_wp2
      go_roundw
      case rel => exact ⟨i + 1, by omega, by go_num, R1, R2, R3⟩
      case measure => simp [intOf]; omega
    · have hii : ¬ (i : Int) < (s.n : Int) := by omega
      have HE : Hid (WDone W0.heap.size p (bs ++ (numL s.n ++ S.flatMap numL)) w (.returned (.tuple #[])) wr) := ⟨rfl, by have := WR.out; rw [List.take_of_length_le (by rw [HR.out.1]; omega)] at this; exact this, HB.out, HF.out⟩
      clear WR HB HF
      go_wp2
      go_end0
      exact HE.out
set_option maxHeartbeats 4000000 in
set_option maxRecDepth 20000 in
theorem writeList_num (W0 : World) (p : Nat) (bs : List Int) (s : QSl) (S : List Int) (w : World) (h : Wr W0.heap.size p bs w) (hw0 : Below W0.heap.size W0 w) (hr : Has .u64 W0 s.a s.n S) (hn : s.n ≤ 100000) (hl : (bs ++ numsL S).length ≤ 9000000) :
    Calls Tryz.prog 108 #[.pointer (some ⟨p, 0, none⟩), .slice s.a s.n s.c, .func (.func 102) #[.pointer (some ⟨p, 0, none⟩)] #[]] w (WDone W0.heap.size p (bs ++ numsL S) w) := by
  have eL : numsL S = numL (s.n : Int) ++ S.flatMap (fun z => plainL z.toNat) := by unfold numsL; rw [hr.1]
  rw [eL] at hl ⊢
  have hwn : wfI (s.n : Int) := wf_i64 _ (by omega)
  have HNU := hid (number_any W0.heap.size p bs (s.n : Int) w hwn h (by rw [← List.append_assoc, List.length_append] at hl; omega))
  have HL := hid hl
  have HR := hid hr
  have HW0 := hid hw0
  obtain ⟨sa, esa⟩ : ∃ sa, s.a = sa := ⟨_, rfl⟩
  rw [esa]
  have ESA := hid esa
  clear h hl hr hw0 esa hwn eL
  go_enter Tryz.func108, Tryz.ntmps108
  go_wp2_with fail
  refine HNU.out.mono ?_
  rintro e w1 ⟨rfl, h1, h2, h3⟩
  have H1 := hid h1
  have H2 := hid h2
  have H3 := hid h3
  clear h1 h2 h3 HNU
  go_wp2
  go_loopw [14, 7] (fun q _ wr => ∃ i : Nat, i ≤ s.n ∧ q = .int .i64 i ∧ Hid (Wr W0.heap.size p (bs ++ (numL s.n ++ (S.take i).flatMap (fun z => plainL z.toNat))) wr) ∧ Hid (Below W0.heap.size w wr) ∧ Hid (Fram p w wr)) (fun q _ _ => s.n - (intOf q).toNat)
  case atStart => exact ⟨0, Nat.zero_le _, rfl, by simpa using H1, H2, H3⟩
  case round =>
    obtain ⟨i, hi, rfl, WR, HB, HF⟩ := hrel
    clear H1 H2 H3
    by_cases hlt : i < s.n
    · have hii : (i : Int) < (s.n : Int) := by omega
      have hil : i < S.length := by rw [HR.out.1]; exact hlt
      obtain ⟨g, off, ea, _, hc⟩ := (HR.out.step (HW0.out.trans HB.out)).some (by omega)
      obtain rfl : sa = some ⟨g, off, none⟩ := by rw [← ESA.out]; exact ea
      have hx := List.getElem?_eq_getElem hil
      have hwf := HR.out.2.1 _ (List.getElem_mem hil)
      have c0 := hc i hlt
      rw [List.getD_eq_getElem?_getD, hx, Option.getD_some] at c0
      have HT := hid (flat_take (f := (fun z => plainL z.toNat)) hx)
      have hle := flat_le (fun z => plainL z.toNat) S (i + 1)
      generalize S[i] = x at *
      have hub := bounds_u64 hwf
      obtain ⟨N, rfl⟩ : ∃ N : Nat, x = N := ⟨x.toNat, by omega⟩
      rw [Int.toNat_natCast] at HT
      have hNb : N < 18446744073709551616 := by omega
      have HLE : Hid ((bs ++ (numL s.n ++ (S.take i).flatMap (fun z => plainL z.toNat)) ++ plainL N).length ≤ 9000000) := by
        show _ ≤ _
        have := HL.out
        rw [HT.out] at hle
        simp only [List.length_append] at this hle ⊢
        omega
      have HC := hid (plain_any W0.heap.size p _ N wr hNb WR.out HLE.out)
      clear ea hx hle hwf hc
      go_wp2_with fail
      refine HC.out.mono ?_
      rintro e w3 ⟨rfl, h1, h2, h3⟩
      have R1 : Hid (Wr W0.heap.size p (bs ++ (numL s.n ++ (S.take (i + 1)).flatMap (fun z => plainL z.toNat))) w3) := by show Wr _ _ _ _; rw [HT.out]; simpa using h1
      have R2 := hid (HB.out.trans h2)
      have R3 := hid (HF.out.trans h3)
      clear h1 h2 h3 WR HB HF HC HT
      go_wp2
      go_roundw
      case rel => exact ⟨i + 1, by omega, by go_num, R1, R2, R3⟩
      case measure => simp [intOf]; omega
    · have hii : ¬ (i : Int) < (s.n : Int) := by omega
      have HE : Hid (WDone W0.heap.size p (bs ++ (numL s.n ++ S.flatMap (fun z => plainL z.toNat))) w (.returned (.tuple #[])) wr) := ⟨rfl, by have := WR.out; rw [List.take_of_length_le (by rw [HR.out.1]; omega)] at this; exact this, HB.out, HF.out⟩
      clear WR HB HF
      go_wp2
      go_end0
      exact HE.out
set_option maxHeartbeats 2000000 in
set_option maxRecDepth 20000 in
theorem header_wr (W0 : World) (p : Nat) (bs : List Int) (x : HeadD) (w : World) (h : Wr W0.heap.size p bs w) (hw0 : Below W0.heap.size W0 w) (hr : Has .i64 W0 x.w.a x.w.n x.ws) (hn : x.w.n ≤ 100000) (hl : (bs ++ intsL x.ws).length ≤ 9000000) :
    Calls Tryz.prog 55 #[.pointer (some ⟨p, 0, none⟩), .agg #[.slice x.w.a x.w.n x.w.c]] w (WDone W0.heap.size p (bs ++ intsL x.ws) w) := by
  have hb1 : Below w.heap.size w (w.alloc (.cells #[.slice x.w.a x.w.n x.w.c] 53)) := bl_alloc (Below.refl _ _)
  have HC := hid (writeList_int W0 p bs x.w x.ws (w.alloc (.cells #[.slice x.w.a x.w.n x.w.c] 53)) (h.step hb1) (hw0.trans (hb1.mono h.bl)) hr hn hl)
  have HD : Hid (∀ w', Wr W0.heap.size p (bs ++ intsL x.ws) w' → Below W0.heap.size (w.alloc (.cells #[.slice x.w.a x.w.n x.w.c] 53)) w' → Fram p (w.alloc (.cells #[.slice x.w.a x.w.n x.w.c] 53)) w' → WDone W0.heap.size p (bs ++ intsL x.ws) w (.returned (.tuple #[])) w') := fun w' h1 h2 h3 => ⟨rfl, h1, (hb1.mono h.bl).trans h2, (Fram.below hb1).trans h3⟩
  have hmf : ∀ (fn : Fn) (first cap : Array Value) (w : World), (Instr.makeFunc fn first cap).run Tryz.prog w = .ok (.func fn first cap) w := fun _ _ _ _ => rfl
  clear h hl hr hb1 hw0
  go_enter Tryz.func55, Tryz.ntmps55
  go_wp2_with fail
  refine HC.out.mono ?_
  rintro e w1 ⟨rfl, h1, h2, h3⟩
  have HE := hid (HD.out w1 h1 h2 h3)
  clear h1 h2 h3 HC HD
  go_wp2
  go_end0
  exact HE.out
end Go.Proofs.YtedeiaokohdhpaaGreat

namespace Go.Proofs.YtedeiaokohdhpaaGreat
open Go.RowKit
def opL (x : OpD) : List Int := numL x.kind ++ (if x.kind = 1 then refL x.r ++ treeL x.es else if x.kind = 2 then numL x.head else if x.kind = 3 then numL x.head else if x.kind = 5 then treeL x.es else if x.kind = 6 then refL x.r ++ numL x.head else [])
set_option maxHeartbeats 8000000 in
set_option maxRecDepth 20000 in
theorem deed_wr (W0 : World) (p : Nat) (bs : List Int) (x : OpD) (w : World) (h : Wr W0.heap.size p bs w) (hw0 : Below W0.heap.size W0 w) (hx : wfI x.kind ∧ wfI x.r.h ∧ wfI x.r.f ∧ wfI x.head) (hr : QRow 4 PushD.lie W0 x.e x.es) (hn : x.e.n ≤ 100000) (hl : (bs ++ opL x).length ≤ 9000000) :
    Calls Tryz.prog 106 #[.pointer (some ⟨p, 0, none⟩), .agg #[.int .i64 x.kind, .int .i64 x.r.h, .int .i64 x.r.f, .int .i64 x.head, .slice x.e.a x.e.n x.e.c]] w (WDone W0.heap.size p (bs ++ opL x) w) := by
  have hb1 : Below w.heap.size w (w.alloc (.cells #[.int .i64 x.kind, .int .i64 x.r.h, .int .i64 x.r.f, .int .i64 x.head, .slice x.e.a x.e.n x.e.c] 59)) := bl_alloc (Below.refl _ _)
  have HC := hid (number_any W0.heap.size p bs x.kind _ hx.1 (h.step hb1) (by rw [opL, ← List.append_assoc, List.length_append] at hl; omega))
  have hat := alloc_at w #[.int .i64 x.kind, .int .i64 x.r.h, .int .i64 x.r.f, .int .i64 x.head, .slice x.e.a x.e.n x.e.c] 59
  have hbp0 : w.heap.size ≠ p := by have := h.pl; omega
  have HD : Hid (∀ w1, Wr W0.heap.size p (bs ++ numL x.kind) w1 → Below W0.heap.size (w.alloc (.cells #[.int .i64 x.kind, .int .i64 x.r.h, .int .i64 x.r.f, .int .i64 x.head, .slice x.e.a x.e.n x.e.c] 59)) w1 → Fram p (w.alloc (.cells #[.int .i64 x.kind, .int .i64 x.r.h, .int .i64 x.r.f, .int .i64 x.head, .slice x.e.a x.e.n x.e.c] 59)) w1 → Below W0.heap.size w w1 ∧ Fram p w w1 ∧ w1.heap[w.heap.size]? = some (.cells #[.int .i64 x.kind, .int .i64 x.r.h, .int .i64 x.r.f, .int .i64 x.head, .slice x.e.a x.e.n x.e.c] 59 (0, 0))) := fun w1 h1 h2 h3 => 
    ⟨(hb1.mono h.bl).trans h2, (Fram.below hb1).trans h3, h3.2 _ _ _ _ hbp0 (by decide) hat⟩
  have HL := hid hl
  have HX := hid hx
  have HW := hid hw0
  have HR := hid hr
  have hbp := hid hbp0
  clear h hl hx hb1 hat hw0 hr hbp0
  by_cases k1 : x.kind = 1
  · have e1 : (x.kind == 1) = true := by simpa using k1
    have KK := hid k1
    have KS : Hid True := trivial
    clear k1
    have es : opL x = numL x.kind ++ (refL x.r ++ treeL x.es) := by unfold opL; rw [if_pos KK.out]
    rw [es] at HL ⊢
    clear es KS KK
    go_enter Tryz.func106, Tryz.ntmps106
    go_wp2_with fail
    refine HC.out.mono ?_
    rintro e w1 ⟨rfl, h1, h2, h3⟩
    obtain ⟨b1, f1, ha1⟩ := HD.out w1 h1 h2 h3
    have HA1 := hid ha1
    have B1 := hid b1
    have F1 := hid f1
    have H1 := hid h1
    have c10 := box_cell ha1 0
    have c11 := box_cell ha1 1
    have c12 := box_cell ha1 2
    have c13 := box_cell ha1 3
    have c14 := box_cell ha1 4
    simp only [List.getElem?_toArray, List.getElem?_cons_zero, List.getElem?_cons_succ] at c10 c11 c12 c13 c14
    clear h1 h2 h3 b1 f1 ha1 HC HD
    have HP2 := hid (field_wr W0.heap.size p _ x.r w1 ⟨HX.out.2.1, HX.out.2.2.1⟩ H1.out (by have := HL.out; simp only [List.length_append] at this ⊢; omega))
    go_wp2_with fail
    refine HP2.out.mono ?_
    rintro e w2 ⟨rfl, h1, h2, h3⟩
    have B2 := hid (B1.out.trans h2)
    have F2 := hid (F1.out.trans h3)
    have H2 := hid h1
    have ha := h3.2 _ _ _ _ hbp.out (by decide) HA1.out
    have HA2 := hid ha
    have c20 := box_cell ha 0
    have c21 := box_cell ha 1
    have c22 := box_cell ha 2
    have c23 := box_cell ha 3
    have c24 := box_cell ha 4
    simp only [List.getElem?_toArray, List.getElem?_cons_zero, List.getElem?_cons_succ] at c20 c21 c22 c23 c24
    clear h1 h2 h3 ha HP2 c10 c11 c12 c13 c14
    have HP3 := hid (tree_wr W0 p _ x.e x.es w2 H2.out (HW.out.trans B2.out) HR.out hn (by have := HL.out; simp only [List.length_append] at this ⊢; omega))
    go_wp2_with fail
    refine HP3.out.mono ?_
    rintro e w3 ⟨rfl, h1, h2, h3⟩
    have B3 := hid (B2.out.trans h2)
    have F3 := hid (F2.out.trans h3)
    have H3 := hid h1
    have ha := h3.2 _ _ _ _ hbp.out (by decide) HA2.out
    have HA3 := hid ha
    have c30 := box_cell ha 0
    have c31 := box_cell ha 1
    have c32 := box_cell ha 2
    have c33 := box_cell ha 3
    have c34 := box_cell ha 4
    simp only [List.getElem?_toArray, List.getElem?_cons_zero, List.getElem?_cons_succ] at c30 c31 c32 c33 c34
    clear h1 h2 h3 ha HP3 c20 c21 c22 c23 c24
    have HE : Hid (WDone W0.heap.size p (bs ++ (numL x.kind ++ (refL x.r ++ treeL x.es))) w (.returned (.tuple #[])) w3) := by
      have h1 := H3.out
      have hh : Wr W0.heap.size p (bs ++ (numL x.kind ++ (refL x.r ++ treeL x.es))) w3 := by simpa only [List.append_assoc] using h1
      exact ⟨rfl, hh, B3.out, F3.out⟩
    go_wp2
    go_end0
    exact HE.out
  have e1 : (x.kind == 1) = false := by simpa using k1
  by_cases k2 : x.kind = 2
  · have e2 : (x.kind == 2) = true := by simpa using k2
    have KK := hid k2
    have KS : Hid (¬ x.kind = 1 ∧ True) := ⟨k1, trivial⟩
    clear k1 k2
    have es : opL x = numL x.kind ++ numL x.head := by unfold opL; rw [if_neg KS.out.1, if_pos KK.out]
    rw [es] at HL ⊢
    clear es KS KK
    go_enter Tryz.func106, Tryz.ntmps106
    go_wp2_with fail
    refine HC.out.mono ?_
    rintro e w1 ⟨rfl, h1, h2, h3⟩
    obtain ⟨b1, f1, ha1⟩ := HD.out w1 h1 h2 h3
    have HA1 := hid ha1
    have B1 := hid b1
    have F1 := hid f1
    have H1 := hid h1
    have c10 := box_cell ha1 0
    have c11 := box_cell ha1 1
    have c12 := box_cell ha1 2
    have c13 := box_cell ha1 3
    have c14 := box_cell ha1 4
    simp only [List.getElem?_toArray, List.getElem?_cons_zero, List.getElem?_cons_succ] at c10 c11 c12 c13 c14
    clear h1 h2 h3 b1 f1 ha1 HC HD
    have HP2 := hid (number_any W0.heap.size p _ x.head w1 HX.out.2.2.2 H1.out (by have := HL.out; simp only [List.length_append] at this ⊢; omega))
    go_wp2_with fail
    refine HP2.out.mono ?_
    rintro e w2 ⟨rfl, h1, h2, h3⟩
    have B2 := hid (B1.out.trans h2)
    have F2 := hid (F1.out.trans h3)
    have H2 := hid h1
    have ha := h3.2 _ _ _ _ hbp.out (by decide) HA1.out
    have HA2 := hid ha
    have c20 := box_cell ha 0
    have c21 := box_cell ha 1
    have c22 := box_cell ha 2
    have c23 := box_cell ha 3
    have c24 := box_cell ha 4
    simp only [List.getElem?_toArray, List.getElem?_cons_zero, List.getElem?_cons_succ] at c20 c21 c22 c23 c24
    clear h1 h2 h3 ha HP2 c10 c11 c12 c13 c14
    have HE : Hid (WDone W0.heap.size p (bs ++ (numL x.kind ++ numL x.head)) w (.returned (.tuple #[])) w2) := by
      have h1 := H2.out
      have hh : Wr W0.heap.size p (bs ++ (numL x.kind ++ numL x.head)) w2 := by simpa only [List.append_assoc] using h1
      exact ⟨rfl, hh, B2.out, F2.out⟩
    go_wp2
    go_end0
    exact HE.out
  have e2 : (x.kind == 2) = false := by simpa using k2
  by_cases k3 : x.kind = 3
  · have e3 : (x.kind == 3) = true := by simpa using k3
    have KK := hid k3
    have KS : Hid (¬ x.kind = 1 ∧ ¬ x.kind = 2 ∧ True) := ⟨k1, k2, trivial⟩
    clear k1 k2 k3
    have es : opL x = numL x.kind ++ numL x.head := by unfold opL; rw [if_neg KS.out.1, if_neg KS.out.2.1, if_pos KK.out]
    rw [es] at HL ⊢
    clear es KS KK
    go_enter Tryz.func106, Tryz.ntmps106
    go_wp2_with fail
    refine HC.out.mono ?_
    rintro e w1 ⟨rfl, h1, h2, h3⟩
    obtain ⟨b1, f1, ha1⟩ := HD.out w1 h1 h2 h3
    have HA1 := hid ha1
    have B1 := hid b1
    have F1 := hid f1
    have H1 := hid h1
    have c10 := box_cell ha1 0
    have c11 := box_cell ha1 1
    have c12 := box_cell ha1 2
    have c13 := box_cell ha1 3
    have c14 := box_cell ha1 4
    simp only [List.getElem?_toArray, List.getElem?_cons_zero, List.getElem?_cons_succ] at c10 c11 c12 c13 c14
    clear h1 h2 h3 b1 f1 ha1 HC HD
    have HP2 := hid (number_any W0.heap.size p _ x.head w1 HX.out.2.2.2 H1.out (by have := HL.out; simp only [List.length_append] at this ⊢; omega))
    go_wp2_with fail
    refine HP2.out.mono ?_
    rintro e w2 ⟨rfl, h1, h2, h3⟩
    have B2 := hid (B1.out.trans h2)
    have F2 := hid (F1.out.trans h3)
    have H2 := hid h1
    have ha := h3.2 _ _ _ _ hbp.out (by decide) HA1.out
    have HA2 := hid ha
    have c20 := box_cell ha 0
    have c21 := box_cell ha 1
    have c22 := box_cell ha 2
    have c23 := box_cell ha 3
    have c24 := box_cell ha 4
    simp only [List.getElem?_toArray, List.getElem?_cons_zero, List.getElem?_cons_succ] at c20 c21 c22 c23 c24
    clear h1 h2 h3 ha HP2 c10 c11 c12 c13 c14
    have HE : Hid (WDone W0.heap.size p (bs ++ (numL x.kind ++ numL x.head)) w (.returned (.tuple #[])) w2) := by
      have h1 := H2.out
      have hh : Wr W0.heap.size p (bs ++ (numL x.kind ++ numL x.head)) w2 := by simpa only [List.append_assoc] using h1
      exact ⟨rfl, hh, B2.out, F2.out⟩
    go_wp2
    go_end0
    exact HE.out
  have e3 : (x.kind == 3) = false := by simpa using k3
  by_cases k5 : x.kind = 5
  · have e5 : (x.kind == 5) = true := by simpa using k5
    have KK := hid k5
    have KS : Hid (¬ x.kind = 1 ∧ ¬ x.kind = 2 ∧ ¬ x.kind = 3 ∧ True) := ⟨k1, k2, k3, trivial⟩
    clear k1 k2 k3 k5
    have es : opL x = numL x.kind ++ treeL x.es := by unfold opL; rw [if_neg KS.out.1, if_neg KS.out.2.1, if_neg KS.out.2.2.1, if_pos KK.out]
    rw [es] at HL ⊢
    clear es KS KK
    go_enter Tryz.func106, Tryz.ntmps106
    go_wp2_with fail
    refine HC.out.mono ?_
    rintro e w1 ⟨rfl, h1, h2, h3⟩
    obtain ⟨b1, f1, ha1⟩ := HD.out w1 h1 h2 h3
    have HA1 := hid ha1
    have B1 := hid b1
    have F1 := hid f1
    have H1 := hid h1
    have c10 := box_cell ha1 0
    have c11 := box_cell ha1 1
    have c12 := box_cell ha1 2
    have c13 := box_cell ha1 3
    have c14 := box_cell ha1 4
    simp only [List.getElem?_toArray, List.getElem?_cons_zero, List.getElem?_cons_succ] at c10 c11 c12 c13 c14
    clear h1 h2 h3 b1 f1 ha1 HC HD
    have HP2 := hid (tree_wr W0 p _ x.e x.es w1 H1.out (HW.out.trans B1.out) HR.out hn (by have := HL.out; simp only [List.length_append] at this ⊢; omega))
    go_wp2_with fail
    refine HP2.out.mono ?_
    rintro e w2 ⟨rfl, h1, h2, h3⟩
    have B2 := hid (B1.out.trans h2)
    have F2 := hid (F1.out.trans h3)
    have H2 := hid h1
    have ha := h3.2 _ _ _ _ hbp.out (by decide) HA1.out
    have HA2 := hid ha
    have c20 := box_cell ha 0
    have c21 := box_cell ha 1
    have c22 := box_cell ha 2
    have c23 := box_cell ha 3
    have c24 := box_cell ha 4
    simp only [List.getElem?_toArray, List.getElem?_cons_zero, List.getElem?_cons_succ] at c20 c21 c22 c23 c24
    clear h1 h2 h3 ha HP2 c10 c11 c12 c13 c14
    have HE : Hid (WDone W0.heap.size p (bs ++ (numL x.kind ++ treeL x.es)) w (.returned (.tuple #[])) w2) := by
      have h1 := H2.out
      have hh : Wr W0.heap.size p (bs ++ (numL x.kind ++ treeL x.es)) w2 := by simpa only [List.append_assoc] using h1
      exact ⟨rfl, hh, B2.out, F2.out⟩
    go_wp2
    go_end0
    exact HE.out
  have e5 : (x.kind == 5) = false := by simpa using k5
  by_cases k6 : x.kind = 6
  · have e6 : (x.kind == 6) = true := by simpa using k6
    have KK := hid k6
    have KS : Hid (¬ x.kind = 1 ∧ ¬ x.kind = 2 ∧ ¬ x.kind = 3 ∧ ¬ x.kind = 5 ∧ True) := ⟨k1, k2, k3, k5, trivial⟩
    clear k1 k2 k3 k5 k6
    have es : opL x = numL x.kind ++ (refL x.r ++ numL x.head) := by unfold opL; rw [if_neg KS.out.1, if_neg KS.out.2.1, if_neg KS.out.2.2.1, if_neg KS.out.2.2.2.1, if_pos KK.out]
    rw [es] at HL ⊢
    clear es KS KK
    go_enter Tryz.func106, Tryz.ntmps106
    go_wp2_with fail
    refine HC.out.mono ?_
    rintro e w1 ⟨rfl, h1, h2, h3⟩
    obtain ⟨b1, f1, ha1⟩ := HD.out w1 h1 h2 h3
    have HA1 := hid ha1
    have B1 := hid b1
    have F1 := hid f1
    have H1 := hid h1
    have c10 := box_cell ha1 0
    have c11 := box_cell ha1 1
    have c12 := box_cell ha1 2
    have c13 := box_cell ha1 3
    have c14 := box_cell ha1 4
    simp only [List.getElem?_toArray, List.getElem?_cons_zero, List.getElem?_cons_succ] at c10 c11 c12 c13 c14
    clear h1 h2 h3 b1 f1 ha1 HC HD
    have HP2 := hid (field_wr W0.heap.size p _ x.r w1 ⟨HX.out.2.1, HX.out.2.2.1⟩ H1.out (by have := HL.out; simp only [List.length_append] at this ⊢; omega))
    go_wp2_with fail
    refine HP2.out.mono ?_
    rintro e w2 ⟨rfl, h1, h2, h3⟩
    have B2 := hid (B1.out.trans h2)
    have F2 := hid (F1.out.trans h3)
    have H2 := hid h1
    have ha := h3.2 _ _ _ _ hbp.out (by decide) HA1.out
    have HA2 := hid ha
    have c20 := box_cell ha 0
    have c21 := box_cell ha 1
    have c22 := box_cell ha 2
    have c23 := box_cell ha 3
    have c24 := box_cell ha 4
    simp only [List.getElem?_toArray, List.getElem?_cons_zero, List.getElem?_cons_succ] at c20 c21 c22 c23 c24
    clear h1 h2 h3 ha HP2 c10 c11 c12 c13 c14
    have HP3 := hid (number_any W0.heap.size p _ x.head w2 HX.out.2.2.2 H2.out (by have := HL.out; simp only [List.length_append] at this ⊢; omega))
    go_wp2_with fail
    refine HP3.out.mono ?_
    rintro e w3 ⟨rfl, h1, h2, h3⟩
    have B3 := hid (B2.out.trans h2)
    have F3 := hid (F2.out.trans h3)
    have H3 := hid h1
    have ha := h3.2 _ _ _ _ hbp.out (by decide) HA2.out
    have HA3 := hid ha
    have c30 := box_cell ha 0
    have c31 := box_cell ha 1
    have c32 := box_cell ha 2
    have c33 := box_cell ha 3
    have c34 := box_cell ha 4
    simp only [List.getElem?_toArray, List.getElem?_cons_zero, List.getElem?_cons_succ] at c30 c31 c32 c33 c34
    clear h1 h2 h3 ha HP3 c20 c21 c22 c23 c24
    have HE : Hid (WDone W0.heap.size p (bs ++ (numL x.kind ++ (refL x.r ++ numL x.head))) w (.returned (.tuple #[])) w3) := by
      have h1 := H3.out
      have hh : Wr W0.heap.size p (bs ++ (numL x.kind ++ (refL x.r ++ numL x.head))) w3 := by simpa only [List.append_assoc] using h1
      exact ⟨rfl, hh, B3.out, F3.out⟩
    go_wp2
    go_end0
    exact HE.out
  have e6 : (x.kind == 6) = false := by simpa using k6
  have KS : Hid (¬ x.kind = 1 ∧ ¬ x.kind = 2 ∧ ¬ x.kind = 3 ∧ ¬ x.kind = 5 ∧ ¬ x.kind = 6 ∧ True) := ⟨k1, k2, k3, k5, k6, trivial⟩
  clear k1 k2 k3 k5 k6
  have es : opL x = numL x.kind := by unfold opL; rw [if_neg KS.out.1, if_neg KS.out.2.1, if_neg KS.out.2.2.1, if_neg KS.out.2.2.2.1, if_neg KS.out.2.2.2.2.1, List.append_nil]
  rw [es] at HL ⊢
  clear es KS
  go_enter Tryz.func106, Tryz.ntmps106
  go_wp2_with fail
  refine HC.out.mono ?_
  rintro e w1 ⟨rfl, h1, h2, h3⟩
  obtain ⟨b1, f1, ha1⟩ := HD.out w1 h1 h2 h3
  have HA1 := hid ha1
  have B1 := hid b1
  have F1 := hid f1
  have H1 := hid h1
  have c10 := box_cell ha1 0
  have c11 := box_cell ha1 1
  have c12 := box_cell ha1 2
  have c13 := box_cell ha1 3
  have c14 := box_cell ha1 4
  simp only [List.getElem?_toArray, List.getElem?_cons_zero, List.getElem?_cons_succ] at c10 c11 c12 c13 c14
  clear h1 h2 h3 b1 f1 ha1 HC HD
  have HE : Hid (WDone W0.heap.size p (bs ++ (numL x.kind)) w (.returned (.tuple #[])) w1) := by
    have h1 := H1.out
    have hh : Wr W0.heap.size p (bs ++ (numL x.kind)) w1 := by simpa only [List.append_assoc] using h1
    exact ⟨rfl, hh, B1.out, F1.out⟩
  go_wp2
  go_end0
  exact HE.out
end Go.Proofs.YtedeiaokohdhpaaGreat
