/- Texts of one chain, joined: ZWr2. -/
import Derived.Test.YtedeiaokohdhpaaGreatG23
import Derived.Test.YtedeiaokohdhpaaGreatG24
namespace Go.Proofs.YtedeiaokohdhpaaGreat
open Go.RowKit
theorem ints_cell {w : World} {g : Nat} {ns : List Int} {T : TypeId} {f : Nat × Nat} (h : w.heap[g]? = some (.cells (ns.map (Value.int .i64)).toArray T f)) {k : Nat} {x : Int} (hx : ns[k]? = some x) : w.cell? ⟨g, k, none⟩ = some (.int .i64 x) := by
  simp [World.cell?, h, hx]
theorem flat_take {α : Type} {f : α → List Int} {S : List α} {k : Nat} {x : α} (h : S[k]? = some x) : (S.take (k + 1)).flatMap f = (S.take k).flatMap f ++ f x := by
  rw [List.take_add_one, h, List.flatMap_append]
  simp
theorem flat_le {α : Type} (f : α → List Int) (S : List α) (k : Nat) : ((S.take k).flatMap f).length ≤ (S.flatMap f).length := by
  have := congrArg List.length (congrArg (List.flatMap f) (List.take_append_drop k S))
  rw [List.flatMap_append, List.length_append] at this
  omega
set_option maxHeartbeats 4000000 in
set_option maxRecDepth 20000 in
theorem numbers_any (B p g c : Nat) (bs ns : List Int) (w : World) (h : Wr B p bs w) (hg : w.heap[g]? = some (.cells (ns.map (Value.int .i64)).toArray 3 (0, 0))) (hgp : g ≠ p) (hwf : ∀ n ∈ ns, wfI n) (hn : ns.length ≤ 100000) (hl : (bs ++ ns.flatMap numL).length ≤ 9000000) :
    Calls Tryz.prog 103 #[.pointer (some ⟨p, 0, none⟩), .slice (some ⟨g, 0, none⟩) ns.length c] w (WDone B p (bs ++ ns.flatMap numL) w) := by
  have HW := hid h
  have HL := hid hl
  have HG := hid hg
  have HWF := hid hwf
  clear h hl hg hwf
  go_enter Tryz.func103, Tryz.ntmps103
  go_wp2
  go_loopw [8, 5] (fun q _ wr => ∃ k : Nat, k ≤ ns.length ∧ q = .int .i64 k ∧ Hid (Wr B p (bs ++ (ns.take k).flatMap numL) wr) ∧ Hid (Below B w wr) ∧ Hid (Fram p w wr)) (fun q _ _ => ns.length - (intOf q).toNat)
  case atStart => exact ⟨0, Nat.zero_le _, rfl, by simpa using HW, Below.refl _ _, Fram.refl _ _⟩
  case round =>
    obtain ⟨k, hk, rfl, WR, HB, HF⟩ := hrel
    by_cases hlt : k < ns.length
    · have hki : (k : Int) < (ns.length : Int) := by omega
      have hx := List.getElem?_eq_getElem hlt
      have hwx := HWF.out _ (List.getElem_mem hlt)
      have HT := hid (flat_take (f := numL) hx)
      have hle := flat_le numL ns (k + 1)
      have HLE : Hid ((bs ++ (ns.take k).flatMap numL ++ numL ns[k]).length ≤ 9000000) := by
        show _ ≤ _
        rw [List.append_assoc, ← HT.out, List.length_append]
        have := HL.out
        rw [List.length_append] at this
        omega
      have c0 := ints_cell (HF.out.2 g _ _ _ hgp (by decide) HG.out) hx
      generalize ns[k] = x at *
      have HC := hid (number_any B p _ x wr hwx WR.out HLE.out)
      clear hx hwx hle
      go_wp2_with fail
      refine HC.out.mono ?_
      rintro e w1 ⟨rfl, h1, h2, h3⟩
      rw [List.append_assoc, ← HT.out] at h1
      have R1 := hid h1
      have R2 := hid (HB.out.trans h2)
      have R3 := hid (HF.out.trans h3)
      clear h1 h2 h3 WR HB HF HC HT
      go_wp2
      go_roundw
      case rel => exact ⟨k + 1, by omega, by go_num, R1, R2, R3⟩
      case measure => simp [intOf]; omega
    · have hki : ¬ (k : Int) < (ns.length : Int) := by omega
      have HE : Hid (WDone B p (bs ++ ns.flatMap numL) w (.returned (.tuple #[])) wr) := ⟨rfl, by have := WR.out; rw [List.take_of_length_le (by omega)] at this; exact this, HB.out, HF.out⟩
      clear WR HB HF
      go_wp2
      go_end0
      exact HE.out
set_option maxHeartbeats 4000000 in
set_option maxRecDepth 20000 in
theorem writeList_ref (W0 : World) (p N : Nat) (bs : List Int) (s : QSl) (S : List RefD) (el : RefD → List Int) (w : World) (hN : N = 104) (h : Wr W0.heap.size p bs w) (hw0 : Below W0.heap.size W0 w) (hr : QRow 2 RefD.lie W0 s S) (hn : s.n ≤ 100000) (hl : (bs ++ (numL s.n ++ S.flatMap el)).length ≤ 9000000)
    (hel : ∀ x ∈ S, ∀ cs w', Wr W0.heap.size p cs w' → Below W0.heap.size W0 w' → (cs ++ el x).length ≤ 9000000 → Calls Tryz.prog N #[.pointer (some ⟨p, 0, none⟩), .agg #[.int .i64 x.h, .int .i64 x.f]] w' (WDone W0.heap.size p (cs ++ el x) w')) :
    Calls Tryz.prog 107 #[.pointer (some ⟨p, 0, none⟩), .slice s.a s.n s.c, .func (.func N) #[.pointer (some ⟨p, 0, none⟩)] #[]] w (WDone W0.heap.size p (bs ++ (numL s.n ++ S.flatMap el)) w) := by
  subst hN
  have hwn : wfI (s.n : Int) := wf_i64 _ (by omega)
  have HNU := hid (number_any W0.heap.size p bs (s.n : Int) w hwn h (by rw [← List.append_assoc, List.length_append] at hl; omega))
  have HL := hid hl
  have HR := hid hr
  have HEL := hid hel
  have HW0 := hid hw0
  obtain ⟨sa, esa⟩ : ∃ sa, s.a = sa := ⟨_, rfl⟩
  rw [esa]
  have ESA := hid esa
  clear h hl hr hel hw0 esa hwn
  go_enter Tryz.func107, Tryz.ntmps107
  go_wp2_with fail
  refine HNU.out.mono ?_
  rintro e w1 ⟨rfl, h1, h2, h3⟩
  have H1 := hid h1
  have H2 := hid h2
  have H3 := hid h3
  clear h1 h2 h3 HNU
  go_wp2
  go_loopw [14, 7] (fun q _ wr => ∃ i : Nat, i ≤ s.n ∧ q = .int .i64 i ∧ Hid (Wr W0.heap.size p (bs ++ (numL s.n ++ (S.take i).flatMap el)) wr) ∧ Hid (Below W0.heap.size w wr) ∧ Hid (Fram p w wr)) (fun q _ _ => s.n - (intOf q).toNat)
  case atStart => exact ⟨0, Nat.zero_le _, rfl, by simpa using H1, H2, H3⟩
  case round =>
    obtain ⟨i, hi, rfl, WR, HB, HF⟩ := hrel
    clear H1 H2 H3
    by_cases hlt : i < s.n
    · have hii : (i : Int) < (s.n : Int) := by omega
      obtain ⟨g, off, x, ea, hx, hp⟩ := row_at (HR.out.step kRef.keeps (HW0.out.trans HB.out)) hlt
      obtain rfl : sa = some ⟨g, off, none⟩ := by rw [← ESA.out]; exact ea
      have c0 : wr.cell? ⟨g, off + i * 2, none⟩ = some (.int .i64 x.h) := kRef.cell hp 0 _ rfl
      have c1 : wr.cell? ⟨g, off + i * 2 + 1, none⟩ = some (.int .i64 x.f) := kRef.cell hp 1 _ rfl
      have HT := hid (flat_take (f := el) hx)
      have hle := flat_le el S (i + 1)
      have HLE : Hid ((bs ++ (numL s.n ++ (S.take i).flatMap el) ++ el x).length ≤ 9000000) := by
        show _ ≤ _
        have := HL.out
        rw [HT.out] at hle
        simp only [List.length_append] at this hle ⊢
        omega
      have BX : Hid (Below wr.heap.size wr (wr.alloc (.cells #[.int .i64 x.h, .int .i64 x.f] 48))) := bl_alloc (Below.refl _ _)
      have hws : W0.heap.size ≤ wr.heap.size := (HW0.out.trans HB.out).size
      have HC := hid (HEL.out x (List.mem_of_getElem? hx) _ _ (WR.out.step BX.out) ((HW0.out.trans HB.out).trans (BX.out.mono hws)) HLE.out)
      clear ea hx hp hle
      go_wp2_with fail
      refine HC.out.mono ?_
      rintro e w3 ⟨rfl, h1, h2, h3⟩
      rw [List.append_assoc, List.append_assoc, ← HT.out] at h1
      have R1 := hid h1
      have R2 := hid (HB.out.trans ((BX.out.mono hws).trans h2))
      have R3 := hid ((HF.out.trans (Fram.below BX.out)).trans h3)
      clear h1 h2 h3 WR HB HF HC HT BX
      go_wp2
      go_roundw
      case rel => exact ⟨i + 1, by omega, by go_num, R1, R2, R3⟩
      case measure => simp [intOf]; omega
    · have hii : ¬ (i : Int) < (s.n : Int) := by omega
      have HE : Hid (WDone W0.heap.size p (bs ++ (numL s.n ++ S.flatMap el)) w (.returned (.tuple #[])) wr) := ⟨rfl, by have := WR.out; rw [List.take_of_length_le (by rw [HR.out.1]; omega)] at this; exact this, HB.out, HF.out⟩
      clear WR HB HF
      go_wp2
      go_end0
      exact HE.out
set_option maxHeartbeats 4000000 in
set_option maxRecDepth 20000 in
theorem writeList_push (W0 : World) (p N : Nat) (bs : List Int) (s : QSl) (S : List PushD) (el : PushD → List Int) (w : World) (hN : N = 145) (h : Wr W0.heap.size p bs w) (hw0 : Below W0.heap.size W0 w) (hr : QRow 4 PushD.lie W0 s S) (hn : s.n ≤ 100000) (hl : (bs ++ (numL s.n ++ S.flatMap el)).length ≤ 9000000)
    (hel : ∀ x ∈ S, ∀ cs w', Wr W0.heap.size p cs w' → Below W0.heap.size W0 w' → (cs ++ el x).length ≤ 9000000 → Calls Tryz.prog N #[.pointer (some ⟨p, 0, none⟩), .agg #[.int .i64 x.op, .int .i64 x.r.h, .int .i64 x.r.f, .int .u64 x.n]] w' (WDone W0.heap.size p (cs ++ el x) w')) :
    Calls Tryz.prog 144 #[.pointer (some ⟨p, 0, none⟩), .slice s.a s.n s.c, .func (.func N) #[.pointer (some ⟨p, 0, none⟩)] #[]] w (WDone W0.heap.size p (bs ++ (numL s.n ++ S.flatMap el)) w) := by
  subst hN
  have hwn : wfI (s.n : Int) := wf_i64 _ (by omega)
  have HNU := hid (number_any W0.heap.size p bs (s.n : Int) w hwn h (by rw [← List.append_assoc, List.length_append] at hl; omega))
  have HL := hid hl
  have HR := hid hr
  have HEL := hid hel
  have HW0 := hid hw0
  obtain ⟨sa, esa⟩ : ∃ sa, s.a = sa := ⟨_, rfl⟩
  rw [esa]
  have ESA := hid esa
  clear h hl hr hel hw0 esa hwn
  go_enter Tryz.func144, Tryz.ntmps144
  go_wp2_with fail
  refine HNU.out.mono ?_
  rintro e w1 ⟨rfl, h1, h2, h3⟩
  have H1 := hid h1
  have H2 := hid h2
  have H3 := hid h3
  clear h1 h2 h3 HNU
  go_wp2
  go_loopw [14, 7] (fun q _ wr => ∃ i : Nat, i ≤ s.n ∧ q = .int .i64 i ∧ Hid (Wr W0.heap.size p (bs ++ (numL s.n ++ (S.take i).flatMap el)) wr) ∧ Hid (Below W0.heap.size w wr) ∧ Hid (Fram p w wr)) (fun q _ _ => s.n - (intOf q).toNat)
  case atStart => exact ⟨0, Nat.zero_le _, rfl, by simpa using H1, H2, H3⟩
  case round =>
    obtain ⟨i, hi, rfl, WR, HB, HF⟩ := hrel
    clear H1 H2 H3
    by_cases hlt : i < s.n
    · have hii : (i : Int) < (s.n : Int) := by omega
      obtain ⟨g, off, x, ea, hx, hp⟩ := row_at (HR.out.step kPush.keeps (HW0.out.trans HB.out)) hlt
      obtain rfl : sa = some ⟨g, off, none⟩ := by rw [← ESA.out]; exact ea
      have c0 : wr.cell? ⟨g, off + i * 4, none⟩ = some (.int .i64 x.op) := kPush.cell hp 0 _ rfl
      have c1 : wr.cell? ⟨g, off + i * 4 + 1, none⟩ = some (.int .i64 x.r.h) := kPush.cell hp 1 _ rfl
      have c2 : wr.cell? ⟨g, off + i * 4 + 2, none⟩ = some (.int .i64 x.r.f) := kPush.cell hp 2 _ rfl
      have c3 : wr.cell? ⟨g, off + i * 4 + 3, none⟩ = some (.int .u64 x.n) := kPush.cell hp 3 _ rfl
      have HT := hid (flat_take (f := el) hx)
      have hle := flat_le el S (i + 1)
      have HLE : Hid ((bs ++ (numL s.n ++ (S.take i).flatMap el) ++ el x).length ≤ 9000000) := by
        show _ ≤ _
        have := HL.out
        rw [HT.out] at hle
        simp only [List.length_append] at this hle ⊢
        omega
      have BX : Hid (Below wr.heap.size wr (wr.alloc (.cells #[.int .i64 x.op, .int .i64 x.r.h, .int .i64 x.r.f, .int .u64 x.n] 144))) := bl_alloc (Below.refl _ _)
      have hws : W0.heap.size ≤ wr.heap.size := (HW0.out.trans HB.out).size
      have HC := hid (HEL.out x (List.mem_of_getElem? hx) _ _ (WR.out.step BX.out) ((HW0.out.trans HB.out).trans (BX.out.mono hws)) HLE.out)
      clear ea hx hp hle
      go_wp2_with fail
      refine HC.out.mono ?_
      rintro e w3 ⟨rfl, h1, h2, h3⟩
      rw [List.append_assoc, List.append_assoc, ← HT.out] at h1
      have R1 := hid h1
      have R2 := hid (HB.out.trans ((BX.out.mono hws).trans h2))
      have R3 := hid ((HF.out.trans (Fram.below BX.out)).trans h3)
      clear h1 h2 h3 WR HB HF HC HT BX
      go_wp2
      go_roundw
      case rel => exact ⟨i + 1, by omega, by go_num, R1, R2, R3⟩
      case measure => simp [intOf]; omega
    · have hii : ¬ (i : Int) < (s.n : Int) := by omega
      have HE : Hid (WDone W0.heap.size p (bs ++ (numL s.n ++ S.flatMap el)) w (.returned (.tuple #[])) wr) := ⟨rfl, by have := WR.out; rw [List.take_of_length_le (by rw [HR.out.1]; omega)] at this; exact this, HB.out, HF.out⟩
      clear WR HB HF
      go_wp2
      go_end0
      exact HE.out
set_option maxHeartbeats 4000000 in
set_option maxRecDepth 20000 in
theorem writeList_head (W0 : World) (p N : Nat) (bs : List Int) (s : QSl) (S : List HeadD) (el : HeadD → List Int) (w : World) (hN : N = 55) (h : Wr W0.heap.size p bs w) (hw0 : Below W0.heap.size W0 w) (hr : QRow 1 HeadD.lie W0 s S) (hn : s.n ≤ 100000) (hl : (bs ++ (numL s.n ++ S.flatMap el)).length ≤ 9000000)
    (hel : ∀ x ∈ S, ∀ cs w', Wr W0.heap.size p cs w' → Below W0.heap.size W0 w' → (cs ++ el x).length ≤ 9000000 → Calls Tryz.prog N #[.pointer (some ⟨p, 0, none⟩), .agg #[.slice x.w.a x.w.n x.w.c]] w' (WDone W0.heap.size p (cs ++ el x) w')) :
    Calls Tryz.prog 54 #[.pointer (some ⟨p, 0, none⟩), .slice s.a s.n s.c, .func (.func N) #[.pointer (some ⟨p, 0, none⟩)] #[]] w (WDone W0.heap.size p (bs ++ (numL s.n ++ S.flatMap el)) w) := by
  subst hN
  have hwn : wfI (s.n : Int) := wf_i64 _ (by omega)
  have HNU := hid (number_any W0.heap.size p bs (s.n : Int) w hwn h (by rw [← List.append_assoc, List.length_append] at hl; omega))
  have HL := hid hl
  have HR := hid hr
  have HEL := hid hel
  have HW0 := hid hw0
  obtain ⟨sa, esa⟩ : ∃ sa, s.a = sa := ⟨_, rfl⟩
  rw [esa]
  have ESA := hid esa
  clear h hl hr hel hw0 esa hwn
  go_enter Tryz.func54, Tryz.ntmps54
  go_wp2_with fail
  refine HNU.out.mono ?_
  rintro e w1 ⟨rfl, h1, h2, h3⟩
  have H1 := hid h1
  have H2 := hid h2
  have H3 := hid h3
  clear h1 h2 h3 HNU
  go_wp2
  go_loopw [14, 7] (fun q _ wr => ∃ i : Nat, i ≤ s.n ∧ q = .int .i64 i ∧ Hid (Wr W0.heap.size p (bs ++ (numL s.n ++ (S.take i).flatMap el)) wr) ∧ Hid (Below W0.heap.size w wr) ∧ Hid (Fram p w wr)) (fun q _ _ => s.n - (intOf q).toNat)
  case atStart => exact ⟨0, Nat.zero_le _, rfl, by simpa using H1, H2, H3⟩
  case round =>
    obtain ⟨i, hi, rfl, WR, HB, HF⟩ := hrel
    clear H1 H2 H3
    by_cases hlt : i < s.n
    · have hii : (i : Int) < (s.n : Int) := by omega
      obtain ⟨g, off, x, ea, hx, hp⟩ := row_at (HR.out.step kHead.keeps (HW0.out.trans HB.out)) hlt
      obtain rfl : sa = some ⟨g, off, none⟩ := by rw [← ESA.out]; exact ea
      have c0 : wr.cell? ⟨g, off + i, none⟩ = some (.slice x.w.a x.w.n x.w.c) := by have := kHead.cell hp 0 _ rfl; rw [Nat.mul_one, Nat.add_zero] at this; exact this
      have HT := hid (flat_take (f := el) hx)
      have hle := flat_le el S (i + 1)
      have HLE : Hid ((bs ++ (numL s.n ++ (S.take i).flatMap el) ++ el x).length ≤ 9000000) := by
        show _ ≤ _
        have := HL.out
        rw [HT.out] at hle
        simp only [List.length_append] at this hle ⊢
        omega
      have BX : Hid (Below wr.heap.size wr (wr.alloc (.cells #[.slice x.w.a x.w.n x.w.c] 53))) := bl_alloc (Below.refl _ _)
      have hws : W0.heap.size ≤ wr.heap.size := (HW0.out.trans HB.out).size
      have HC := hid (HEL.out x (List.mem_of_getElem? hx) _ _ (WR.out.step BX.out) ((HW0.out.trans HB.out).trans (BX.out.mono hws)) HLE.out)
      clear ea hx hp hle
      go_wp2_with fail
      refine HC.out.mono ?_
      rintro e w3 ⟨rfl, h1, h2, h3⟩
      rw [List.append_assoc, List.append_assoc, ← HT.out] at h1
      have R1 := hid h1
      have R2 := hid (HB.out.trans ((BX.out.mono hws).trans h2))
      have R3 := hid ((HF.out.trans (Fram.below BX.out)).trans h3)
      clear h1 h2 h3 WR HB HF HC HT BX
      go_wp2
      go_roundw
      case rel => exact ⟨i + 1, by omega, by go_num, R1, R2, R3⟩
      case measure => simp [intOf]; omega
    · have hii : ¬ (i : Int) < (s.n : Int) := by omega
      have HE : Hid (WDone W0.heap.size p (bs ++ (numL s.n ++ S.flatMap el)) w (.returned (.tuple #[])) wr) := ⟨rfl, by have := WR.out; rw [List.take_of_length_le (by rw [HR.out.1]; omega)] at this; exact this, HB.out, HF.out⟩
      clear WR HB HF
      go_wp2
      go_end0
      exact HE.out
set_option maxHeartbeats 4000000 in
set_option maxRecDepth 20000 in
theorem writeList_state (W0 : World) (p N : Nat) (bs : List Int) (s : QSl) (S : List StateD) (el : StateD → List Int) (w : World) (hN : N = 59) (h : Wr W0.heap.size p bs w) (hw0 : Below W0.heap.size W0 w) (hr : QRow 5 StateD.lie W0 s S) (hn : s.n ≤ 100000) (hl : (bs ++ (numL s.n ++ S.flatMap el)).length ≤ 9000000)
    (hel : ∀ x ∈ S, ∀ cs w', Wr W0.heap.size p cs w' → Below W0.heap.size W0 w' → (cs ++ el x).length ≤ 9000000 → Calls Tryz.prog N #[.pointer (some ⟨p, 0, none⟩), .agg #[.int .i64 x.head, .int .i64 x.r.h, .int .i64 x.r.f, .slice x.cases.a x.cases.n x.cases.c, .int .i64 x.els]] w' (WDone W0.heap.size p (cs ++ el x) w')) :
    Calls Tryz.prog 58 #[.pointer (some ⟨p, 0, none⟩), .slice s.a s.n s.c, .func (.func N) #[.pointer (some ⟨p, 0, none⟩)] #[]] w (WDone W0.heap.size p (bs ++ (numL s.n ++ S.flatMap el)) w) := by
  subst hN
  have hwn : wfI (s.n : Int) := wf_i64 _ (by omega)
  have HNU := hid (number_any W0.heap.size p bs (s.n : Int) w hwn h (by rw [← List.append_assoc, List.length_append] at hl; omega))
  have HL := hid hl
  have HR := hid hr
  have HEL := hid hel
  have HW0 := hid hw0
  obtain ⟨sa, esa⟩ : ∃ sa, s.a = sa := ⟨_, rfl⟩
  rw [esa]
  have ESA := hid esa
  clear h hl hr hel hw0 esa hwn
  go_enter Tryz.func58, Tryz.ntmps58
  go_wp2_with fail
  refine HNU.out.mono ?_
  rintro e w1 ⟨rfl, h1, h2, h3⟩
  have H1 := hid h1
  have H2 := hid h2
  have H3 := hid h3
  clear h1 h2 h3 HNU
  go_wp2
  go_loopw [14, 7] (fun q _ wr => ∃ i : Nat, i ≤ s.n ∧ q = .int .i64 i ∧ Hid (Wr W0.heap.size p (bs ++ (numL s.n ++ (S.take i).flatMap el)) wr) ∧ Hid (Below W0.heap.size w wr) ∧ Hid (Fram p w wr)) (fun q _ _ => s.n - (intOf q).toNat)
  case atStart => exact ⟨0, Nat.zero_le _, rfl, by simpa using H1, H2, H3⟩
  case round =>
    obtain ⟨i, hi, rfl, WR, HB, HF⟩ := hrel
    clear H1 H2 H3
    by_cases hlt : i < s.n
    · have hii : (i : Int) < (s.n : Int) := by omega
      obtain ⟨g, off, x, ea, hx, hp⟩ := row_at (HR.out.step kState.keeps (HW0.out.trans HB.out)) hlt
      obtain rfl : sa = some ⟨g, off, none⟩ := by rw [← ESA.out]; exact ea
      have c0 : wr.cell? ⟨g, off + i * 5, none⟩ = some (.int .i64 x.head) := kState.cell hp 0 _ rfl
      have c1 : wr.cell? ⟨g, off + i * 5 + 1, none⟩ = some (.int .i64 x.r.h) := kState.cell hp 1 _ rfl
      have c2 : wr.cell? ⟨g, off + i * 5 + 2, none⟩ = some (.int .i64 x.r.f) := kState.cell hp 2 _ rfl
      have c3 : wr.cell? ⟨g, off + i * 5 + 3, none⟩ = some (.slice x.cases.a x.cases.n x.cases.c) := kState.cell hp 3 _ rfl
      have c4 : wr.cell? ⟨g, off + i * 5 + 4, none⟩ = some (.int .i64 x.els) := kState.cell hp 4 _ rfl
      have HT := hid (flat_take (f := el) hx)
      have hle := flat_le el S (i + 1)
      have HLE : Hid ((bs ++ (numL s.n ++ (S.take i).flatMap el) ++ el x).length ≤ 9000000) := by
        show _ ≤ _
        have := HL.out
        rw [HT.out] at hle
        simp only [List.length_append] at this hle ⊢
        omega
      have BX : Hid (Below wr.heap.size wr (wr.alloc (.cells #[.int .i64 x.head, .int .i64 x.r.h, .int .i64 x.r.f, .slice x.cases.a x.cases.n x.cases.c, .int .i64 x.els] 51))) := bl_alloc (Below.refl _ _)
      have hws : W0.heap.size ≤ wr.heap.size := (HW0.out.trans HB.out).size
      have HC := hid (HEL.out x (List.mem_of_getElem? hx) _ _ (WR.out.step BX.out) ((HW0.out.trans HB.out).trans (BX.out.mono hws)) HLE.out)
      clear ea hx hp hle
      go_wp2_with fail
      refine HC.out.mono ?_
      rintro e w3 ⟨rfl, h1, h2, h3⟩
      rw [List.append_assoc, List.append_assoc, ← HT.out] at h1
      have R1 := hid h1
      have R2 := hid (HB.out.trans ((BX.out.mono hws).trans h2))
      have R3 := hid ((HF.out.trans (Fram.below BX.out)).trans h3)
      clear h1 h2 h3 WR HB HF HC HT BX
      go_wp2
      go_roundw
      case rel => exact ⟨i + 1, by omega, by go_num, R1, R2, R3⟩
      case measure => simp [intOf]; omega
    · have hii : ¬ (i : Int) < (s.n : Int) := by omega
      have HE : Hid (WDone W0.heap.size p (bs ++ (numL s.n ++ S.flatMap el)) w (.returned (.tuple #[])) wr) := ⟨rfl, by have := WR.out; rw [List.take_of_length_le (by rw [HR.out.1]; omega)] at this; exact this, HB.out, HF.out⟩
      clear WR HB HF
      go_wp2
      go_end0
      exact HE.out
set_option maxHeartbeats 4000000 in
set_option maxRecDepth 20000 in
theorem writeList_op (W0 : World) (p N : Nat) (bs : List Int) (s : QSl) (S : List OpD) (el : OpD → List Int) (w : World) (hN : N = 106) (h : Wr W0.heap.size p bs w) (hw0 : Below W0.heap.size W0 w) (hr : QRow 5 OpD.lie W0 s S) (hn : s.n ≤ 100000) (hl : (bs ++ (numL s.n ++ S.flatMap el)).length ≤ 9000000)
    (hel : ∀ x ∈ S, ∀ cs w', Wr W0.heap.size p cs w' → Below W0.heap.size W0 w' → (cs ++ el x).length ≤ 9000000 → Calls Tryz.prog N #[.pointer (some ⟨p, 0, none⟩), .agg #[.int .i64 x.kind, .int .i64 x.r.h, .int .i64 x.r.f, .int .i64 x.head, .slice x.e.a x.e.n x.e.c]] w' (WDone W0.heap.size p (cs ++ el x) w')) :
    Calls Tryz.prog 105 #[.pointer (some ⟨p, 0, none⟩), .slice s.a s.n s.c, .func (.func N) #[.pointer (some ⟨p, 0, none⟩)] #[]] w (WDone W0.heap.size p (bs ++ (numL s.n ++ S.flatMap el)) w) := by
  subst hN
  have hwn : wfI (s.n : Int) := wf_i64 _ (by omega)
  have HNU := hid (number_any W0.heap.size p bs (s.n : Int) w hwn h (by rw [← List.append_assoc, List.length_append] at hl; omega))
  have HL := hid hl
  have HR := hid hr
  have HEL := hid hel
  have HW0 := hid hw0
  obtain ⟨sa, esa⟩ : ∃ sa, s.a = sa := ⟨_, rfl⟩
  rw [esa]
  have ESA := hid esa
  clear h hl hr hel hw0 esa hwn
  go_enter Tryz.func105, Tryz.ntmps105
  go_wp2_with fail
  refine HNU.out.mono ?_
  rintro e w1 ⟨rfl, h1, h2, h3⟩
  have H1 := hid h1
  have H2 := hid h2
  have H3 := hid h3
  clear h1 h2 h3 HNU
  go_wp2
  go_loopw [14, 7] (fun q _ wr => ∃ i : Nat, i ≤ s.n ∧ q = .int .i64 i ∧ Hid (Wr W0.heap.size p (bs ++ (numL s.n ++ (S.take i).flatMap el)) wr) ∧ Hid (Below W0.heap.size w wr) ∧ Hid (Fram p w wr)) (fun q _ _ => s.n - (intOf q).toNat)
  case atStart => exact ⟨0, Nat.zero_le _, rfl, by simpa using H1, H2, H3⟩
  case round =>
    obtain ⟨i, hi, rfl, WR, HB, HF⟩ := hrel
    clear H1 H2 H3
    by_cases hlt : i < s.n
    · have hii : (i : Int) < (s.n : Int) := by omega
      obtain ⟨g, off, x, ea, hx, hp⟩ := row_at (HR.out.step kOp.keeps (HW0.out.trans HB.out)) hlt
      obtain rfl : sa = some ⟨g, off, none⟩ := by rw [← ESA.out]; exact ea
      have c0 : wr.cell? ⟨g, off + i * 5, none⟩ = some (.int .i64 x.kind) := kOp.cell hp 0 _ rfl
      have c1 : wr.cell? ⟨g, off + i * 5 + 1, none⟩ = some (.int .i64 x.r.h) := kOp.cell hp 1 _ rfl
      have c2 : wr.cell? ⟨g, off + i * 5 + 2, none⟩ = some (.int .i64 x.r.f) := kOp.cell hp 2 _ rfl
      have c3 : wr.cell? ⟨g, off + i * 5 + 3, none⟩ = some (.int .i64 x.head) := kOp.cell hp 3 _ rfl
      have c4 : wr.cell? ⟨g, off + i * 5 + 4, none⟩ = some (.slice x.e.a x.e.n x.e.c) := kOp.cell hp 4 _ rfl
      have HT := hid (flat_take (f := el) hx)
      have hle := flat_le el S (i + 1)
      have HLE : Hid ((bs ++ (numL s.n ++ (S.take i).flatMap el) ++ el x).length ≤ 9000000) := by
        show _ ≤ _
        have := HL.out
        rw [HT.out] at hle
        simp only [List.length_append] at this hle ⊢
        omega
      have BX : Hid (Below wr.heap.size wr (wr.alloc (.cells #[.int .i64 x.kind, .int .i64 x.r.h, .int .i64 x.r.f, .int .i64 x.head, .slice x.e.a x.e.n x.e.c] 59))) := bl_alloc (Below.refl _ _)
      have hws : W0.heap.size ≤ wr.heap.size := (HW0.out.trans HB.out).size
      have HC := hid (HEL.out x (List.mem_of_getElem? hx) _ _ (WR.out.step BX.out) ((HW0.out.trans HB.out).trans (BX.out.mono hws)) HLE.out)
      clear ea hx hp hle
      go_wp2_with fail
      refine HC.out.mono ?_
      rintro e w3 ⟨rfl, h1, h2, h3⟩
      rw [List.append_assoc, List.append_assoc, ← HT.out] at h1
      have R1 := hid h1
      have R2 := hid (HB.out.trans ((BX.out.mono hws).trans h2))
      have R3 := hid ((HF.out.trans (Fram.below BX.out)).trans h3)
      clear h1 h2 h3 WR HB HF HC HT BX
      go_wp2
      go_roundw
      case rel => exact ⟨i + 1, by omega, by go_num, R1, R2, R3⟩
      case measure => simp [intOf]; omega
    · have hii : ¬ (i : Int) < (s.n : Int) := by omega
      have HE : Hid (WDone W0.heap.size p (bs ++ (numL s.n ++ S.flatMap el)) w (.returned (.tuple #[])) wr) := ⟨rfl, by have := WR.out; rw [List.take_of_length_le (by rw [HR.out.1]; omega)] at this; exact this, HB.out, HF.out⟩
      clear WR HB HF
      go_wp2
      go_end0
      exact HE.out
set_option maxHeartbeats 4000000 in
set_option maxRecDepth 20000 in
theorem writeList_act (W0 : World) (p N : Nat) (bs : List Int) (s : QSl) (S : List ActD) (el : ActD → List Int) (w : World) (hN : N = 61) (h : Wr W0.heap.size p bs w) (hw0 : Below W0.heap.size W0 w) (hr : QRow 2 ActD.lie W0 s S) (hn : s.n ≤ 100000) (hl : (bs ++ (numL s.n ++ S.flatMap el)).length ≤ 9000000)
    (hel : ∀ x ∈ S, ∀ cs w', Wr W0.heap.size p cs w' → Below W0.heap.size W0 w' → (cs ++ el x).length ≤ 9000000 → Calls Tryz.prog N #[.pointer (some ⟨p, 0, none⟩), .agg #[.slice x.w.a x.w.n x.w.c, .slice x.ops.a x.ops.n x.ops.c]] w' (WDone W0.heap.size p (cs ++ el x) w')) :
    Calls Tryz.prog 60 #[.pointer (some ⟨p, 0, none⟩), .slice s.a s.n s.c, .func (.func N) #[.pointer (some ⟨p, 0, none⟩)] #[]] w (WDone W0.heap.size p (bs ++ (numL s.n ++ S.flatMap el)) w) := by
  subst hN
  have hwn : wfI (s.n : Int) := wf_i64 _ (by omega)
  have HNU := hid (number_any W0.heap.size p bs (s.n : Int) w hwn h (by rw [← List.append_assoc, List.length_append] at hl; omega))
  have HL := hid hl
  have HR := hid hr
  have HEL := hid hel
  have HW0 := hid hw0
  obtain ⟨sa, esa⟩ : ∃ sa, s.a = sa := ⟨_, rfl⟩
  rw [esa]
  have ESA := hid esa
  clear h hl hr hel hw0 esa hwn
  go_enter Tryz.func60, Tryz.ntmps60
  go_wp2_with fail
  refine HNU.out.mono ?_
  rintro e w1 ⟨rfl, h1, h2, h3⟩
  have H1 := hid h1
  have H2 := hid h2
  have H3 := hid h3
  clear h1 h2 h3 HNU
  go_wp2
  go_loopw [14, 7] (fun q _ wr => ∃ i : Nat, i ≤ s.n ∧ q = .int .i64 i ∧ Hid (Wr W0.heap.size p (bs ++ (numL s.n ++ (S.take i).flatMap el)) wr) ∧ Hid (Below W0.heap.size w wr) ∧ Hid (Fram p w wr)) (fun q _ _ => s.n - (intOf q).toNat)
  case atStart => exact ⟨0, Nat.zero_le _, rfl, by simpa using H1, H2, H3⟩
  case round =>
    obtain ⟨i, hi, rfl, WR, HB, HF⟩ := hrel
    clear H1 H2 H3
    by_cases hlt : i < s.n
    · have hii : (i : Int) < (s.n : Int) := by omega
      obtain ⟨g, off, x, ea, hx, hp⟩ := row_at (HR.out.step kAct.keeps (HW0.out.trans HB.out)) hlt
      obtain rfl : sa = some ⟨g, off, none⟩ := by rw [← ESA.out]; exact ea
      have c0 : wr.cell? ⟨g, off + i * 2, none⟩ = some (.slice x.w.a x.w.n x.w.c) := kAct.cell hp 0 _ rfl
      have c1 : wr.cell? ⟨g, off + i * 2 + 1, none⟩ = some (.slice x.ops.a x.ops.n x.ops.c) := kAct.cell hp 1 _ rfl
      have HT := hid (flat_take (f := el) hx)
      have hle := flat_le el S (i + 1)
      have HLE : Hid ((bs ++ (numL s.n ++ (S.take i).flatMap el) ++ el x).length ≤ 9000000) := by
        show _ ≤ _
        have := HL.out
        rw [HT.out] at hle
        simp only [List.length_append] at this hle ⊢
        omega
      have BX : Hid (Below wr.heap.size wr (wr.alloc (.cells #[.slice x.w.a x.w.n x.w.c, .slice x.ops.a x.ops.n x.ops.c] 56))) := bl_alloc (Below.refl _ _)
      have hws : W0.heap.size ≤ wr.heap.size := (HW0.out.trans HB.out).size
      have HC := hid (HEL.out x (List.mem_of_getElem? hx) _ _ (WR.out.step BX.out) ((HW0.out.trans HB.out).trans (BX.out.mono hws)) HLE.out)
      clear ea hx hp hle
      go_wp2_with fail
      refine HC.out.mono ?_
      rintro e w3 ⟨rfl, h1, h2, h3⟩
      rw [List.append_assoc, List.append_assoc, ← HT.out] at h1
      have R1 := hid h1
      have R2 := hid (HB.out.trans ((BX.out.mono hws).trans h2))
      have R3 := hid ((HF.out.trans (Fram.below BX.out)).trans h3)
      clear h1 h2 h3 WR HB HF HC HT BX
      go_wp2
      go_roundw
      case rel => exact ⟨i + 1, by omega, by go_num, R1, R2, R3⟩
      case measure => simp [intOf]; omega
    · have hii : ¬ (i : Int) < (s.n : Int) := by omega
      have HE : Hid (WDone W0.heap.size p (bs ++ (numL s.n ++ S.flatMap el)) w (.returned (.tuple #[])) wr) := ⟨rfl, by have := WR.out; rw [List.take_of_length_le (by rw [HR.out.1]; omega)] at this; exact this, HB.out, HF.out⟩
      clear WR HB HF
      go_wp2
      go_end0
      exact HE.out
set_option maxHeartbeats 4000000 in
set_option maxRecDepth 20000 in
theorem writeList_tab (W0 : World) (p N : Nat) (bs : List Int) (s : QSl) (S : List TabD) (el : TabD → List Int) (w : World) (hN : N = 63) (h : Wr W0.heap.size p bs w) (hw0 : Below W0.heap.size W0 w) (hr : QRow 6 TabD.lie W0 s S) (hn : s.n ≤ 100000) (hl : (bs ++ (numL s.n ++ S.flatMap el)).length ≤ 9000000)
    (hel : ∀ x ∈ S, ∀ cs w', Wr W0.heap.size p cs w' → Below W0.heap.size W0 w' → (cs ++ el x).length ≤ 9000000 → Calls Tryz.prog N #[.pointer (some ⟨p, 0, none⟩), .agg #[.int .i64 x.kind, .slice x.keys.a x.keys.n x.keys.c, .slice x.acts.a x.acts.n x.acts.c, .int .i64 x.cap, .int .i64 x.dflt, .slice x.args.a x.args.n x.args.c]] w' (WDone W0.heap.size p (cs ++ el x) w')) :
    Calls Tryz.prog 62 #[.pointer (some ⟨p, 0, none⟩), .slice s.a s.n s.c, .func (.func N) #[.pointer (some ⟨p, 0, none⟩)] #[]] w (WDone W0.heap.size p (bs ++ (numL s.n ++ S.flatMap el)) w) := by
  subst hN
  have hwn : wfI (s.n : Int) := wf_i64 _ (by omega)
  have HNU := hid (number_any W0.heap.size p bs (s.n : Int) w hwn h (by rw [← List.append_assoc, List.length_append] at hl; omega))
  have HL := hid hl
  have HR := hid hr
  have HEL := hid hel
  have HW0 := hid hw0
  obtain ⟨sa, esa⟩ : ∃ sa, s.a = sa := ⟨_, rfl⟩
  rw [esa]
  have ESA := hid esa
  clear h hl hr hel hw0 esa hwn
  go_enter Tryz.func62, Tryz.ntmps62
  go_wp2_with fail
  refine HNU.out.mono ?_
  rintro e w1 ⟨rfl, h1, h2, h3⟩
  have H1 := hid h1
  have H2 := hid h2
  have H3 := hid h3
  clear h1 h2 h3 HNU
  go_wp2
  go_loopw [14, 7] (fun q _ wr => ∃ i : Nat, i ≤ s.n ∧ q = .int .i64 i ∧ Hid (Wr W0.heap.size p (bs ++ (numL s.n ++ (S.take i).flatMap el)) wr) ∧ Hid (Below W0.heap.size w wr) ∧ Hid (Fram p w wr)) (fun q _ _ => s.n - (intOf q).toNat)
  case atStart => exact ⟨0, Nat.zero_le _, rfl, by simpa using H1, H2, H3⟩
  case round =>
    obtain ⟨i, hi, rfl, WR, HB, HF⟩ := hrel
    clear H1 H2 H3
    by_cases hlt : i < s.n
    · have hii : (i : Int) < (s.n : Int) := by omega
      obtain ⟨g, off, x, ea, hx, hp⟩ := row_at (HR.out.step kTab.keeps (HW0.out.trans HB.out)) hlt
      obtain rfl : sa = some ⟨g, off, none⟩ := by rw [← ESA.out]; exact ea
      have c0 : wr.cell? ⟨g, off + i * 6, none⟩ = some (.int .i64 x.kind) := kTab.cell hp 0 _ rfl
      have c1 : wr.cell? ⟨g, off + i * 6 + 1, none⟩ = some (.slice x.keys.a x.keys.n x.keys.c) := kTab.cell hp 1 _ rfl
      have c2 : wr.cell? ⟨g, off + i * 6 + 2, none⟩ = some (.slice x.acts.a x.acts.n x.acts.c) := kTab.cell hp 2 _ rfl
      have c3 : wr.cell? ⟨g, off + i * 6 + 3, none⟩ = some (.int .i64 x.cap) := kTab.cell hp 3 _ rfl
      have c4 : wr.cell? ⟨g, off + i * 6 + 4, none⟩ = some (.int .i64 x.dflt) := kTab.cell hp 4 _ rfl
      have c5 : wr.cell? ⟨g, off + i * 6 + 5, none⟩ = some (.slice x.args.a x.args.n x.args.c) := kTab.cell hp 5 _ rfl
      have HT := hid (flat_take (f := el) hx)
      have hle := flat_le el S (i + 1)
      have HLE : Hid ((bs ++ (numL s.n ++ (S.take i).flatMap el) ++ el x).length ≤ 9000000) := by
        show _ ≤ _
        have := HL.out
        rw [HT.out] at hle
        simp only [List.length_append] at this hle ⊢
        omega
      have BX : Hid (Below wr.heap.size wr (wr.alloc (.cells #[.int .i64 x.kind, .slice x.keys.a x.keys.n x.keys.c, .slice x.acts.a x.acts.n x.acts.c, .int .i64 x.cap, .int .i64 x.dflt, .slice x.args.a x.args.n x.args.c] 63))) := bl_alloc (Below.refl _ _)
      have hws : W0.heap.size ≤ wr.heap.size := (HW0.out.trans HB.out).size
      have HC := hid (HEL.out x (List.mem_of_getElem? hx) _ _ (WR.out.step BX.out) ((HW0.out.trans HB.out).trans (BX.out.mono hws)) HLE.out)
      clear ea hx hp hle
      go_wp2_with fail
      refine HC.out.mono ?_
      rintro e w3 ⟨rfl, h1, h2, h3⟩
      rw [List.append_assoc, List.append_assoc, ← HT.out] at h1
      have R1 := hid h1
      have R2 := hid (HB.out.trans ((BX.out.mono hws).trans h2))
      have R3 := hid ((HF.out.trans (Fram.below BX.out)).trans h3)
      clear h1 h2 h3 WR HB HF HC HT BX
      go_wp2
      go_roundw
      case rel => exact ⟨i + 1, by omega, by go_num, R1, R2, R3⟩
      case measure => simp [intOf]; omega
    · have hii : ¬ (i : Int) < (s.n : Int) := by omega
      have HE : Hid (WDone W0.heap.size p (bs ++ (numL s.n ++ S.flatMap el)) w (.returned (.tuple #[])) wr) := ⟨rfl, by have := WR.out; rw [List.take_of_length_le (by rw [HR.out.1]; omega)] at this; exact this, HB.out, HF.out⟩
      clear WR HB HF
      go_wp2
      go_end0
      exact HE.out
set_option maxHeartbeats 4000000 in
set_option maxRecDepth 20000 in
theorem writeList_node (W0 : World) (p N : Nat) (bs : List Int) (s : QSl) (S : List NodeD) (el : NodeD → List Int) (w : World) (hN : N = 65) (h : Wr W0.heap.size p bs w) (hw0 : Below W0.heap.size W0 w) (hr : QRow 5 NodeD.lie W0 s S) (hn : s.n ≤ 100000) (hl : (bs ++ (numL s.n ++ S.flatMap el)).length ≤ 9000000)
    (hel : ∀ x ∈ S, ∀ cs w', Wr W0.heap.size p cs w' → Below W0.heap.size W0 w' → (cs ++ el x).length ≤ 9000000 → Calls Tryz.prog N #[.pointer (some ⟨p, 0, none⟩), .agg #[.int .i64 x.kind, .int .i64 x.n, .slice x.e.a x.e.n x.e.c, .int .i64 x.yes, .int .i64 x.no]] w' (WDone W0.heap.size p (cs ++ el x) w')) :
    Calls Tryz.prog 64 #[.pointer (some ⟨p, 0, none⟩), .slice s.a s.n s.c, .func (.func N) #[.pointer (some ⟨p, 0, none⟩)] #[]] w (WDone W0.heap.size p (bs ++ (numL s.n ++ S.flatMap el)) w) := by
  subst hN
  have hwn : wfI (s.n : Int) := wf_i64 _ (by omega)
  have HNU := hid (number_any W0.heap.size p bs (s.n : Int) w hwn h (by rw [← List.append_assoc, List.length_append] at hl; omega))
  have HL := hid hl
  have HR := hid hr
  have HEL := hid hel
  have HW0 := hid hw0
  obtain ⟨sa, esa⟩ : ∃ sa, s.a = sa := ⟨_, rfl⟩
  rw [esa]
  have ESA := hid esa
  clear h hl hr hel hw0 esa hwn
  go_enter Tryz.func64, Tryz.ntmps64
  go_wp2_with fail
  refine HNU.out.mono ?_
  rintro e w1 ⟨rfl, h1, h2, h3⟩
  have H1 := hid h1
  have H2 := hid h2
  have H3 := hid h3
  clear h1 h2 h3 HNU
  go_wp2
  go_loopw [14, 7] (fun q _ wr => ∃ i : Nat, i ≤ s.n ∧ q = .int .i64 i ∧ Hid (Wr W0.heap.size p (bs ++ (numL s.n ++ (S.take i).flatMap el)) wr) ∧ Hid (Below W0.heap.size w wr) ∧ Hid (Fram p w wr)) (fun q _ _ => s.n - (intOf q).toNat)
  case atStart => exact ⟨0, Nat.zero_le _, rfl, by simpa using H1, H2, H3⟩
  case round =>
    obtain ⟨i, hi, rfl, WR, HB, HF⟩ := hrel
    clear H1 H2 H3
    by_cases hlt : i < s.n
    · have hii : (i : Int) < (s.n : Int) := by omega
      obtain ⟨g, off, x, ea, hx, hp⟩ := row_at (HR.out.step kNode.keeps (HW0.out.trans HB.out)) hlt
      obtain rfl : sa = some ⟨g, off, none⟩ := by rw [← ESA.out]; exact ea
      have c0 : wr.cell? ⟨g, off + i * 5, none⟩ = some (.int .i64 x.kind) := kNode.cell hp 0 _ rfl
      have c1 : wr.cell? ⟨g, off + i * 5 + 1, none⟩ = some (.int .i64 x.n) := kNode.cell hp 1 _ rfl
      have c2 : wr.cell? ⟨g, off + i * 5 + 2, none⟩ = some (.slice x.e.a x.e.n x.e.c) := kNode.cell hp 2 _ rfl
      have c3 : wr.cell? ⟨g, off + i * 5 + 3, none⟩ = some (.int .i64 x.yes) := kNode.cell hp 3 _ rfl
      have c4 : wr.cell? ⟨g, off + i * 5 + 4, none⟩ = some (.int .i64 x.no) := kNode.cell hp 4 _ rfl
      have HT := hid (flat_take (f := el) hx)
      have hle := flat_le el S (i + 1)
      have HLE : Hid ((bs ++ (numL s.n ++ (S.take i).flatMap el) ++ el x).length ≤ 9000000) := by
        show _ ≤ _
        have := HL.out
        rw [HT.out] at hle
        simp only [List.length_append] at this hle ⊢
        omega
      have BX : Hid (Below wr.heap.size wr (wr.alloc (.cells #[.int .i64 x.kind, .int .i64 x.n, .slice x.e.a x.e.n x.e.c, .int .i64 x.yes, .int .i64 x.no] 65))) := bl_alloc (Below.refl _ _)
      have hws : W0.heap.size ≤ wr.heap.size := (HW0.out.trans HB.out).size
      have HC := hid (HEL.out x (List.mem_of_getElem? hx) _ _ (WR.out.step BX.out) ((HW0.out.trans HB.out).trans (BX.out.mono hws)) HLE.out)
      clear ea hx hp hle
      go_wp2_with fail
      refine HC.out.mono ?_
      rintro e w3 ⟨rfl, h1, h2, h3⟩
      rw [List.append_assoc, List.append_assoc, ← HT.out] at h1
      have R1 := hid h1
      have R2 := hid (HB.out.trans ((BX.out.mono hws).trans h2))
      have R3 := hid ((HF.out.trans (Fram.below BX.out)).trans h3)
      clear h1 h2 h3 WR HB HF HC HT BX
      go_wp2
      go_roundw
      case rel => exact ⟨i + 1, by omega, by go_num, R1, R2, R3⟩
      case measure => simp [intOf]; omega
    · have hii : ¬ (i : Int) < (s.n : Int) := by omega
      have HE : Hid (WDone W0.heap.size p (bs ++ (numL s.n ++ S.flatMap el)) w (.returned (.tuple #[])) wr) := ⟨rfl, by have := WR.out; rw [List.take_of_length_le (by rw [HR.out.1]; omega)] at this; exact this, HB.out, HF.out⟩
      clear WR HB HF
      go_wp2
      go_end0
      exact HE.out
end Go.Proofs.YtedeiaokohdhpaaGreat
