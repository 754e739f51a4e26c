/- slices.Clone of shapes and of instructions; asm's between. -/
import Derived.Test.YtkipfppblhkodaaAOps
namespace Go.Proofs.Ytkipfppblhkodaa
open Go.RowKit

/-- a copy of its own -/
def CloneIs {α : Type} (cells : α → List Value) (k : Nat) (T : TypeId) (S : List α) (n : Nat) (w : World) (e : Ending) (w' : World) : Prop :=
  ∃ a c, e = .returned (.slice a n c) ∧ w'.ownsRow w.heap.size T k (.slice a n c) n (S.flatMap cells) ∧ Below w.heap.size w w'

theorem grun_clone {α : Type} {cells : α → List Value} {k : Nat} {P : α → World → Nat → Nat → Prop} (hk : ∀ x, (cells x).length = k) (k0 : 0 < k) (h1 : ∀ x, ∀ u ∈ cells x, u.oneCell' = true) (hP : ∀ {x : α} {w : World} {g o : Nat}, P x w g o → ∀ r u, (cells x)[r]? = some u → w.cell? ⟨g, o + r, none⟩ = some u) (hKe : Keeps P)
    {w : World} {T TS : TypeId} {z : Value} {bs : Nat} (ty : TypeId) (hT : Try.prog.underlying TS = some (.slice T)) (hinfo : (Try.prog.info? T).map (fun i => (i.zero, i.size, i.bytes)) = some (some z, k, bs)) (hzs : z.cells.size = k) (hbs : bs ≤ 1000)
    {ad : Addr} {n c : Nat} {S : List α} (hr : QRow k P w ⟨some ad, n, c⟩ S) (hsm : n ≤ 100000) :
    ∃ a c' w', (Builtin.append_ #[TS, TS] ty #[.slice (some ⟨w.heap.size, 0, none⟩) 0 0, .slice (some ad) n c]).run Try.prog (w.alloc (.cells #[] T)) = .ok (.slice a n c') w' ∧ w'.ownsRow w.heap.size T k (.slice a n c') n (S.flatMap cells) ∧ Below w.heap.size w w' := by
  obtain ⟨i0, hi, hz0, hz1, hz2⟩ := info_parts hinfo
  have hlen : (S.flatMap cells).length = n * k := by rw [gflat_n hk, hr.1]
  have b1 : Below w.heap.size w (w.alloc (.cells #[] T)) := bl_alloc (Below.refl _ _)
  have hsrc : ∀ j u, (S.flatMap cells)[j]? = some u → (w.alloc (.cells #[] T)).cell? (ad.add j) = some u := by
    intro j u hu
    obtain ⟨i, r, x, q1, q2, rfl⟩ := gflat_at hk hu
    obtain ⟨g, off, e, hp⟩ := (hr.step hKe b1).2 i x q1
    obtain rfl := Option.some.inj e
    rw [Addr.add_lit, ← Nat.add_assoc]
    exact hP hp r u q2
  have hone : ∀ u ∈ S.flatMap cells, u.oneCell' = true := fun u hu => by
    obtain ⟨x, _, hx⟩ := List.mem_flatMap.1 hu
    exact h1 x u hx
  have hsm' : n * bs ≤ 100000 * 1000 := Nat.mul_le_mul hsm hbs
  obtain ⟨v', w', hrun, r1, r2, -⟩ := run_append_own (P := Try.prog) (w.alloc (.cells #[] T)) w.heap.size TS ty T i0 z k bs hT hi hz0 hz1 hz2 hzs k0 (.slice (some ⟨w.heap.size, 0, none⟩) 0 0) 0 [] (World.ownsRow_made w #[] 0 (Nat.le_refl _) (Nat.zero_le _) (by simp)) ad n c (S.flatMap cells) hlen hsrc hone (by unfold maxLen; omega) (by rw [Nat.zero_add]; omega) b1.size
  rw [Nat.zero_add, List.nil_append] at r1
  obtain ⟨a, c', e⟩ : ∃ a c, v' = .slice a n c := by
    rcases r1.2 with ⟨e, e2⟩ | ⟨g, c, cur, e, _⟩
    · exact ⟨none, 0, by rw [e, e2]⟩
    · exact ⟨_, c, e⟩
  subst e
  refine ⟨a, c', w', hrun, r1, b1.grown r2 b1.size ?_⟩
  intro j hj
  simp [Value.ownBlock] at hj
  omega

set_option maxHeartbeats 1000000 in
set_option maxRecDepth 20000 in
theorem aclone_shape {s : QSl} {S : List ShapeD} {w : World} (hr : QRow 3 ShapeD.lie w s S) (hn : s.nil0) (hsm : s.n ≤ 100000) : Calls Try.prog 16 #[.slice s.a s.n s.c] w (CloneIs kShapeE 3 52 S s.n w) := by
  obtain ⟨sa, sn, sc⟩ := s
  cases sa with
  | none =>
    obtain ⟨e1, e2⟩ := hn rfl
    dsimp only at e1 e2 ⊢
    subst e1; subst e2
    have : S = [] := List.eq_nil_of_length_eq_zero hr.1
    subst this
    have hnil := fun w => Lib.run_eql_slice_nil (P := Try.prog) w 23 52 none 0 0 0 0 Try.underlying23
    clear hn hr
    go_enter Try.func16, Try.ntmps16
    go_wp2
    go_ret
    exact ⟨none, 0, rfl, World.ownsRow_nil _ _ _ _, Below.refl _ _⟩
  | some ad =>
    have hnil := fun w => Lib.run_eql_slice_nil (P := Try.prog) w 23 52 (some ad) sn sc 0 0 Try.underlying23
    obtain ⟨a, c', w', hrun, ho, hb⟩ := grun_clone (cells := kShapeE) (k := 3) (P := ShapeD.lie) (fun _ => rfl) (by decide) kShape_one (fun h => h.cells) ShapeD.keeps 23 Try.underlying23 Try.ginfoShape rfl (by decide) hr hsm
    have HE : Hid (CloneIs kShapeE 3 52 S sn w (.returned (.slice a sn c')) w') := ⟨a, c', rfl, ho, hb⟩
    clear hn hr hsm ho hb
    dsimp only
    go_enter Try.func16, Try.ntmps16
    go_wp2_with (at_builtin; refine gapp_run rfl _ _ rfl rfl rfl hrun ?_)
    exact bodyPost_ret (v := .slice a sn c') (by simp [results, Try.results16, go_sem]) rfl HE.out

set_option maxHeartbeats 1000000 in
set_option maxRecDepth 20000 in
theorem aclone_ins {s : QSl} {S : List InsD} {w : World} (hr : QRow 6 InsD.lie w s S) (hn : s.nil0) (hsm : s.n ≤ 100000) : Calls Try.prog 17 #[.slice s.a s.n s.c] w (CloneIs kInsE 6 34 S s.n w) := by
  obtain ⟨sa, sn, sc⟩ := s
  cases sa with
  | none =>
    obtain ⟨e1, e2⟩ := hn rfl
    dsimp only at e1 e2 ⊢
    subst e1; subst e2
    have : S = [] := List.eq_nil_of_length_eq_zero hr.1
    subst this
    have hnil := fun w => Lib.run_eql_slice_nil (P := Try.prog) w 28 34 none 0 0 0 0 Try.underlying28
    clear hn hr
    go_enter Try.func17, Try.ntmps17
    go_wp2
    go_ret
    exact ⟨none, 0, rfl, World.ownsRow_nil _ _ _ _, Below.refl _ _⟩
  | some ad =>
    have hnil := fun w => Lib.run_eql_slice_nil (P := Try.prog) w 28 34 (some ad) sn sc 0 0 Try.underlying28
    obtain ⟨a, c', w', hrun, ho, hb⟩ := grun_clone (cells := kInsE) (k := 6) (P := InsD.lie) (fun _ => rfl) (by decide) kIns_one (fun h => h.cells) InsD.keeps 28 Try.underlying28 Try.ginfoIns rfl (by decide) hr hsm
    have HE : Hid (CloneIs kInsE 6 34 S sn w (.returned (.slice a sn c')) w') := ⟨a, c', rfl, ho, hb⟩
    clear hn hr hsm ho hb
    dsimp only
    go_enter Try.func17, Try.ntmps17
    go_wp2_with (at_builtin; refine gapp_run rfl _ _ rfl rfl rfl hrun ?_)
    exact bodyPost_ret (v := .slice a sn c') (by simp [results, Try.results17, go_sem]) rfl HE.out

set_option maxHeartbeats 2000000 in
set_option maxRecDepth 20000 in
theorem abetween {B : Nat} {d : LabD} {w : World} (h : LabAt 49 B d w) (i : Nat) (hi : i ≤ 100000) (hcs : d.cs.length ≤ 100000) (l : Int) : Calls Try.prog 19 #[lptr d.p, .int .i64 i, .int .i64 l] w fun e w' => e = .returned (.tuple #[.int .i64 (toN d.ms i l).1, .int .i64 (toN d.ms i l).2]) ∧ w' = w := by
  obtain ⟨c0, c1, z0, z1, l0⟩ := h.lbox
  have HH := hid (ahas h l)
  by_cases h0 : l < 0 ∨ (d.ms.length : Int) ≤ l
  · have e : toN d.ms i l = (0, 9) := by
      unfold toN
      rw [if_pos (by omega)]
    have EH : hasL d.ms l = false := by
      unfold hasL
      rcases h0 with h0 | h0
      · rw [decide_eq_false (by omega : ¬ 0 ≤ l), Bool.false_and]
      · rw [decide_eq_false (by omega : ¬ l < (d.ms.length : Int)), Bool.and_false]
    rw [e]
    rw [EH] at HH
    clear EH h e h0
    go_enter Try.func19, Try.ntmps19
    go_wp2_with fail
    refine HH.out.mono ?_
    rintro e w1 ⟨rfl, rfl⟩
    go_wp2
    exact bodyPost_ret (v := .tuple #[.int .i64 0, .int .i64 9]) (by simp [results, Try.results19, go_sem]) rfl ⟨rfl, rfl⟩
  obtain ⟨n, rfl⟩ : ∃ n : Nat, l = (n : Int) := ⟨l.toNat, by omega⟩
  have hl : n < d.ms.length := by omega
  obtain ⟨g, hg, cl, fz, gl⟩ := lab_at h hl
  have hi0 : (0 : Int) ≤ (n : Int) := by omega
  have hi1 : (n : Int) < (d.ms.length : Int) := by omega
  have hin : ((n : Int)).toNat = n := by omega
  have hwm : -1 ≤ d.ms.getD n 0 ∧ d.ms.getD n 0 ≤ (d.cs.length : Int) := by
    rw [List.getD_eq_getElem?_getD, List.getElem?_eq_getElem hl, Option.getD_some]
    exact h.wm _ (List.getElem_mem _)
  have EH : hasL d.ms (n : Int) = true := by unfold hasL; rw [decide_eq_true hi0, decide_eq_true hi1, Bool.and_self]
  rw [EH] at HH
  clear EH
  have ET : toN d.ms i (n : Int) = if d.ms.getD n 0 = -1 then (0, 9) else if d.ms.getD n 0 ≤ (i : Int) then (0, 11) else (d.ms.getD n 0 - i - 1, 0) := by
    unfold toN
    rw [hin]
    by_cases hm : d.ms.getD n 0 = -1
    · rw [if_pos (.inr (.inr hm)), if_pos hm]
    · rw [if_neg (by omega), if_neg hm]
  rw [ET]
  clear ET
  generalize d.ms.getD n 0 = mm at *
  rw [hg] at c1
  have HG := hid hg
  by_cases hm : mm = -1
  · rw [if_pos hm]
    subst hm
    clear h h0 hg hwm
    go_enter Try.func19, Try.ntmps19
    go_wp2_with fail
    refine HH.out.mono ?_
    rintro e w1 ⟨rfl, rfl⟩
    go_wp2
    exact bodyPost_ret (v := .tuple #[.int .i64 0, .int .i64 9]) (by simp [results, Try.results19, go_sem]) rfl ⟨rfl, rfl⟩
  rw [if_neg hm]
  have hmb : (mm == -1) = false := by simpa using hm
  by_cases hle : mm ≤ (i : Int)
  · rw [if_pos hle]
    clear h h0 hg hwm hm
    go_enter Try.func19, Try.ntmps19
    go_wp2_with fail
    refine HH.out.mono ?_
    rintro e w1 ⟨rfl, rfl⟩
    go_wp2
    exact bodyPost_ret (v := .tuple #[.int .i64 0, .int .i64 11]) (by simp [results, Try.results19, go_sem]) rfl ⟨rfl, rfl⟩
  · rw [if_neg hle]
    obtain ⟨m1, rfl⟩ : ∃ m1 : Nat, mm = ((m1 + i + 1 : Nat) : Int) := ⟨(mm - i - 1).toNat, by omega⟩
    have e1 : ((m1 + i + 1 : Nat) : Int) - (i : Int) - 1 = (m1 : Int) := by omega
    rw [e1]
    generalize hu : ((m1 + i + 1 : Nat) : Int) = u at *
    have w1 : IntKind.i64.wrap (u - (i : Int)) = (m1 : Int) + 1 := by rw [wrap_small _ (by omega) (by omega)]; omega
    have w2 : IntKind.i64.wrap ((m1 : Int) + 1 - 1) = (m1 : Int) := by rw [wrap_small _ (by omega) (by omega)]; omega
    have w3 : wrap64 (m1 : Int) = (m1 : Int) := by unfold wrap64; omega
    have W3 := hid w3
    have HU := hid hu
    have HWM := hid hwm
    clear w3
    clear h h0 hg hwm hm hu e1
    go_enter Try.func19, Try.ntmps19
    go_wp2_with fail
    refine HH.out.mono ?_
    rintro e w1 ⟨rfl, rfl⟩
    go_wp2
    exact bodyPost_ret (v := .tuple #[.int .i64 m1, .int .i64 0]) (by simp [results, Try.results19, go_sem]; exact W3.out) rfl ⟨rfl, rfl⟩
end Go.Proofs.Ytkipfppblhkodaa
