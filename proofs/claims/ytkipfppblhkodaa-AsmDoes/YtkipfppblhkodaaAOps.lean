/- The steps of an Asm: New, Label, Mark, Put, Len; has, between, leads; the document's Label, Mark. -/
import Derived.Test.YtkipfppblhkodaaAMem
import Derived.Deep.RegionHeld3
namespace Go.Proofs.Ytkipfppblhkodaa
open Go.RowKit

/-- what a step tells, and what is there behind it -/
def StepIs (T : TypeId) (B : Nat) (d : LabD) (w : World) (v : Value) (cs : List InsD) (ms : List Int) (e : Ending) (w' : World) : Prop :=
  ∃ d' : LabD, e = .returned v ∧ LabAt T B d' w' ∧ LabTo d d' w w' ∧ d'.p = d.p ∧ d'.cs = cs ∧ d'.ms = ms
theorem LabTo.refl (d : LabD) (w : World) : LabTo d d w w := ⟨rfl, rfl, rfl, Nat.le_refl _, fun _ _ _ => rfl, fun _ h => .inl h⟩
theorem LabTo.drew {d d' : LabD} {w w' : World} (h : LabTo d d' w w') : LabTo d d' w w'.drew := ⟨h.os, h.tape, h.output, h.size, h.old, h.fresh⟩
theorem LabTo.drewL {d d' : LabD} {w w' : World} (h : LabTo d d' w.drew w') : LabTo d d' w w' := ⟨h.os, h.tape, h.output, h.size, h.old, h.fresh⟩
theorem LabAt.drew {T : TypeId} {B : Nat} {d : LabD} {w : World} (h : LabAt T B d w) : LabAt T B d w.drew := h.step (Below.refl _ _).drew
theorem at_asm : AT 49 := ⟨by decide, by decide⟩
theorem at_lab : AT 31 := ⟨by decide, by decide⟩
@[reducible] def lptr (p : Nat) : Value := .pointer (some ⟨p, 0, none⟩)

def hasL (ms : List Int) (l : Int) : Bool := decide (0 ≤ l) && decide (l < (ms.length : Int))
def markB (ms : List Int) (l : Int) : Bool := hasL ms l && decide (ms.getD l.toNat 0 = -1)

set_option maxHeartbeats 1000000 in
set_option maxRecDepth 20000 in
theorem anew (w : World) : Calls Try.prog 5 #[] w fun e w' => e = .returned (lptr w.heap.size) ∧ w' = w.alloc (.cells #[.slice none 0 0, .slice none 0 0] 49) := by
  go_enter Try.func5, Try.ntmps5
  go_wp2
  go_ret
  exact ⟨rfl, rfl⟩

theorem lab_new (T : TypeId) (B : Nat) (w : World) (hB : B ≤ w.heap.size) : LabAt T B ⟨w.heap.size, none, 0, none, 0, [], []⟩ (w.alloc (.cells #[.slice none 0 0, .slice none 0 0] T)) :=
  ⟨galloc_at _ _ _, hB, World.ownsRow_nil _ _ _ _, World.ownsRow_nil _ _ _ _, fun x hx => by simp at hx, fun x hx => by simp at hx⟩

set_option maxHeartbeats 1000000 in
set_option maxRecDepth 20000 in
theorem alen {T : TypeId} {B : Nat} {d : LabD} {w : World} (h : LabAt T B d w) : Calls Try.prog 14 #[lptr d.p] w fun e w' => e = .returned (.int .i64 d.cs.length) ∧ w' = w := by
  obtain ⟨c0, c1, z0, z1, l0⟩ := h.lbox
  clear h
  go_enter Try.func14, Try.ntmps14
  go_wp2
  go_ret
  exact ⟨rfl, rfl⟩

set_option maxHeartbeats 1000000 in
set_option maxRecDepth 20000 in
theorem ahas {T : TypeId} {B : Nat} {d : LabD} {w : World} (h : LabAt T B d w) (l : Int) : Calls Try.prog 15 #[lptr d.p, .int .i64 l] w fun e w' => e = .returned (.bool (hasL d.ms l)) ∧ w' = w := by
  obtain ⟨c0, c1, z0, z1, l0⟩ := h.lbox
  clear h
  unfold hasL
  by_cases h1 : 0 ≤ l
  · rw [decide_eq_true h1, Bool.true_and]
    go_enter Try.func15, Try.ntmps15
    go_wp2
    go_ret
    exact ⟨rfl, rfl⟩
  · rw [decide_eq_false h1, Bool.false_and]
    go_enter Try.func15, Try.ntmps15
    go_wp2
    go_ret
    exact ⟨rfl, rfl⟩

set_option maxHeartbeats 1000000 in
set_option maxRecDepth 20000 in
theorem aleads (op : Int) (w : World) : Calls Try.prog 18 #[.int .i64 op] w fun e w' => e = .returned (.bool (hasT op)) ∧ w' = w := by
  have h : hasT op = (decide (op = 9) || (decide (op = 10) || (decide (op = 11) || decide (op = 12)))) := by
    by_cases h9 : op = 9
    · subst h9; decide
    by_cases h10 : op = 10
    · subst h10; decide
    by_cases h11 : op = 11
    · subst h11; decide
    by_cases h12 : op = 12
    · subst h12; decide
    rw [decide_eq_false h9, decide_eq_false h10, decide_eq_false h11, decide_eq_false h12]
    unfold hasT fieldsN
    repeat' split
    all_goals first
      | rfl
      | omega
  rw [h]
  clear h
  by_cases h9 : op = 9
  · subst h9
    go_enter Try.func18, Try.ntmps18
    go_wp2
    go_ret
    exact ⟨rfl, rfl⟩
  by_cases h10 : op = 10
  · subst h10
    go_enter Try.func18, Try.ntmps18
    go_wp2
    go_ret
    exact ⟨rfl, rfl⟩
  by_cases h11 : op = 11
  · subst h11
    go_enter Try.func18, Try.ntmps18
    go_wp2
    go_ret
    exact ⟨rfl, rfl⟩
  by_cases h12 : op = 12
  · subst h12
    go_enter Try.func18, Try.ntmps18
    go_wp2
    go_ret
    exact ⟨rfl, rfl⟩
  rw [decide_eq_false h9, decide_eq_false h10, decide_eq_false h11, decide_eq_false h12]
  have e9 : (op == 9) = false := by simpa using h9
  have e10 : (op == 10) = false := by simpa using h10
  have e11 : (op == 11) = false := by simpa using h11
  have e12 : (op == 12) = false := by simpa using h12
  go_enter Try.func18, Try.ntmps18
  go_wp2
  go_ret
  exact ⟨rfl, rfl⟩

set_option maxHeartbeats 2000000 in
set_option maxRecDepth 20000 in
theorem alabel {B : Nat} {d : LabD} {w : World} (h : LabAt 49 B d w) (hB : B ≤ w.heap.size) (hn : d.ms.length ≤ 100000) : Calls Try.prog 6 #[lptr d.p] w (StepIs 49 B d w (.int .i64 d.ms.length) d.cs (d.ms ++ [-1])) := by
  obtain ⟨c0, c1, z0, z1, l0⟩ := h.lbox
  obtain ⟨g, cap, w', hrun, ⟨x0, x1, y0, y1, yl⟩, hA, hTo⟩ := lab_label h at_asm hB hn
  have HE : Hid (StepIs 49 B d w (.int .i64 d.ms.length) d.cs (d.ms ++ [-1]) (.returned (.int .i64 d.ms.length)) (w'.setCell ⟨d.p, 1, none⟩ (.slice (some ⟨g, 0, none⟩) (d.ms.length + 1) cap))) := ⟨_, rfl, hA, hTo, rfl, rfl, rfl⟩
  clear h hA hTo
  go_enter Try.func6, Try.ntmps6
  go_wp2_with (at_builtin; refine gapp_run rfl _ _ rfl rfl rfl hrun ?_)
  exact bodyPost_ret (v := .int .i64 d.ms.length) (by simp [results, Try.results6, go_sem]) rfl HE.out

set_option maxHeartbeats 2000000 in
set_option maxRecDepth 20000 in
theorem rlabel {B : Nat} {d : LabD} {w : World} (h : LabAt 31 B d w) (hB : B ≤ w.heap.size) (hn : d.ms.length ≤ 100000) : Calls Try.prog 7 #[lptr d.p] w (StepIs 31 B d w (.int .i64 d.ms.length) d.cs (d.ms ++ [-1])) := by
  obtain ⟨c0, c1, z0, z1, l0⟩ := h.lbox
  obtain ⟨g, cap, w', hrun, ⟨x0, x1, y0, y1, yl⟩, hA, hTo⟩ := lab_label h at_lab hB hn
  have HE : Hid (StepIs 31 B d w (.int .i64 d.ms.length) d.cs (d.ms ++ [-1]) (.returned (.int .i64 d.ms.length)) (w'.setCell ⟨d.p, 1, none⟩ (.slice (some ⟨g, 0, none⟩) (d.ms.length + 1) cap))) := ⟨_, rfl, hA, hTo, rfl, rfl, rfl⟩
  clear h hA hTo
  go_enter Try.func7, Try.ntmps7
  go_wp2_with (at_builtin; refine gapp_run rfl _ _ rfl rfl rfl hrun ?_)
  exact bodyPost_ret (v := .int .i64 d.ms.length) (by simp [results, Try.results7, go_sem]) rfl HE.out

set_option maxHeartbeats 4000000 in
set_option maxRecDepth 20000 in
theorem amark {B : Nat} {d : LabD} {w : World} (h : LabAt 49 B d w) (l : Int) : Calls Try.prog 8 #[lptr d.p, .int .i64 l] w (StepIs 49 B d w (.bool (markB d.ms l)) d.cs (if markB d.ms l = true then d.ms.set l.toNat d.cs.length else d.ms)) := by
  obtain ⟨c0, c1, z0, z1, l0⟩ := h.lbox
  have HH := hid (ahas h l)
  by_cases h0 : l < 0
  · have e : markB d.ms l = false := by unfold markB hasL; rw [decide_eq_false (by omega : ¬ 0 ≤ l)]; simp
    rw [e, if_neg (by decide)]
    have HE : Hid (StepIs 49 B d w (.bool false) d.cs d.ms (.returned (.bool false)) w) := ⟨d, rfl, h, LabTo.refl _ _, rfl, rfl, rfl⟩
    have EH : hasL d.ms l = false := by unfold hasL; rw [decide_eq_false (by omega : ¬ 0 ≤ l), Bool.false_and]
    rw [EH] at HH
    clear EH
    clear h e
    go_enter Try.func8, Try.ntmps8
    go_wp2_with fail
    refine HH.out.mono ?_
    rintro e w1 ⟨rfl, rfl⟩
    go_wp2
    exact bodyPost_ret (v := .bool false) (by simp [results, Try.results8, go_sem]) rfl HE.out
  by_cases h1 : (d.ms.length : Int) ≤ l
  · have e : markB d.ms l = false := by unfold markB hasL; rw [decide_eq_false (by omega : ¬ l < (d.ms.length : Int))]; simp
    rw [e, if_neg (by decide)]
    have HE : Hid (StepIs 49 B d w (.bool false) d.cs d.ms (.returned (.bool false)) w) := ⟨d, rfl, h, LabTo.refl _ _, rfl, rfl, rfl⟩
    have EH : hasL d.ms l = false := by unfold hasL; rw [decide_eq_false (by omega : ¬ l < (d.ms.length : Int)), Bool.and_false]
    rw [EH] at HH
    clear EH
    clear h e
    go_enter Try.func8, Try.ntmps8
    go_wp2_with fail
    refine HH.out.mono ?_
    rintro e w1 ⟨rfl, rfl⟩
    go_wp2
    exact bodyPost_ret (v := .bool false) (by simp [results, Try.results8, go_sem]) rfl HE.out
  obtain ⟨n, rfl⟩ : ∃ n : Nat, l = (n : Int) := ⟨l.toNat, by omega⟩
  have hl : n < d.ms.length := by omega
  obtain ⟨g, hg, cl, fz, gl⟩ := lab_at h hl
  have hi0 : (0 : Int) ≤ (n : Int) := by omega
  have hi1 : (n : Int) < (d.ms.length : Int) := by omega
  have hin : ((n : Int)).toNat = n := by omega
  have EM : markB d.ms (n : Int) = decide (d.ms.getD n 0 = -1) := by
    unfold markB hasL
    rw [decide_eq_true hi0, decide_eq_true hi1, hin]
    simp
  rw [EM, hin]
  clear EM
  have EH : hasL d.ms (n : Int) = true := by unfold hasL; rw [decide_eq_true hi0, decide_eq_true hi1, Bool.and_self]
  rw [EH] at HH
  clear EH
  by_cases hm : d.ms.getD n 0 = -1
  · rw [decide_eq_true hm, if_pos rfl]
    obtain ⟨hA, hTo⟩ := lab_mark (l := n) h at_asm hg
    have HE : Hid (StepIs 49 B d w (.bool true) d.cs (d.ms.set n d.cs.length) (.returned (.bool true)) (w.setCell ⟨g, n, none⟩ (.int .i64 d.cs.length)).drew) := ⟨_, rfl, hA.drew, hTo.drew, rfl, rfl, rfl⟩
    rw [hm] at cl
    rw [hg] at c1
    have HG := hid hg
    have HM := hid hm
    clear h hA hTo hg hm h0 h1
    go_enter Try.func8, Try.ntmps8
    go_wp2_with fail
    refine HH.out.mono ?_
    rintro e w1 ⟨rfl, rfl⟩
    go_wp2_with fail
    go_region
    all_goals
      go_wp2
      exact bodyPost_ret (v := .bool true) (by simp [results, Try.results8, go_sem]) rfl HE.out
  · rw [decide_eq_false hm, if_neg (by decide)]
    have HE : Hid (StepIs 49 B d w (.bool false) d.cs d.ms (.returned (.bool false)) w) := ⟨d, rfl, h, LabTo.refl _ _, rfl, rfl, rfl⟩
    obtain ⟨mm, hmm⟩ : ∃ mm, mm = d.ms.getD n 0 := ⟨_, rfl⟩
    rw [← hmm] at cl hm
    rw [hg] at c1
    have hb : (mm != -1) = true := by simpa using hm
    have HG := hid hg
    have HM := hid hm
    have HMM := hid hmm
    clear h hg hm hmm h0 h1
    go_enter Try.func8, Try.ntmps8
    go_wp2_with fail
    refine HH.out.mono ?_
    rintro e w1 ⟨rfl, rfl⟩
    go_wp2
    exact bodyPost_ret (v := .bool false) (by simp [results, Try.results8, go_sem]) rfl HE.out

set_option maxHeartbeats 4000000 in
set_option maxRecDepth 20000 in
theorem rmark {B : Nat} {d : LabD} {w : World} (h : LabAt 31 B d w) (l : Int) : Calls Try.prog 9 #[lptr d.p, .int .i64 l] w (StepIs 31 B d w (.bool (markB d.ms l)) d.cs (if markB d.ms l = true then d.ms.set l.toNat d.cs.length else d.ms)) := by
  obtain ⟨c0, c1, z0, z1, l0⟩ := h.lbox
  by_cases h0 : l < 0
  · have e : markB d.ms l = false := by unfold markB hasL; rw [decide_eq_false (by omega : ¬ 0 ≤ l)]; simp
    rw [e, if_neg (by decide)]
    have HE : Hid (StepIs 31 B d w (.bool false) d.cs d.ms (.returned (.bool false)) w) := ⟨d, rfl, h, LabTo.refl _ _, rfl, rfl, rfl⟩
    clear h e
    go_enter Try.func9, Try.ntmps9
    go_wp2
    exact bodyPost_ret (v := .bool false) (by simp [results, Try.results9, go_sem]) rfl HE.out
  by_cases h1 : (d.ms.length : Int) ≤ l
  · have e : markB d.ms l = false := by unfold markB hasL; rw [decide_eq_false (by omega : ¬ l < (d.ms.length : Int))]; simp
    rw [e, if_neg (by decide)]
    have HE : Hid (StepIs 31 B d w (.bool false) d.cs d.ms (.returned (.bool false)) w) := ⟨d, rfl, h, LabTo.refl _ _, rfl, rfl, rfl⟩
    clear h e
    go_enter Try.func9, Try.ntmps9
    go_wp2
    exact bodyPost_ret (v := .bool false) (by simp [results, Try.results9, go_sem]) rfl HE.out
  obtain ⟨n, rfl⟩ : ∃ n : Nat, l = (n : Int) := ⟨l.toNat, by omega⟩
  have hl : n < d.ms.length := by omega
  obtain ⟨g, hg, cl, fz, gl⟩ := lab_at h hl
  have hi0 : (0 : Int) ≤ (n : Int) := by omega
  have hi1 : (n : Int) < (d.ms.length : Int) := by omega
  have hin : ((n : Int)).toNat = n := by omega
  have EM : markB d.ms (n : Int) = decide (d.ms.getD n 0 = -1) := by
    unfold markB hasL
    rw [decide_eq_true hi0, decide_eq_true hi1, hin]
    simp
  rw [EM, hin]
  clear EM
  by_cases hm : d.ms.getD n 0 = -1
  · rw [decide_eq_true hm, if_pos rfl]
    obtain ⟨hA, hTo⟩ := lab_mark (l := n) h at_lab hg
    have HE : Hid (StepIs 31 B d w (.bool true) d.cs (d.ms.set n d.cs.length) (.returned (.bool true)) (w.setCell ⟨g, n, none⟩ (.int .i64 d.cs.length)).drew) := ⟨_, rfl, hA.drew, hTo.drew, rfl, rfl, rfl⟩
    rw [hm] at cl
    rw [hg] at c1
    have HG := hid hg
    have HM := hid hm
    clear h hA hTo hg hm h0 h1
    go_enter Try.func9, Try.ntmps9
    go_wp2_with fail
    go_region
    all_goals
      go_wp2
      exact bodyPost_ret (v := .bool true) (by simp [results, Try.results9, go_sem]) rfl HE.out
  · rw [decide_eq_false hm, if_neg (by decide)]
    have HE : Hid (StepIs 31 B d w (.bool false) d.cs d.ms (.returned (.bool false)) w) := ⟨d, rfl, h, LabTo.refl _ _, rfl, rfl, rfl⟩
    obtain ⟨mm, hmm⟩ : ∃ mm, mm = d.ms.getD n 0 := ⟨_, rfl⟩
    rw [← hmm] at cl hm
    rw [hg] at c1
    have hb : (mm != -1) = true := by simpa using hm
    have HG := hid hg
    have HM := hid hm
    have HMM := hid hmm
    clear h hg hm hmm h0 h1
    go_enter Try.func9, Try.ntmps9
    go_wp2
    exact bodyPost_ret (v := .bool false) (by simp [results, Try.results9, go_sem]) rfl HE.out

set_option maxHeartbeats 2000000 in
set_option maxRecDepth 20000 in
theorem aput {B : Nat} {d : LabD} {w : World} (h : LabAt 49 B d w) (hB : B ≤ w.heap.size) {ad : Addr} {m c : Nat} {xs : List InsD} (hl : xs.length = m) (hs : ∀ j u, (xs.flatMap kInsE)[j]? = some u → w.cell? (ad.add j) = some u) (hw : ∀ x ∈ xs, x.wf) (hm : 0 < m) (hn : d.cs.length + m ≤ 100000) : Calls Try.prog 10 #[lptr d.p, .slice (some ad) m c] w (StepIs 49 B d w (.tuple #[]) (d.cs ++ xs) d.ms) := by
  obtain ⟨c0, c1, z0, z1, l0⟩ := h.lbox
  obtain ⟨g, cap, w', hrun, ⟨x0, x1, y0, y1, yl⟩, hA, hTo⟩ := lab_code (c := c) h at_asm hB (Below.refl _ _) hl hs hw hm hn
  have HE : Hid (StepIs 49 B d w (.tuple #[]) (d.cs ++ xs) d.ms (.returned (.tuple #[])) (w'.setCell ⟨d.p, 0, none⟩ (.slice (some ⟨g, 0, none⟩) (d.cs.length + m) cap))) := ⟨_, rfl, hA, hTo, rfl, rfl, rfl⟩
  have HS := hid hs
  have HL := hid hl
  clear h hA hTo hs hl hw
  go_enter Try.func10, Try.ntmps10
  go_wp2_with (at_builtin; refine gapp_run rfl _ _ rfl rfl rfl hrun ?_)
  exact bodyPost_ret (v := .tuple #[]) (by simp [results, Try.results10, go_sem]) rfl HE.out
end Go.Proofs.Ytkipfppblhkodaa
