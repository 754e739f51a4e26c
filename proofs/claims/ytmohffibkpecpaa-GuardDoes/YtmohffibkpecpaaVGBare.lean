/- The form of an instruction: word.fields, isBare, hasRegisters, isForm. -/
import Derived.Test.YtmohffibkpecpaaJ2
namespace Go.Proofs.Ytmohffibkpecpaa
open Go.RowKit

theorem ins_ways (op : Int) : op = 1 ∨ op = 2 ∨ op = 3 ∨ op = 4 ∨ op = 5 ∨ op = 6 ∨ op = 7 ∨ op = 8 ∨ op = 9 ∨ op = 10 ∨ op = 11 ∨ op = 12 ∨ op = 13 ∨ op = 14 ∨ op = 15 ∨ op = 16 ∨ op = 17 ∨ op = 18 ∨ (op ≠ 1 ∧ op ≠ 2 ∧ op ≠ 3 ∧ op ≠ 4 ∧ op ≠ 5 ∧ op ≠ 6 ∧ op ≠ 7 ∧ op ≠ 8 ∧ op ≠ 9 ∧ op ≠ 10 ∧ op ≠ 11 ∧ op ≠ 12 ∧ op ≠ 13 ∧ op ≠ 14 ∧ op ≠ 15 ∧ op ≠ 16 ∧ op ≠ 17 ∧ op ≠ 18) := by omega

theorem field_ways (op : Int) : fieldsN op = 17 ∨ fieldsN op = 3 ∨ fieldsN op = 7 ∨ fieldsN op = 1 ∨ fieldsN op = 23 ∨ fieldsN op = 25 ∨ fieldsN op = 11 ∨ fieldsN op = 8 ∨ fieldsN op = 5 ∨ fieldsN op = 0 := by
  unfold fieldsN
  repeat' split
  all_goals simp

set_option maxHeartbeats 4000000 in
set_option maxRecDepth 20000 in
theorem gfields (op : Int) (w : World) : Calls Try.prog 34 #[.int .i64 op] w fun e w' => e = .returned (.int .i64 (fieldsN op)) ∧ w' = w := by
  rcases ins_ways op with rfl | rfl | rfl | rfl | rfl | rfl | rfl | rfl | rfl | rfl | rfl | rfl | rfl | rfl | rfl | rfl | rfl | rfl | ⟨h1, h2, h3, h4, h5, h6, h7, h8, h9, h10, h11, h12, h13, h14, h15, h16, h17, h18⟩
  all_goals first
    | (have e : fieldsN op = 0 := by
        unfold fieldsN
        rw [if_neg (by omega), if_neg (by omega), if_neg (by omega), if_neg (by omega), if_neg (by omega), if_neg (by omega), if_neg (by omega), if_neg (by omega), if_neg (by omega)]
       rw [e]
       clear e
       go_enter Try.func34, Try.ntmps34
       go_wp2
       go_ret
       exact ⟨rfl, rfl⟩)
    | (go_enter Try.func34, Try.ntmps34
       go_wp2
       go_ret
       exact ⟨rfl, rfl⟩)

set_option maxHeartbeats 4000000 in
set_option maxRecDepth 20000 in
theorem gbare17 (op r s k to n : Int) (hf : fieldsN op = 17) (w : World) : Calls Try.prog 44 #[InsD.v ⟨op, r, s, k, to, n⟩] w (TellB (bareB ⟨op, r, s, k, to, n⟩) w) := by
  have HW := hid (fun n w => gfields n w)
  have HF := hid hf
  by_cases hs : s = 0
  rotate_left
  · have EB : bareB ⟨op, r, s, k, to, n⟩ = false := by simp [bareB, hasR, hasS, hasK, hasT, hasN, hf, hs]
    have ds : (s == 0) = false := by simpa using hs
    clear hf  hs
    have HT : Hid (∀ o, TellB (bareB ⟨op, r, s, k, to, n⟩) w (.returned (.bool false)) (w.alloc o)) := fun o => ⟨by rw [EB], bl_alloc (Below.refl _ _)⟩
    clear EB
    go_enter Try.func44, Try.ntmps44
    go_wp2_with fail
    refine (HW.out _ _).mono ?_
    rintro e w1 ⟨rfl, rfl⟩
    rw [HF.out]
    clear HF HW
    go_wp2
    go_ret
    exact HT.out _
  by_cases hk : k = 0
  rotate_left
  · have EB : bareB ⟨op, r, s, k, to, n⟩ = false := by simp [bareB, hasR, hasS, hasK, hasT, hasN, hf, hs, hk]
    have ds : (s == 0) = true := by simpa using hs
    have dk : (k == 0) = false := by simpa using hk
    clear hf hs hk
    have HT : Hid (∀ o, TellB (bareB ⟨op, r, s, k, to, n⟩) w (.returned (.bool false)) (w.alloc o)) := fun o => ⟨by rw [EB], bl_alloc (Below.refl _ _)⟩
    clear EB
    go_enter Try.func44, Try.ntmps44
    go_wp2_with fail
    refine (HW.out _ _).mono ?_
    rintro e w1 ⟨rfl, rfl⟩
    rw [HF.out]
    clear HF HW
    go_wp2
    go_ret
    exact HT.out _
  by_cases hto : to = 0
  rotate_left
  · have EB : bareB ⟨op, r, s, k, to, n⟩ = false := by simp [bareB, hasR, hasS, hasK, hasT, hasN, hf, hs, hk, hto]
    have ds : (s == 0) = true := by simpa using hs
    have dk : (k == 0) = true := by simpa using hk
    have dto : (to == 0) = false := by simpa using hto
    clear hf hs hk hto
    have HT : Hid (∀ o, TellB (bareB ⟨op, r, s, k, to, n⟩) w (.returned (.bool false)) (w.alloc o)) := fun o => ⟨by rw [EB], bl_alloc (Below.refl _ _)⟩
    clear EB
    go_enter Try.func44, Try.ntmps44
    go_wp2_with fail
    refine (HW.out _ _).mono ?_
    rintro e w1 ⟨rfl, rfl⟩
    rw [HF.out]
    clear HF HW
    go_wp2
    go_ret
    exact HT.out _
  have EB : bareB ⟨op, r, s, k, to, n⟩ = true := by simp [bareB, hasR, hasS, hasK, hasT, hasN, hf, hs, hk, hto]
  have ds : (s == 0) = true := by simpa using hs
  have dk : (k == 0) = true := by simpa using hk
  have dto : (to == 0) = true := by simpa using hto
  clear hf hs hk hto
  have HT : Hid (∀ o, TellB (bareB ⟨op, r, s, k, to, n⟩) w (.returned (.bool true)) (w.alloc o)) := fun o => ⟨by rw [EB], bl_alloc (Below.refl _ _)⟩
  clear EB
  go_enter Try.func44, Try.ntmps44
  go_wp2_with fail
  refine (HW.out _ _).mono ?_
  rintro e w1 ⟨rfl, rfl⟩
  rw [HF.out]
  clear HF HW
  go_wp2
  go_ret
  exact HT.out _

set_option maxHeartbeats 4000000 in
set_option maxRecDepth 20000 in
theorem gbare3 (op r s k to n : Int) (hf : fieldsN op = 3) (w : World) : Calls Try.prog 44 #[InsD.v ⟨op, r, s, k, to, n⟩] w (TellB (bareB ⟨op, r, s, k, to, n⟩) w) := by
  have HW := hid (fun n w => gfields n w)
  have HF := hid hf
  by_cases hk : k = 0
  rotate_left
  · have EB : bareB ⟨op, r, s, k, to, n⟩ = false := by simp [bareB, hasR, hasS, hasK, hasT, hasN, hf, hk]
    have dk : (k == 0) = false := by simpa using hk
    clear hf  hk
    have HT : Hid (∀ o, TellB (bareB ⟨op, r, s, k, to, n⟩) w (.returned (.bool false)) (w.alloc o)) := fun o => ⟨by rw [EB], bl_alloc (Below.refl _ _)⟩
    clear EB
    go_enter Try.func44, Try.ntmps44
    go_wp2_with fail
    refine (HW.out _ _).mono ?_
    rintro e w1 ⟨rfl, rfl⟩
    rw [HF.out]
    clear HF HW
    go_wp2
    go_ret
    exact HT.out _
  by_cases hto : to = 0
  rotate_left
  · have EB : bareB ⟨op, r, s, k, to, n⟩ = false := by simp [bareB, hasR, hasS, hasK, hasT, hasN, hf, hk, hto]
    have dk : (k == 0) = true := by simpa using hk
    have dto : (to == 0) = false := by simpa using hto
    clear hf hk hto
    have HT : Hid (∀ o, TellB (bareB ⟨op, r, s, k, to, n⟩) w (.returned (.bool false)) (w.alloc o)) := fun o => ⟨by rw [EB], bl_alloc (Below.refl _ _)⟩
    clear EB
    go_enter Try.func44, Try.ntmps44
    go_wp2_with fail
    refine (HW.out _ _).mono ?_
    rintro e w1 ⟨rfl, rfl⟩
    rw [HF.out]
    clear HF HW
    go_wp2
    go_ret
    exact HT.out _
  by_cases hn : n = 0
  rotate_left
  · have EB : bareB ⟨op, r, s, k, to, n⟩ = false := by simp [bareB, hasR, hasS, hasK, hasT, hasN, hf, hk, hto, hn]
    have dk : (k == 0) = true := by simpa using hk
    have dto : (to == 0) = true := by simpa using hto
    have dn : (n == 0) = false := by simpa using hn
    clear hf hk hto hn
    have HT : Hid (∀ o, TellB (bareB ⟨op, r, s, k, to, n⟩) w (.returned (.bool false)) (w.alloc o)) := fun o => ⟨by rw [EB], bl_alloc (Below.refl _ _)⟩
    clear EB
    go_enter Try.func44, Try.ntmps44
    go_wp2_with fail
    refine (HW.out _ _).mono ?_
    rintro e w1 ⟨rfl, rfl⟩
    rw [HF.out]
    clear HF HW
    go_wp2
    go_ret
    exact HT.out _
  have EB : bareB ⟨op, r, s, k, to, n⟩ = true := by simp [bareB, hasR, hasS, hasK, hasT, hasN, hf, hk, hto, hn]
  have dk : (k == 0) = true := by simpa using hk
  have dto : (to == 0) = true := by simpa using hto
  have dn : (n == 0) = true := by simpa using hn
  clear hf hk hto hn
  have HT : Hid (∀ o, TellB (bareB ⟨op, r, s, k, to, n⟩) w (.returned (.bool true)) (w.alloc o)) := fun o => ⟨by rw [EB], bl_alloc (Below.refl _ _)⟩
  clear EB
  go_enter Try.func44, Try.ntmps44
  go_wp2_with fail
  refine (HW.out _ _).mono ?_
  rintro e w1 ⟨rfl, rfl⟩
  rw [HF.out]
  clear HF HW
  go_wp2
  go_ret
  exact HT.out _

set_option maxHeartbeats 4000000 in
set_option maxRecDepth 20000 in
theorem gbare7 (op r s k to n : Int) (hf : fieldsN op = 7) (w : World) : Calls Try.prog 44 #[InsD.v ⟨op, r, s, k, to, n⟩] w (TellB (bareB ⟨op, r, s, k, to, n⟩) w) := by
  have HW := hid (fun n w => gfields n w)
  have HF := hid hf
  by_cases hto : to = 0
  rotate_left
  · have EB : bareB ⟨op, r, s, k, to, n⟩ = false := by simp [bareB, hasR, hasS, hasK, hasT, hasN, hf, hto]
    have dto : (to == 0) = false := by simpa using hto
    clear hf  hto
    have HT : Hid (∀ o, TellB (bareB ⟨op, r, s, k, to, n⟩) w (.returned (.bool false)) (w.alloc o)) := fun o => ⟨by rw [EB], bl_alloc (Below.refl _ _)⟩
    clear EB
    go_enter Try.func44, Try.ntmps44
    go_wp2_with fail
    refine (HW.out _ _).mono ?_
    rintro e w1 ⟨rfl, rfl⟩
    rw [HF.out]
    clear HF HW
    go_wp2
    go_ret
    exact HT.out _
  by_cases hn : n = 0
  rotate_left
  · have EB : bareB ⟨op, r, s, k, to, n⟩ = false := by simp [bareB, hasR, hasS, hasK, hasT, hasN, hf, hto, hn]
    have dto : (to == 0) = true := by simpa using hto
    have dn : (n == 0) = false := by simpa using hn
    clear hf hto hn
    have HT : Hid (∀ o, TellB (bareB ⟨op, r, s, k, to, n⟩) w (.returned (.bool false)) (w.alloc o)) := fun o => ⟨by rw [EB], bl_alloc (Below.refl _ _)⟩
    clear EB
    go_enter Try.func44, Try.ntmps44
    go_wp2_with fail
    refine (HW.out _ _).mono ?_
    rintro e w1 ⟨rfl, rfl⟩
    rw [HF.out]
    clear HF HW
    go_wp2
    go_ret
    exact HT.out _
  have EB : bareB ⟨op, r, s, k, to, n⟩ = true := by simp [bareB, hasR, hasS, hasK, hasT, hasN, hf, hto, hn]
  have dto : (to == 0) = true := by simpa using hto
  have dn : (n == 0) = true := by simpa using hn
  clear hf hto hn
  have HT : Hid (∀ o, TellB (bareB ⟨op, r, s, k, to, n⟩) w (.returned (.bool true)) (w.alloc o)) := fun o => ⟨by rw [EB], bl_alloc (Below.refl _ _)⟩
  clear EB
  go_enter Try.func44, Try.ntmps44
  go_wp2_with fail
  refine (HW.out _ _).mono ?_
  rintro e w1 ⟨rfl, rfl⟩
  rw [HF.out]
  clear HF HW
  go_wp2
  go_ret
  exact HT.out _

set_option maxHeartbeats 4000000 in
set_option maxRecDepth 20000 in
theorem gbare1 (op r s k to n : Int) (hf : fieldsN op = 1) (w : World) : Calls Try.prog 44 #[InsD.v ⟨op, r, s, k, to, n⟩] w (TellB (bareB ⟨op, r, s, k, to, n⟩) w) := by
  have HW := hid (fun n w => gfields n w)
  have HF := hid hf
  by_cases hs : s = 0
  rotate_left
  · have EB : bareB ⟨op, r, s, k, to, n⟩ = false := by simp [bareB, hasR, hasS, hasK, hasT, hasN, hf, hs]
    have ds : (s == 0) = false := by simpa using hs
    clear hf  hs
    have HT : Hid (∀ o, TellB (bareB ⟨op, r, s, k, to, n⟩) w (.returned (.bool false)) (w.alloc o)) := fun o => ⟨by rw [EB], bl_alloc (Below.refl _ _)⟩
    clear EB
    go_enter Try.func44, Try.ntmps44
    go_wp2_with fail
    refine (HW.out _ _).mono ?_
    rintro e w1 ⟨rfl, rfl⟩
    rw [HF.out]
    clear HF HW
    go_wp2
    go_ret
    exact HT.out _
  by_cases hk : k = 0
  rotate_left
  · have EB : bareB ⟨op, r, s, k, to, n⟩ = false := by simp [bareB, hasR, hasS, hasK, hasT, hasN, hf, hs, hk]
    have ds : (s == 0) = true := by simpa using hs
    have dk : (k == 0) = false := by simpa using hk
    clear hf hs hk
    have HT : Hid (∀ o, TellB (bareB ⟨op, r, s, k, to, n⟩) w (.returned (.bool false)) (w.alloc o)) := fun o => ⟨by rw [EB], bl_alloc (Below.refl _ _)⟩
    clear EB
    go_enter Try.func44, Try.ntmps44
    go_wp2_with fail
    refine (HW.out _ _).mono ?_
    rintro e w1 ⟨rfl, rfl⟩
    rw [HF.out]
    clear HF HW
    go_wp2
    go_ret
    exact HT.out _
  by_cases hto : to = 0
  rotate_left
  · have EB : bareB ⟨op, r, s, k, to, n⟩ = false := by simp [bareB, hasR, hasS, hasK, hasT, hasN, hf, hs, hk, hto]
    have ds : (s == 0) = true := by simpa using hs
    have dk : (k == 0) = true := by simpa using hk
    have dto : (to == 0) = false := by simpa using hto
    clear hf hs hk hto
    have HT : Hid (∀ o, TellB (bareB ⟨op, r, s, k, to, n⟩) w (.returned (.bool false)) (w.alloc o)) := fun o => ⟨by rw [EB], bl_alloc (Below.refl _ _)⟩
    clear EB
    go_enter Try.func44, Try.ntmps44
    go_wp2_with fail
    refine (HW.out _ _).mono ?_
    rintro e w1 ⟨rfl, rfl⟩
    rw [HF.out]
    clear HF HW
    go_wp2
    go_ret
    exact HT.out _
  by_cases hn : n = 0
  rotate_left
  · have EB : bareB ⟨op, r, s, k, to, n⟩ = false := by simp [bareB, hasR, hasS, hasK, hasT, hasN, hf, hs, hk, hto, hn]
    have ds : (s == 0) = true := by simpa using hs
    have dk : (k == 0) = true := by simpa using hk
    have dto : (to == 0) = true := by simpa using hto
    have dn : (n == 0) = false := by simpa using hn
    clear hf hs hk hto hn
    have HT : Hid (∀ o, TellB (bareB ⟨op, r, s, k, to, n⟩) w (.returned (.bool false)) (w.alloc o)) := fun o => ⟨by rw [EB], bl_alloc (Below.refl _ _)⟩
    clear EB
    go_enter Try.func44, Try.ntmps44
    go_wp2_with fail
    refine (HW.out _ _).mono ?_
    rintro e w1 ⟨rfl, rfl⟩
    rw [HF.out]
    clear HF HW
    go_wp2
    go_ret
    exact HT.out _
  have EB : bareB ⟨op, r, s, k, to, n⟩ = true := by simp [bareB, hasR, hasS, hasK, hasT, hasN, hf, hs, hk, hto, hn]
  have ds : (s == 0) = true := by simpa using hs
  have dk : (k == 0) = true := by simpa using hk
  have dto : (to == 0) = true := by simpa using hto
  have dn : (n == 0) = true := by simpa using hn
  clear hf hs hk hto hn
  have HT : Hid (∀ o, TellB (bareB ⟨op, r, s, k, to, n⟩) w (.returned (.bool true)) (w.alloc o)) := fun o => ⟨by rw [EB], bl_alloc (Below.refl _ _)⟩
  clear EB
  go_enter Try.func44, Try.ntmps44
  go_wp2_with fail
  refine (HW.out _ _).mono ?_
  rintro e w1 ⟨rfl, rfl⟩
  rw [HF.out]
  clear HF HW
  go_wp2
  go_ret
  exact HT.out _

set_option maxHeartbeats 4000000 in
set_option maxRecDepth 20000 in
theorem gbare23 (op r s k to n : Int) (hf : fieldsN op = 23) (w : World) : Calls Try.prog 44 #[InsD.v ⟨op, r, s, k, to, n⟩] w (TellB (bareB ⟨op, r, s, k, to, n⟩) w) := by
  have HW := hid (fun n w => gfields n w)
  have HF := hid hf
  by_cases hto : to = 0
  rotate_left
  · have EB : bareB ⟨op, r, s, k, to, n⟩ = false := by simp [bareB, hasR, hasS, hasK, hasT, hasN, hf, hto]
    have dto : (to == 0) = false := by simpa using hto
    clear hf  hto
    have HT : Hid (∀ o, TellB (bareB ⟨op, r, s, k, to, n⟩) w (.returned (.bool false)) (w.alloc o)) := fun o => ⟨by rw [EB], bl_alloc (Below.refl _ _)⟩
    clear EB
    go_enter Try.func44, Try.ntmps44
    go_wp2_with fail
    refine (HW.out _ _).mono ?_
    rintro e w1 ⟨rfl, rfl⟩
    rw [HF.out]
    clear HF HW
    go_wp2
    go_ret
    exact HT.out _
  have EB : bareB ⟨op, r, s, k, to, n⟩ = true := by simp [bareB, hasR, hasS, hasK, hasT, hasN, hf, hto]
  have dto : (to == 0) = true := by simpa using hto
  clear hf hto
  have HT : Hid (∀ o, TellB (bareB ⟨op, r, s, k, to, n⟩) w (.returned (.bool true)) (w.alloc o)) := fun o => ⟨by rw [EB], bl_alloc (Below.refl _ _)⟩
  clear EB
  go_enter Try.func44, Try.ntmps44
  go_wp2_with fail
  refine (HW.out _ _).mono ?_
  rintro e w1 ⟨rfl, rfl⟩
  rw [HF.out]
  clear HF HW
  go_wp2
  go_ret
  exact HT.out _

set_option maxHeartbeats 4000000 in
set_option maxRecDepth 20000 in
theorem gbare25 (op r s k to n : Int) (hf : fieldsN op = 25) (w : World) : Calls Try.prog 44 #[InsD.v ⟨op, r, s, k, to, n⟩] w (TellB (bareB ⟨op, r, s, k, to, n⟩) w) := by
  have HW := hid (fun n w => gfields n w)
  have HF := hid hf
  by_cases hs : s = 0
  rotate_left
  · have EB : bareB ⟨op, r, s, k, to, n⟩ = false := by simp [bareB, hasR, hasS, hasK, hasT, hasN, hf, hs]
    have ds : (s == 0) = false := by simpa using hs
    clear hf  hs
    have HT : Hid (∀ o, TellB (bareB ⟨op, r, s, k, to, n⟩) w (.returned (.bool false)) (w.alloc o)) := fun o => ⟨by rw [EB], bl_alloc (Below.refl _ _)⟩
    clear EB
    go_enter Try.func44, Try.ntmps44
    go_wp2_with fail
    refine (HW.out _ _).mono ?_
    rintro e w1 ⟨rfl, rfl⟩
    rw [HF.out]
    clear HF HW
    go_wp2
    go_ret
    exact HT.out _
  by_cases hk : k = 0
  rotate_left
  · have EB : bareB ⟨op, r, s, k, to, n⟩ = false := by simp [bareB, hasR, hasS, hasK, hasT, hasN, hf, hs, hk]
    have ds : (s == 0) = true := by simpa using hs
    have dk : (k == 0) = false := by simpa using hk
    clear hf hs hk
    have HT : Hid (∀ o, TellB (bareB ⟨op, r, s, k, to, n⟩) w (.returned (.bool false)) (w.alloc o)) := fun o => ⟨by rw [EB], bl_alloc (Below.refl _ _)⟩
    clear EB
    go_enter Try.func44, Try.ntmps44
    go_wp2_with fail
    refine (HW.out _ _).mono ?_
    rintro e w1 ⟨rfl, rfl⟩
    rw [HF.out]
    clear HF HW
    go_wp2
    go_ret
    exact HT.out _
  have EB : bareB ⟨op, r, s, k, to, n⟩ = true := by simp [bareB, hasR, hasS, hasK, hasT, hasN, hf, hs, hk]
  have ds : (s == 0) = true := by simpa using hs
  have dk : (k == 0) = true := by simpa using hk
  clear hf hs hk
  have HT : Hid (∀ o, TellB (bareB ⟨op, r, s, k, to, n⟩) w (.returned (.bool true)) (w.alloc o)) := fun o => ⟨by rw [EB], bl_alloc (Below.refl _ _)⟩
  clear EB
  go_enter Try.func44, Try.ntmps44
  go_wp2_with fail
  refine (HW.out _ _).mono ?_
  rintro e w1 ⟨rfl, rfl⟩
  rw [HF.out]
  clear HF HW
  go_wp2
  go_ret
  exact HT.out _

set_option maxHeartbeats 4000000 in
set_option maxRecDepth 20000 in
theorem gbare11 (op r s k to n : Int) (hf : fieldsN op = 11) (w : World) : Calls Try.prog 44 #[InsD.v ⟨op, r, s, k, to, n⟩] w (TellB (bareB ⟨op, r, s, k, to, n⟩) w) := by
  have HW := hid (fun n w => gfields n w)
  have HF := hid hf
  by_cases hk : k = 0
  rotate_left
  · have EB : bareB ⟨op, r, s, k, to, n⟩ = false := by simp [bareB, hasR, hasS, hasK, hasT, hasN, hf, hk]
    have dk : (k == 0) = false := by simpa using hk
    clear hf  hk
    have HT : Hid (∀ o, TellB (bareB ⟨op, r, s, k, to, n⟩) w (.returned (.bool false)) (w.alloc o)) := fun o => ⟨by rw [EB], bl_alloc (Below.refl _ _)⟩
    clear EB
    go_enter Try.func44, Try.ntmps44
    go_wp2_with fail
    refine (HW.out _ _).mono ?_
    rintro e w1 ⟨rfl, rfl⟩
    rw [HF.out]
    clear HF HW
    go_wp2
    go_ret
    exact HT.out _
  by_cases hn : n = 0
  rotate_left
  · have EB : bareB ⟨op, r, s, k, to, n⟩ = false := by simp [bareB, hasR, hasS, hasK, hasT, hasN, hf, hk, hn]
    have dk : (k == 0) = true := by simpa using hk
    have dn : (n == 0) = false := by simpa using hn
    clear hf hk hn
    have HT : Hid (∀ o, TellB (bareB ⟨op, r, s, k, to, n⟩) w (.returned (.bool false)) (w.alloc o)) := fun o => ⟨by rw [EB], bl_alloc (Below.refl _ _)⟩
    clear EB
    go_enter Try.func44, Try.ntmps44
    go_wp2_with fail
    refine (HW.out _ _).mono ?_
    rintro e w1 ⟨rfl, rfl⟩
    rw [HF.out]
    clear HF HW
    go_wp2
    go_ret
    exact HT.out _
  have EB : bareB ⟨op, r, s, k, to, n⟩ = true := by simp [bareB, hasR, hasS, hasK, hasT, hasN, hf, hk, hn]
  have dk : (k == 0) = true := by simpa using hk
  have dn : (n == 0) = true := by simpa using hn
  clear hf hk hn
  have HT : Hid (∀ o, TellB (bareB ⟨op, r, s, k, to, n⟩) w (.returned (.bool true)) (w.alloc o)) := fun o => ⟨by rw [EB], bl_alloc (Below.refl _ _)⟩
  clear EB
  go_enter Try.func44, Try.ntmps44
  go_wp2_with fail
  refine (HW.out _ _).mono ?_
  rintro e w1 ⟨rfl, rfl⟩
  rw [HF.out]
  clear HF HW
  go_wp2
  go_ret
  exact HT.out _

set_option maxHeartbeats 4000000 in
set_option maxRecDepth 20000 in
theorem gbare8 (op r s k to n : Int) (hf : fieldsN op = 8) (w : World) : Calls Try.prog 44 #[InsD.v ⟨op, r, s, k, to, n⟩] w (TellB (bareB ⟨op, r, s, k, to, n⟩) w) := by
  have HW := hid (fun n w => gfields n w)
  have HF := hid hf
  by_cases hr : r = 0
  rotate_left
  · have EB : bareB ⟨op, r, s, k, to, n⟩ = false := by simp [bareB, hasR, hasS, hasK, hasT, hasN, hf, hr]
    have dr : (r == 0) = false := by simpa using hr
    clear hf  hr
    have HT : Hid (∀ o, TellB (bareB ⟨op, r, s, k, to, n⟩) w (.returned (.bool false)) (w.alloc o)) := fun o => ⟨by rw [EB], bl_alloc (Below.refl _ _)⟩
    clear EB
    go_enter Try.func44, Try.ntmps44
    go_wp2_with fail
    refine (HW.out _ _).mono ?_
    rintro e w1 ⟨rfl, rfl⟩
    rw [HF.out]
    clear HF HW
    go_wp2
    go_ret
    exact HT.out _
  by_cases hs : s = 0
  rotate_left
  · have EB : bareB ⟨op, r, s, k, to, n⟩ = false := by simp [bareB, hasR, hasS, hasK, hasT, hasN, hf, hr, hs]
    have dr : (r == 0) = true := by simpa using hr
    have ds : (s == 0) = false := by simpa using hs
    clear hf hr hs
    have HT : Hid (∀ o, TellB (bareB ⟨op, r, s, k, to, n⟩) w (.returned (.bool false)) (w.alloc o)) := fun o => ⟨by rw [EB], bl_alloc (Below.refl _ _)⟩
    clear EB
    go_enter Try.func44, Try.ntmps44
    go_wp2_with fail
    refine (HW.out _ _).mono ?_
    rintro e w1 ⟨rfl, rfl⟩
    rw [HF.out]
    clear HF HW
    go_wp2
    go_ret
    exact HT.out _
  by_cases hk : k = 0
  rotate_left
  · have EB : bareB ⟨op, r, s, k, to, n⟩ = false := by simp [bareB, hasR, hasS, hasK, hasT, hasN, hf, hr, hs, hk]
    have dr : (r == 0) = true := by simpa using hr
    have ds : (s == 0) = true := by simpa using hs
    have dk : (k == 0) = false := by simpa using hk
    clear hf hr hs hk
    have HT : Hid (∀ o, TellB (bareB ⟨op, r, s, k, to, n⟩) w (.returned (.bool false)) (w.alloc o)) := fun o => ⟨by rw [EB], bl_alloc (Below.refl _ _)⟩
    clear EB
    go_enter Try.func44, Try.ntmps44
    go_wp2_with fail
    refine (HW.out _ _).mono ?_
    rintro e w1 ⟨rfl, rfl⟩
    rw [HF.out]
    clear HF HW
    go_wp2
    go_ret
    exact HT.out _
  by_cases hn : n = 0
  rotate_left
  · have EB : bareB ⟨op, r, s, k, to, n⟩ = false := by simp [bareB, hasR, hasS, hasK, hasT, hasN, hf, hr, hs, hk, hn]
    have dr : (r == 0) = true := by simpa using hr
    have ds : (s == 0) = true := by simpa using hs
    have dk : (k == 0) = true := by simpa using hk
    have dn : (n == 0) = false := by simpa using hn
    clear hf hr hs hk hn
    have HT : Hid (∀ o, TellB (bareB ⟨op, r, s, k, to, n⟩) w (.returned (.bool false)) (w.alloc o)) := fun o => ⟨by rw [EB], bl_alloc (Below.refl _ _)⟩
    clear EB
    go_enter Try.func44, Try.ntmps44
    go_wp2_with fail
    refine (HW.out _ _).mono ?_
    rintro e w1 ⟨rfl, rfl⟩
    rw [HF.out]
    clear HF HW
    go_wp2
    go_ret
    exact HT.out _
  have EB : bareB ⟨op, r, s, k, to, n⟩ = true := by simp [bareB, hasR, hasS, hasK, hasT, hasN, hf, hr, hs, hk, hn]
  have dr : (r == 0) = true := by simpa using hr
  have ds : (s == 0) = true := by simpa using hs
  have dk : (k == 0) = true := by simpa using hk
  have dn : (n == 0) = true := by simpa using hn
  clear hf hr hs hk hn
  have HT : Hid (∀ o, TellB (bareB ⟨op, r, s, k, to, n⟩) w (.returned (.bool true)) (w.alloc o)) := fun o => ⟨by rw [EB], bl_alloc (Below.refl _ _)⟩
  clear EB
  go_enter Try.func44, Try.ntmps44
  go_wp2_with fail
  refine (HW.out _ _).mono ?_
  rintro e w1 ⟨rfl, rfl⟩
  rw [HF.out]
  clear HF HW
  go_wp2
  go_ret
  exact HT.out _

set_option maxHeartbeats 4000000 in
set_option maxRecDepth 20000 in
theorem gbare5 (op r s k to n : Int) (hf : fieldsN op = 5) (w : World) : Calls Try.prog 44 #[InsD.v ⟨op, r, s, k, to, n⟩] w (TellB (bareB ⟨op, r, s, k, to, n⟩) w) := by
  have HW := hid (fun n w => gfields n w)
  have HF := hid hf
  by_cases hs : s = 0
  rotate_left
  · have EB : bareB ⟨op, r, s, k, to, n⟩ = false := by simp [bareB, hasR, hasS, hasK, hasT, hasN, hf, hs]
    have ds : (s == 0) = false := by simpa using hs
    clear hf  hs
    have HT : Hid (∀ o, TellB (bareB ⟨op, r, s, k, to, n⟩) w (.returned (.bool false)) (w.alloc o)) := fun o => ⟨by rw [EB], bl_alloc (Below.refl _ _)⟩
    clear EB
    go_enter Try.func44, Try.ntmps44
    go_wp2_with fail
    refine (HW.out _ _).mono ?_
    rintro e w1 ⟨rfl, rfl⟩
    rw [HF.out]
    clear HF HW
    go_wp2
    go_ret
    exact HT.out _
  by_cases hto : to = 0
  rotate_left
  · have EB : bareB ⟨op, r, s, k, to, n⟩ = false := by simp [bareB, hasR, hasS, hasK, hasT, hasN, hf, hs, hto]
    have ds : (s == 0) = true := by simpa using hs
    have dto : (to == 0) = false := by simpa using hto
    clear hf hs hto
    have HT : Hid (∀ o, TellB (bareB ⟨op, r, s, k, to, n⟩) w (.returned (.bool false)) (w.alloc o)) := fun o => ⟨by rw [EB], bl_alloc (Below.refl _ _)⟩
    clear EB
    go_enter Try.func44, Try.ntmps44
    go_wp2_with fail
    refine (HW.out _ _).mono ?_
    rintro e w1 ⟨rfl, rfl⟩
    rw [HF.out]
    clear HF HW
    go_wp2
    go_ret
    exact HT.out _
  by_cases hn : n = 0
  rotate_left
  · have EB : bareB ⟨op, r, s, k, to, n⟩ = false := by simp [bareB, hasR, hasS, hasK, hasT, hasN, hf, hs, hto, hn]
    have ds : (s == 0) = true := by simpa using hs
    have dto : (to == 0) = true := by simpa using hto
    have dn : (n == 0) = false := by simpa using hn
    clear hf hs hto hn
    have HT : Hid (∀ o, TellB (bareB ⟨op, r, s, k, to, n⟩) w (.returned (.bool false)) (w.alloc o)) := fun o => ⟨by rw [EB], bl_alloc (Below.refl _ _)⟩
    clear EB
    go_enter Try.func44, Try.ntmps44
    go_wp2_with fail
    refine (HW.out _ _).mono ?_
    rintro e w1 ⟨rfl, rfl⟩
    rw [HF.out]
    clear HF HW
    go_wp2
    go_ret
    exact HT.out _
  have EB : bareB ⟨op, r, s, k, to, n⟩ = true := by simp [bareB, hasR, hasS, hasK, hasT, hasN, hf, hs, hto, hn]
  have ds : (s == 0) = true := by simpa using hs
  have dto : (to == 0) = true := by simpa using hto
  have dn : (n == 0) = true := by simpa using hn
  clear hf hs hto hn
  have HT : Hid (∀ o, TellB (bareB ⟨op, r, s, k, to, n⟩) w (.returned (.bool true)) (w.alloc o)) := fun o => ⟨by rw [EB], bl_alloc (Below.refl _ _)⟩
  clear EB
  go_enter Try.func44, Try.ntmps44
  go_wp2_with fail
  refine (HW.out _ _).mono ?_
  rintro e w1 ⟨rfl, rfl⟩
  rw [HF.out]
  clear HF HW
  go_wp2
  go_ret
  exact HT.out _

set_option maxHeartbeats 4000000 in
set_option maxRecDepth 20000 in
theorem gbare0 (op r s k to n : Int) (hf : fieldsN op = 0) (w : World) : Calls Try.prog 44 #[InsD.v ⟨op, r, s, k, to, n⟩] w (TellB (bareB ⟨op, r, s, k, to, n⟩) w) := by
  have HW := hid (fun n w => gfields n w)
  have HF := hid hf
  by_cases hr : r = 0
  rotate_left
  · have EB : bareB ⟨op, r, s, k, to, n⟩ = false := by simp [bareB, hasR, hasS, hasK, hasT, hasN, hf, hr]
    have dr : (r == 0) = false := by simpa using hr
    clear hf  hr
    have HT : Hid (∀ o, TellB (bareB ⟨op, r, s, k, to, n⟩) w (.returned (.bool false)) (w.alloc o)) := fun o => ⟨by rw [EB], bl_alloc (Below.refl _ _)⟩
    clear EB
    go_enter Try.func44, Try.ntmps44
    go_wp2_with fail
    refine (HW.out _ _).mono ?_
    rintro e w1 ⟨rfl, rfl⟩
    rw [HF.out]
    clear HF HW
    go_wp2
    go_ret
    exact HT.out _
  by_cases hs : s = 0
  rotate_left
  · have EB : bareB ⟨op, r, s, k, to, n⟩ = false := by simp [bareB, hasR, hasS, hasK, hasT, hasN, hf, hr, hs]
    have dr : (r == 0) = true := by simpa using hr
    have ds : (s == 0) = false := by simpa using hs
    clear hf hr hs
    have HT : Hid (∀ o, TellB (bareB ⟨op, r, s, k, to, n⟩) w (.returned (.bool false)) (w.alloc o)) := fun o => ⟨by rw [EB], bl_alloc (Below.refl _ _)⟩
    clear EB
    go_enter Try.func44, Try.ntmps44
    go_wp2_with fail
    refine (HW.out _ _).mono ?_
    rintro e w1 ⟨rfl, rfl⟩
    rw [HF.out]
    clear HF HW
    go_wp2
    go_ret
    exact HT.out _
  by_cases hk : k = 0
  rotate_left
  · have EB : bareB ⟨op, r, s, k, to, n⟩ = false := by simp [bareB, hasR, hasS, hasK, hasT, hasN, hf, hr, hs, hk]
    have dr : (r == 0) = true := by simpa using hr
    have ds : (s == 0) = true := by simpa using hs
    have dk : (k == 0) = false := by simpa using hk
    clear hf hr hs hk
    have HT : Hid (∀ o, TellB (bareB ⟨op, r, s, k, to, n⟩) w (.returned (.bool false)) (w.alloc o)) := fun o => ⟨by rw [EB], bl_alloc (Below.refl _ _)⟩
    clear EB
    go_enter Try.func44, Try.ntmps44
    go_wp2_with fail
    refine (HW.out _ _).mono ?_
    rintro e w1 ⟨rfl, rfl⟩
    rw [HF.out]
    clear HF HW
    go_wp2
    go_ret
    exact HT.out _
  by_cases hto : to = 0
  rotate_left
  · have EB : bareB ⟨op, r, s, k, to, n⟩ = false := by simp [bareB, hasR, hasS, hasK, hasT, hasN, hf, hr, hs, hk, hto]
    have dr : (r == 0) = true := by simpa using hr
    have ds : (s == 0) = true := by simpa using hs
    have dk : (k == 0) = true := by simpa using hk
    have dto : (to == 0) = false := by simpa using hto
    clear hf hr hs hk hto
    have HT : Hid (∀ o, TellB (bareB ⟨op, r, s, k, to, n⟩) w (.returned (.bool false)) (w.alloc o)) := fun o => ⟨by rw [EB], bl_alloc (Below.refl _ _)⟩
    clear EB
    go_enter Try.func44, Try.ntmps44
    go_wp2_with fail
    refine (HW.out _ _).mono ?_
    rintro e w1 ⟨rfl, rfl⟩
    rw [HF.out]
    clear HF HW
    go_wp2
    go_ret
    exact HT.out _
  by_cases hn : n = 0
  rotate_left
  · have EB : bareB ⟨op, r, s, k, to, n⟩ = false := by simp [bareB, hasR, hasS, hasK, hasT, hasN, hf, hr, hs, hk, hto, hn]
    have dr : (r == 0) = true := by simpa using hr
    have ds : (s == 0) = true := by simpa using hs
    have dk : (k == 0) = true := by simpa using hk
    have dto : (to == 0) = true := by simpa using hto
    have dn : (n == 0) = false := by simpa using hn
    clear hf hr hs hk hto hn
    have HT : Hid (∀ o, TellB (bareB ⟨op, r, s, k, to, n⟩) w (.returned (.bool false)) (w.alloc o)) := fun o => ⟨by rw [EB], bl_alloc (Below.refl _ _)⟩
    clear EB
    go_enter Try.func44, Try.ntmps44
    go_wp2_with fail
    refine (HW.out _ _).mono ?_
    rintro e w1 ⟨rfl, rfl⟩
    rw [HF.out]
    clear HF HW
    go_wp2
    go_ret
    exact HT.out _
  have EB : bareB ⟨op, r, s, k, to, n⟩ = true := by simp [bareB, hasR, hasS, hasK, hasT, hasN, hf, hr, hs, hk, hto, hn]
  have dr : (r == 0) = true := by simpa using hr
  have ds : (s == 0) = true := by simpa using hs
  have dk : (k == 0) = true := by simpa using hk
  have dto : (to == 0) = true := by simpa using hto
  have dn : (n == 0) = true := by simpa using hn
  clear hf hr hs hk hto hn
  have HT : Hid (∀ o, TellB (bareB ⟨op, r, s, k, to, n⟩) w (.returned (.bool true)) (w.alloc o)) := fun o => ⟨by rw [EB], bl_alloc (Below.refl _ _)⟩
  clear EB
  go_enter Try.func44, Try.ntmps44
  go_wp2_with fail
  refine (HW.out _ _).mono ?_
  rintro e w1 ⟨rfl, rfl⟩
  rw [HF.out]
  clear HF HW
  go_wp2
  go_ret
  exact HT.out _

theorem gbare (x : InsD) (w : World) : Calls Try.prog 44 #[x.v] w (TellB (bareB x) w) := by
  obtain ⟨op, r, s, k, to, n⟩ := x
  rcases field_ways op with h | h | h | h | h | h | h | h | h | h
  · exact gbare17 op r s k to n h w
  · exact gbare3 op r s k to n h w
  · exact gbare7 op r s k to n h w
  · exact gbare1 op r s k to n h w
  · exact gbare23 op r s k to n h w
  · exact gbare25 op r s k to n h w
  · exact gbare11 op r s k to n h w
  · exact gbare8 op r s k to n h w
  · exact gbare5 op r s k to n h w
  · exact gbare0 op r s k to n h w

set_option maxHeartbeats 4000000 in
set_option maxRecDepth 20000 in
theorem gregs (x : InsD) (w : World) : Calls Try.prog 45 #[x.v] w (TellB (regsB x) w) := by
  obtain ⟨op, r, s, k, to, n⟩ := x
  have HW := hid (fun n w => gisReg n w)
  have HT : Hid (∀ o, TellB (regsB ⟨op, r, s, k, to, n⟩) w (.returned (.bool (regsB ⟨op, r, s, k, to, n⟩))) (w.alloc o)) := fun o => ⟨rfl, bl_alloc (Below.refl _ _)⟩
  unfold regsB at HT ⊢
  dsimp only [InsD.v] at HT ⊢
  generalize hR : inB r 0 9 = R at *
  have ER := hid hR
  clear hR
  cases R
  · rw [Bool.false_and] at HT ⊢
    go_enter Try.func45, Try.ntmps45
    go_wp2_with fail
    refine (HW.out _ _).mono ?_
    rintro e w1 ⟨rfl, rfl⟩
    rw [ER.out]
    go_wp2
    go_ret
    exact HT.out _
  · rw [Bool.true_and] at HT ⊢
    by_cases h : op = 13
    · subst h
      rw [decide_eq_true rfl, Bool.true_or] at HT ⊢
      go_enter Try.func45, Try.ntmps45
      go_wp2_with fail
      refine (HW.out _ _).mono ?_
      rintro e w1 ⟨rfl, rfl⟩
      rw [ER.out]
      go_wp2
      go_ret
      exact HT.out _
    · have d : (op == 13) = false := by simpa using h
      rw [decide_eq_false h, Bool.false_or] at HT ⊢
      clear h
      go_enter Try.func45, Try.ntmps45
      go_wp2_with fail
      refine (HW.out _ _).mono ?_
      rintro e w1 ⟨rfl, rfl⟩
      rw [ER.out]
      go_wp2_with fail
      refine (HW.out _ _).mono ?_
      rintro e w1 ⟨rfl, rfl⟩
      go_wp2
      go_ret
      exact HT.out _

set_option maxHeartbeats 4000000 in
set_option maxRecDepth 20000 in
theorem gform (x : InsD) (w : World) : Calls Try.prog 32 #[x.v] w (TellB (formB x) w) := by
  have HW := hid (fun n a b w => gwithin n a b w)
  have HB := hid (fun w => gbare x w)
  have HR := hid (fun w => gregs x w)
  have HT : Hid (∀ w', Below w.heap.size w w' → TellB (formB x) w (.returned (.bool (formB x))) w') := fun w' h => ⟨rfl, h⟩
  unfold formB at HT ⊢
  obtain ⟨op, r, s, k, to, n⟩ := x
  dsimp only [InsD.v] at HT HB HR ⊢
  generalize hA : inB op 1 18 = A at *
  generalize hB' : bareB ⟨op, r, s, k, to, n⟩ = B at *
  generalize hC : regsB ⟨op, r, s, k, to, n⟩ = C at *
  have EA := hid hA
  clear hA hB' hC
  obtain ⟨W1, hW1⟩ : ∃ W1, W1 = w.alloc (.cells #[.int .i64 op, .int .i64 r, .int .i64 s, .int .i64 k, .int .i64 to, .int .u64 n] 35) := ⟨_, rfl⟩
  obtain ⟨bx, hbx⟩ : ∃ b, b = w.heap.size := ⟨_, rfl⟩
  have b1 : Below w.heap.size w W1 := by rw [hW1]; exact bl_alloc (Below.refl _ _)
  have HC : Hid (∀ w', Below W1.heap.size W1 w' → w'.cell? ⟨bx, 0, none⟩ = some (.int .i64 op) ∧ w'.cell? ⟨bx, 1, none⟩ = some (.int .i64 r) ∧ w'.cell? ⟨bx, 2, none⟩ = some (.int .i64 s) ∧ w'.cell? ⟨bx, 3, none⟩ = some (.int .i64 k) ∧ w'.cell? ⟨bx, 4, none⟩ = some (.int .i64 to) ∧ w'.cell? ⟨bx, 5, none⟩ = some (.int .u64 n)) := fun w' hb => by
    rw [hbx]
    refine ⟨cell_keep ?_ hb, cell_keep ?_ hb, cell_keep ?_ hb, cell_keep ?_ hb, cell_keep ?_ hb, cell_keep ?_ hb⟩ <;> rw [hW1] <;> simp
  have H1 := hid b1
  have E1 := hid hW1
  have EX := hid hbx
  clear hW1 hbx b1
  cases A
  · rw [Bool.false_and, Bool.false_and, Bool.false_and] at HT ⊢
    clear HB HR HC
    go_enter Try.func32, Try.ntmps32
    go_wp2_with fail
    refine (HW.out _ _ _ _).mono ?_
    rintro e w1 ⟨rfl, rfl⟩
    rw [EA.out]
    go_wp2
    go_ret
    exact HT.out _ (bl_alloc (Below.refl _ _))
  · rw [Bool.true_and] at HT ⊢
    go_enter Try.func32, Try.ntmps32
    go_wp2_with fail
    rw [← E1.out, ← EX.out]
    refine (HW.out _ _ _ _).mono ?_
    rintro e w1 ⟨rfl, rfl⟩
    rw [EA.out]
    obtain ⟨c0, c1, c2, c3, c4, c5⟩ := HC.out _ (Below.refl _ _)
    clear EA E1 EX HW
    go_wp2_with fail
    refine (HB.out _).mono ?_
    rintro e w2 ⟨rfl, b2⟩
    obtain ⟨c0, c1, c2, c3, c4, c5⟩ := HC.out _ b2
    have H2 := hid (bl_step H1.out b2)
    have HT2 := hid (fun w' h => HT.out w' (bl_step H2.out h))
    have HC2 := hid (fun w' h => HC.out w' (bl_step b2 h))
    clear b2 HT HC HB H1 H2
    cases B
    · rw [Bool.false_and, Bool.false_and] at HT2 ⊢
      go_wp2
      go_ret
      exact HT2.out _ (Below.refl _ _)
    · rw [Bool.true_and] at HT2 ⊢
      go_wp2_with fail
      refine (HR.out _).mono ?_
      rintro e w3 ⟨rfl, b3⟩
      obtain ⟨c0, c1, c2, c3, c4, c5⟩ := HC2.out _ b3
      have HT3 := hid (HT2.out _ b3)
      clear b3 HT2 HC2 HR
      cases C
      · rw [Bool.false_and] at HT3 ⊢
        go_wp2
        go_ret
        exact HT3.out
      · rw [Bool.true_and] at HT3 ⊢
        go_wp2
        go_ret
        exact HT3.out
end Go.Proofs.Ytmohffibkpecpaa
