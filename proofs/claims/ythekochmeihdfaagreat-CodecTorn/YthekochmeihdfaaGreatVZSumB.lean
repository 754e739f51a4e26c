/- codec.sumBytes: the four bytes of a sum. -/
import Derived.Test.YthekochmeihdfaaGreatJ6
import Derived.Test.YthekochmeihdfaaGreatVQDup1
namespace Go.Proofs.YthekochmeihdfaaGreat
open Go.RowKit

theorem four_take (s j : Nat) (hj : j < 4) : (Mth.four s).take (j + 1) = (Mth.four s).take j ++ [((s / 256 ^ j % 256 : Nat) : Int)] := by
  rcases (show j = 0 ∨ j = 1 ∨ j = 2 ∨ j = 3 by omega) with rfl | rfl | rfl | rfl <;> simp [Mth.four]

theorem four_byt (s : Nat) : Mth.Byt (Mth.four s) := by
  intro x hx
  simp only [Mth.four, List.mem_cons, List.not_mem_nil, or_false] at hx
  rcases hx with rfl | rfl | rfl | rfl <;> omega

theorem bytes_byt {zs : List Int} (h : Mth.Byt zs) : Mth.Bytes zs := fun i => by
  by_cases hi : i < zs.length
  · rw [List.getD_eq_getElem?_getD, List.getElem?_eq_getElem hi, Option.getD_some]
    exact h _ (List.getElem_mem hi)
  · simp [List.getD_eq_getElem?_getD, List.getElem?_eq_none (Nat.le_of_not_lt hi)]

theorem wrap8 (s : Nat) : IntKind.u8.wrap (s : Int) = ((s % 256 : Nat) : Int) := by
  simp [IntKind.wrap, IntKind.bits, IntKind.signed]

def SumDone (w : World) (zs : List Int) (e : Ending) (w' : World) : Prop := ∃ a c, e = .returned (.slice a 4 c) ∧ Has .u8 w' a 4 (Mth.four (Mth.crc zs)) ∧ Below w.heap.size w w'

set_option maxHeartbeats 4000000 in
set_option maxRecDepth 20000 in
theorem sumBytes_any (a : Option Addr) (n c : Nat) (zs : List Int) (w : World) (hn : n ≤ 10000000) (hz : Has .u8 w a n zs) :
    Calls Tryz.prog 22 #[.slice a n c] w (SumDone w zs) := by
  have HS := hid (sum_any a n c zs w hn hz)
  have hlt := Mth.crc_lt zs
  have HD : Hid (∀ a c w', Has .u8 w' a 4 (Mth.four (Mth.crc zs)) → Below w.heap.size w w' → SumDone w zs (.returned (.slice a 4 c)) w') := fun a c w' h1 h2 => ⟨a, c, rfl, h1, h2⟩
  generalize Mth.crc zs = s at *
  clear hz hn
  go_enter Tryz.func22, Tryz.ntmps22
  go_wp2_with fail
  refine HS.out.mono ?_
  rintro e w1 ⟨rfl, rfl⟩
  clear HS
  go_wp2
  go_loopw [7, 3, 4] (fun q t o wr => ∃ (j : Nat) (oa : Option Addr) (oc : Nat), j ≤ 4 ∧ q = .int .i64 j ∧ t = .int .u32 ((s / 256 ^ j : Nat) : Int) ∧ o = .slice oa j oc ∧ Hid (wr.ownsRow w1.heap.size 5 1 (.slice oa j oc) j (BB ((Mth.four s).take j))) ∧ Hid (Below w1.heap.size w1 wr)) (fun q _ _ _ => 4 - (intOf q).toNat)
  case atStart => exact ⟨0, none, 0, Nat.zero_le _, rfl, by simp, rfl, World.ownsRow_nil _ _ _ _, Below.refl _ _⟩
  case round =>
    obtain ⟨j, oa, oc, hj, rfl, rfl, rfl, HO, HB⟩ := hrel
    by_cases hlj : j < 4
    · have hji : (j : Int) < 4 := by omega
      have HTK := hid (four_take s j hlj)
      have hdiv : s / 256 ^ (j + 1) = s / 256 ^ j / 256 := by rw [Nat.pow_succ, Nat.div_div_eq_div_mul]
      have HDV := hid hdiv
      have hr : s / 256 ^ j < 4294967296 := Nat.lt_of_le_of_lt (Nat.div_le_self _ _) hlt
      generalize s / 256 ^ j = r at *
      have hw8 := wrap8 r
      have BB1 : Hid (Below wr.heap.size wr (wr.alloc (.cells #[.int .u8 ((r % 256 : Nat) : Int)] 5))) := bl_alloc (Below.refl _ _)
      obtain ⟨g6, cap6, w6, hrun6, ho6, hg6, hn6⟩ := run_appK (w := wr.alloc (.cells #[.int .u8 ((r % 256 : Nat) : Int)] 5)) (ad := ⟨wr.heap.size, 0, none⟩) (m := 1) (c := 1) (news := [.int .u8 ((r % 256 : Nat) : Int)]) 30 Tryz.underlying30 Tryz.info5 rfl (by decide) (owns_belowK HO.out BB1.out) rfl src_of (by intro u hu; simp only [List.mem_cons, List.not_mem_nil, or_false] at hu; subst hu; rfl) (by decide) (by unfold maxLen; omega) (by omega) (by have := HB.out.size; have := BB1.out.size; omega)
      have RN : Hid (w6.ownsRow w1.heap.size 5 1 (.slice (some ⟨g6, 0, none⟩) (j + 1) cap6) (j + 1) (BB ((Mth.four s).take (j + 1)))) := by
        rw [HTK.out]
        show w6.ownsRow w1.heap.size 5 1 (.slice (some ⟨g6, 0, none⟩) (j + 1) cap6) (j + 1) (BB ((Mth.four s).take j ++ [((r % 256 : Nat) : Int)]))
        rw [show BB ((Mth.four s).take j ++ [((r % 256 : Nat) : Int)]) = BB ((Mth.four s).take j) ++ [.int .u8 ((r % 256 : Nat) : Int)] by simp [BB]]
        exact ho6
      have RB : Hid (Below w1.heap.size w1 w6) := (bl_alloc HB.out).grown hg6 (Nat.le_trans HB.out.size BB1.out.size) fun k hk => (HO.out.lt k hk).1
      clear ho6 hg6 hn6 HO HB BB1 HTK hdiv
      go_wp2_with (at_builtin; refine append_run rfl _ _ rfl rfl rfl hrun6 ?_)
      go_roundw
      case rel => exact ⟨j + 1, _, _, by omega, by go_num, vint (by rw [HDV.out]; omega), rfl, RN, RB⟩
      case measure => simp [intOf]; omega
    · have ej : j = 4 := by omega
      subst ej
      have hh := has_of_owns8 HO.out (bytes_byt (fun x hx => four_byt s x (List.mem_of_mem_take hx)))
      obtain ⟨_, _, e4, hh⟩ := hh
      simp only [Value.slice.injEq, true_and] at e4
      obtain ⟨rfl, rfl⟩ := e4
      have HE := hid (HD.out oa oc wr hh HB.out)
      clear hh HO HB
      go_wp2
      go_ret
      exact HE.out
end Go.Proofs.YthekochmeihdfaaGreat
