/- What prefixBegun does. -/
import Derived.Test.YtlnkfgdepddmlacTAll
import Derived.Test.YtlnkfgdepddmlacLOne
namespace Go.Proofs.Ytlnkfgdepddmlac
open Go.RowKit Mth

theorem says_act (w : World) (x : Int) : Says w (.agg #[.int .i64 x, .slice none 0 0]) (x, []) := ⟨none, 0, 0, rfl, fun _ => ⟨rfl, rfl⟩, by omega, has_nil _ _⟩

def C1 : Told2 := upC (fun _ _ => none) 1 1 (some (1, []))
def C2 : Told2 := upC C1 2 3 (some (2, []))

theorem code1 : addCode (fun _ _ => none) [] 8 4 128 1 = 0 := by decide
theorem addC1 : addC (fun _ _ => none) [] 8 4 128 1 (1, []) = C1 := by unfold addC; rw [if_pos code1]; rfl
theorem addE1 : addE (fun _ _ => none) [] 8 4 128 1 = [(1, 1)] := by unfold addE; rw [if_pos code1]; rfl
theorem code2 : addCode C1 [(1, 1)] 8 4 192 2 = 0 := by decide
theorem addC2 : addC C1 [(1, 1)] 8 4 192 2 (2, []) = C2 := by unfold addC; rw [if_pos code2]; rfl
theorem found1 : foundIn C2 8 255 = some ((2, []), 2) := by decide
theorem found2 : foundIn C2 8 129 = some ((1, []), 1) := by decide

set_option maxHeartbeats 1000000 in
set_option maxRecDepth 20000 in
theorem prefix_begun (w : World) : Calls Try.prog 7 #[] w fun e w' => e = .returned (.bool true) ∧ Below w.heap.size w w' := by
  go_enter Try.func7, Try.ntmps7
  go_wp2_with fail
  refine (new_any 8 4 _ w.heap.size (Nat.le_refl _)).mono ?_
  rintro e w1 ⟨rfl, t1, hb1⟩
  have T1 := hid t1
  have B1 := hid hb1
  clear t1 hb1
  go_wp2_with fail
  refine (add_any (key := 128) (n := 1) T1.out (by omega) (says_act _ 1) (by simp)).mono ?_
  rintro e w2 ⟨rfl, tt⟩
  rw [addC1, addE1] at tt
  rw [code1]
  have T2 := hid tt.t
  have B2 := hid (B1.out.trans tt.bel)
  clear tt T1 B1
  go_wp2_with fail
  refine (add_any (key := 192) (n := 2) T2.out (by omega) (says_act _ 2) (by simp)).mono ?_
  rintro e w3 ⟨rfl, tt⟩
  rw [addC2] at tt
  rw [code2]
  have T3 := hid tt.t
  have B3 := hid (B2.out.trans tt.bel)
  clear tt T2 B2
  go_wp2_with fail
  refine (find_any (key := 255) T3.out (by omega)).mono ?_
  rintro e w4 ⟨v, rfl, hs, hb4⟩
  rw [found1] at hs ⊢
  simp only [Option.getD_some, Option.isSome_some] at hs ⊢
  obtain ⟨a, n, c, rfl, _⟩ := hs
  have T4 := hid ((T3.out.step hb4).step (bl_alloc (o := HC 2 a n c) (Below.refl w4.heap.size w4)))
  have B4 := hid (bl_alloc (o := HC 2 a n c) (B3.out.trans (hb4.mono B3.out.size)))
  clear hb4 T3 B3
  go_wp2_with fail
  refine (find_any (key := 129) T4.out (by omega)).mono ?_
  rintro e w5 ⟨v, rfl, hs, hb5⟩
  rw [found2] at hs ⊢
  simp only [Option.getD_some, Option.isSome_some] at hs ⊢
  obtain ⟨a', n', c', rfl, _⟩ := hs
  have B5 := hid (bl_alloc (o := HC 1 a' n' c') (B4.out.trans (hb5.mono B4.out.size)))
  have l5 : w4.heap.size < w5.heap.size := by have := hb5.size; simp at this; omega
  have q0 : w5.cell? ⟨w4.heap.size, 0, none⟩ = some (.int .i64 2) := (hb5.cell (p := ⟨w4.heap.size, 0, none⟩) (by simp)).trans (new_two w4 _ _ _).1
  clear hb5 T4 B4
  go_wp2
  go_ret
  exact ⟨rfl, B5.out⟩
end Go.Proofs.Ytlnkfgdepddmlac
