/- shuntyardlaw.wordBegun. -/
import Derived.Test.YtcdpmpcpgijebaaGPure
import Derived.Test.YtcdpmpcpgijebaaGSame
namespace Go.Proofs.Ytcdpmpcpgijebaa
open Go.RowKit

theorem GRowB.cap {B : Nat} {a : Option Addr} {c : Nat} {bs : List Int} {w : World} (h : GRowB B (.slice a bs.length c) bs w) : bs.length ≤ c ∧ c ≤ maxLen ∧ (a = none → c = 0) ∨ bs.length ≤ c ∧ bs.length = c := by
  rcases h with h | ⟨g, cur, f, e, _, hg, hc, _⟩
  · rcases h.2 with ⟨e, e2⟩ | ⟨g, cap, cur, e, _, _, h1, h2, _⟩
    · simp only [Value.slice.injEq] at e
      refine .inl ⟨by omega, by unfold maxLen; omega, fun _ => e.2.2⟩
    · simp only [Value.slice.injEq] at e
      exact .inl ⟨by omega, by omega, fun h => by rw [e.1] at h; cases h⟩
  · simp only [Value.slice.injEq, true_and] at e
    exact .inr ⟨by omega, e.2.symm⟩

theorem genc_byt {slots : Int} {ts : List ShapeD} {cs : List InsD} : GByt (gencL slots ts cs) := by
  intro x hx
  have tb : ∀ t, GByt (tabL t) := fun t y hy => by
    unfold tabL at hy
    rcases List.mem_append.1 hy with h | h
    · rcases List.mem_append.1 h with h | h
      · exact bigL_byt _ _ y h
      · exact bigL_byt _ _ y h
    · exact bigL_byt _ _ y h
  have ib : ∀ t, GByt (insL t) := fun t y hy => by
    unfold insL at hy
    rcases List.mem_append.1 hy with h | h
    · rcases List.mem_append.1 h with h | h
      · rcases List.mem_append.1 h with h | h
        · rcases List.mem_append.1 h with h | h
          · rcases List.mem_append.1 h with h | h
            · exact bigL_byt _ _ y h
            · exact bigL_byt _ _ y h
          · exact bigL_byt _ _ y h
        · exact bigL_byt _ _ y h
      · exact bigL_byt _ _ y h
    · exact bigL_byt _ _ y h
  unfold gencL progL at hx
  rcases List.mem_append.1 hx with h | h
  · simp only [List.mem_cons, List.not_mem_nil, or_false] at h
    rcases h with rfl | rfl | rfl <;> decide
  rcases List.mem_append.1 h with h | h
  · rcases List.mem_append.1 h with h | h
    · rcases List.mem_append.1 h with h | h
      · rcases List.mem_append.1 h with h | h
        · exact bigL_byt _ _ x h
        · exact bigL_byt _ _ x h
      · obtain ⟨t, _, ht⟩ := List.mem_flatMap.1 h
        exact tb t x ht
    · exact bigL_byt _ _ x h
  · obtain ⟨t, _, ht⟩ := List.mem_flatMap.1 h
    exact ib t x ht

set_option maxHeartbeats 2000000 in
set_option maxRecDepth 20000 in
theorem gbegun (w : World) : Calls Try.prog 6 #[] w (TellB true w) := by
  obtain ⟨W1, hW1⟩ : ∃ W1, W1 = w.alloc (.cells #[.int .i64 17, .int .i64 0, .int .i64 0, .int .i64 0, .int .i64 0, .int .u64 0] 47) := ⟨_, rfl⟩
  obtain ⟨g, hg⟩ : ∃ g, g = w.heap.size := ⟨_, rfl⟩
  have b1 : Below w.heap.size w W1 := by rw [hW1]; exact bl_alloc (Below.refl _ _)
  have ib : IBox ⟨17, 0, 0, 0, 0, 0⟩ W1 g := by rw [hW1, hg]; exact ibox_new ⟨17, 0, 0, 0, 0, 0⟩ w
  have hl : ProgD.lie ⟨0, ⟨none, 0, 0⟩, [], ⟨some ⟨g, 0, none⟩, 1, 1⟩, [⟨17, 0, 0, 0, 0, 0⟩]⟩ W1 := by
    refine ⟨(show gwfI 0 by decide), by simp [QSl.nil0], by simp [QSl.nil0], ⟨rfl, by simp⟩, rfl, fun i x hx => ?_⟩
    obtain ⟨rfl, rfl⟩ : i = 0 ∧ x = ⟨17, 0, 0, 0, 0, 0⟩ := by
      cases i with
      | zero => simp at hx; exact ⟨rfl, hx.symm⟩
      | succ i => simp at hx
    exact ⟨g, 0, rfl, ⟨ib.c0, by decide⟩, ⟨ib.c1, by decide⟩, ⟨ib.c2, by decide⟩, ⟨ib.c3, by decide⟩, ⟨ib.c4, by decide⟩, ⟨ib.c5, by decide⟩⟩
  have HEN := hid (gencode _ W1 hl ⟨Nat.zero_le _, show (1 : Nat) ≤ 65535 by decide⟩)
  have EC : (chkW 0 [] [⟨17, 0, 0, 0, 0, 0⟩]).1 = 0 := by decide
  have EL : gencL 0 [] [⟨17, 0, 0, 0, 0, 0⟩] = [83, 87, 1, 0, 0, 0, 1, 17, 0, 0, 0, 0, 0, 0, 0, 0, 0, 0, 0, 0, 0] := by decide
  have H1 := hid b1
  have EW := hid hW1
  have EG := hid hg
  have HENDS := hid (fun n w => gends n w)
  unfold GEncDone at HEN
  dsimp only [ProgD.v] at HEN
  rw [EL] at HEN
  have HC := hid EC
  clear EC EL hl ib b1 hW1 hg
  go_enter Try.func6, Try.ntmps6
  go_wp2_with fail
  rw [← EW.out, ← EG.out]
  refine HEN.out.mono ?_
  rintro e w2 (⟨hne, _⟩ | ⟨_, a, c, rfl, hrow, hb⟩)
  · exact absurd HC.out hne
  have hh := hrow.has (by intro x hx; simp only [List.mem_cons, List.not_mem_nil, or_false] at hx; omega)
  have B2 := hid (bl_step H1.out hb)
  obtain ⟨b, off, rfl, hbl, hcs⟩ := hh.some (by decide)
  have c7 := cell_keep (hcs 7 (by decide)) (bl_alloc (o := .cells #[.int .i64 0, .int .i64 0] 31) (Below.refl w2.heap.size w2))
  have c7' : (w2.alloc (.cells #[.int .i64 0, .int .i64 0] 31)).cell? ⟨b, off + 7, none⟩ = some (.int .u8 17) := c7
  clear c7 HEN EW EG hrow hb hh hcs H1 HC
  simp only [List.length_cons, List.length_nil]
  go_wp2_with fail
  refine (HENDS.out _ _).mono ?_
  rintro e w3 ⟨rfl, rfl⟩
  rw [show endsB 17 = true from rfl]
  go_wp2_with fail
  refine (HENDS.out _ _).mono ?_
  rintro e w3 ⟨rfl, rfl⟩
  rw [show endsB 1 = false from rfl]
  go_wp2
  go_ret
  exact ⟨rfl, bl_alloc B2.out⟩
end Go.Proofs.Ytcdpmpcpgijebaa
