/- The document's NewStore, as far as a packet's way asks: it ends, and nothing old turns. -/
import Derived.Test.YtcmdgbfppbkfmaaVYEnd
namespace Go.Proofs.Ytcmdgbfppbkfmaa
open Go.RowKit

set_option maxHeartbeats 4000000 in
set_option maxRecDepth 20000 in
theorem newStore_any (kind cap dflt : Int) (keys acts args : QSl) (wa aa : Option Addr) (wn wc an ac : Nat) (ws : List Int) (w : World) (hw : Has .i64 w wa wn ws) (hk : kind = 2 → 0 < wn) (hn : wn ≤ 100000) :
    Calls Try.prog 14 #[.agg #[.int .i64 kind, .slice keys.a keys.n keys.c, .slice acts.a acts.n acts.c, .int .i64 cap, .int .i64 dflt, .slice args.a args.n args.c], .slice wa wn wc, .slice aa an ac] w fun e w' => ∃ g, e = .returned (.pointer (some ⟨g, 0, none⟩)) ∧ Below w.heap.size w w' := by
  by_cases h2 : kind = 2
  · have h0 := hk h2
    obtain ⟨b, o, rfl, hl, hc⟩ := hw.some h0
    have c0 := hc 0 h0
    have hb0 : b ≠ w.heap.size := by have := World.block_lt_of_cell? _ _ c0; simp at this; omega
    subst h2
    have hi : (0 : Int) < (wn : Int) := by omega
    rw [Nat.add_zero] at c0
    generalize ws.getD 0 0 = z at c0
    clear hw hc hk
    go_enter Try.func14, Try.ntmps14
    go_wp2
    go_ret
    exact ⟨_, rfl, bl_alloc (bl_alloc (Below.refl _ _))⟩
  · have h2' : (kind == 2) = false := by rw [beq_eq_false_iff_ne]; exact h2
    clear hw hk h2
    go_enter Try.func14, Try.ntmps14
    go_wp2
    go_ret
    exact ⟨_, rfl, bl_alloc (bl_alloc (Below.refl _ _))⟩

end Go.Proofs.Ytcmdgbfppbkfmaa
