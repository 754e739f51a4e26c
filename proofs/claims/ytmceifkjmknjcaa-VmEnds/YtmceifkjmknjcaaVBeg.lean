/- shuntyardref.SameResult; shuntyardlaw.vmBegun. -/
import Derived.Test.YtmceifkjmknjcaaVMach
import Derived.Test.YtmceifkjmknjcaaSame
import Derived.Test.YtmceifkjmknjcaaGSame
namespace Go.Proofs.Ytmceifkjmknjcaa
open Go.RowKit

set_option maxHeartbeats 4000000 in
set_option maxRecDepth 20000 in
theorem vsame_result {w : World} {a b : Option Addr} {len : Nat} {zs : List Int} (port : Int) (c e : Nat) (ha : Has .u8 w a len zs) (hb : Has .u8 w b len zs) :
    Calls Try.prog 7 #[.agg #[.int .i64 port, .slice a len c], .agg #[.int .i64 port, .slice b len e]] w (TellB true w) := by
  have HC : Hid (∀ w', Below w.heap.size w w' → Calls Try.prog 10 #[.slice a len c, .slice b len e] w' fun q w'' => q = .returned (.bool true) ∧ w'' = w') := fun w' h => same_bytes c e (ha.step h) (hb.step h)
  clear ha hb
  go_enter Try.func7, Try.ntmps7
  go_wp2_with fail
  refine (HC.out _ (bl_alloc (bl_alloc (Below.refl _ _)))).mono ?_
  rintro q w1 ⟨rfl, rfl⟩
  clear HC
  go_wp2
  go_ret
  exact ⟨rfl, bl_alloc (bl_alloc (Below.refl _ _))⟩

def noCall (m : MD) (_ : InsD) : Int × MD := (0, m)

@[reducible] def begD (g : Nat) : ProgD := ⟨0, ⟨none, 0, 0⟩, [], ⟨some ⟨g, 0, none⟩, 2, 2⟩, [⟨1, 0, 0, 0, 0, 5⟩, ⟨16, 0, 0, 0, 0, 0⟩]⟩

theorem beg_run (g h : Nat) : runV ⟨⟨none, 0, 0⟩, ⟨none, 0, 0⟩, ⟨some ⟨h, 0, none⟩, 1, 1⟩, [1], (2 : Int).toNat⟩ (begD g) noCall true 2 = ⟨0, 0, 2, 5, []⟩ := by
  have e : startV (begD g) true 1 2 = (0, 0) := rfl
  unfold runV
  dsimp only
  rw [e, if_neg (by decide)]
  rfl

set_option maxHeartbeats 4000000 in
set_option maxRecDepth 20000 in
theorem vbegun (w : World) : Calls Try.prog 4 #[] w (TellB true w) := by
  obtain ⟨W1, hW1⟩ : ∃ W1, W1 = w.alloc (.cells #[.int .i64 1, .int .i64 0, .int .i64 0, .int .i64 0, .int .i64 0, .int .u64 5, .int .i64 16, .int .i64 0, .int .i64 0, .int .i64 0, .int .i64 0, .int .u64 0] 40) := ⟨_, rfl⟩
  obtain ⟨W2, hW2⟩ : ∃ W2, W2 = W1.alloc (.cells #[.int .u8 1] 5) := ⟨_, rfl⟩
  obtain ⟨g, hg⟩ : ∃ g, g = w.heap.size := ⟨_, rfl⟩
  obtain ⟨h, hh⟩ : ∃ h, h = w.heap.size + 1 := ⟨_, rfl⟩
  have b1 : Below w.heap.size w W1 := by rw [hW1]; exact bl_alloc (Below.refl _ _)
  have b2 : Below W1.heap.size W1 W2 := by rw [hW2]; exact bl_alloc (Below.refl _ _)
  have hc : ∀ o v, (#[.int .i64 1, .int .i64 0, .int .i64 0, .int .i64 0, .int .i64 0, .int .u64 5, .int .i64 16, .int .i64 0, .int .i64 0, .int .i64 0, .int .i64 0, .int .u64 0] : Array Value)[o]? = some v → W2.cell? ⟨g, o, none⟩ = some v := fun o v hv => by
    refine cell_keep ?_ b2
    rw [hW1, hg]
    unfold World.cell?
    dsimp only
    rw [heap_alloc_new]
    exact hv
  have hl : (begD g).lie W2 := by
    refine ⟨(show gwfI 0 by decide), by simp [QSl.nil0], by simp [QSl.nil0], ⟨rfl, by simp⟩, rfl, fun i x hx => ?_⟩
    match i, hx with
    | 0, hx =>
      simp only [List.getElem?_cons_zero, Option.some.injEq] at hx
      subst hx
      exact ⟨g, 0, rfl, ⟨hc _ _ rfl, by decide⟩, ⟨hc _ _ rfl, by decide⟩, ⟨hc _ _ rfl, by decide⟩, ⟨hc _ _ rfl, by decide⟩, ⟨hc _ _ rfl, by decide⟩, ⟨hc _ _ rfl, by decide⟩⟩
    | 1, hx =>
      simp only [List.getElem?_cons_succ, List.getElem?_cons_zero, Option.some.injEq] at hx
      subst hx
      exact ⟨g, 0, rfl, ⟨hc _ _ rfl, by decide⟩, ⟨hc _ _ rfl, by decide⟩, ⟨hc _ _ rfl, by decide⟩, ⟨hc _ _ rfl, by decide⟩, ⟨hc _ _ rfl, by decide⟩, ⟨hc _ _ rfl, by decide⟩⟩
    | i + 2, hx => simp at hx
  have hp : Has .u8 W2 (some ⟨h, 0, none⟩) 1 [1] := by
    refine ⟨rfl, by intro y hy; simp only [List.mem_cons, List.not_mem_nil, or_false] at hy; rw [hy]; decide, .inr ⟨h, 0, rfl, ?_, fun i hi => ?_⟩⟩
    · rw [hW2, hh, hW1]; simp
    · obtain rfl : i = 0 := by omega
      rw [hW2, hh, hW1]; simp
  have HR := hid (vRun (begD g) noCall ⟨none, 0, 0⟩ ⟨some ⟨h, 0, none⟩, 1, 1⟩ [1] true 2 W2 hl ⟨Nat.zero_le _, show (2 : Nat) ≤ 65535 by decide⟩ hp (by simp [QSl.nil0]) (Nat.le_refl _) (fun w' _ => vshapes_nil none 0 0 w') (fun _ h0 => (vfit (lie_wfs hl) h0).2 rfl))
  rw [beg_run] at HR
  dsimp only [ProgD.v] at HR
  have HB := hid (bl_step b1 b2)
  have EW1 := hid hW1
  have EW2 := hid hW2
  have EG := hid hg
  have EH := hid hh
  clear hW1 hW2 hg hh b1 b2 hc hl hp
  go_enter Try.func4, Try.ntmps4
  go_wp2_with fail
  rw [← EW1.out, ← EH.out, ← EG.out, ← EW2.out]
  refine HR.out.mono ?_
  rintro e w3 ⟨v, rfl, ⟨a, c, rfl, ha, _, _⟩, hb3⟩
  dsimp only [List.length_nil] at ha ⊢
  have HA : Hid (∀ w', Below w3.heap.size w3 w' → Calls Try.prog 7 #[.agg #[.int .i64 5, .slice a 0 c], .agg #[.int .i64 5, .slice none 0 0]] w' (TellB true w')) := fun w' hb => vsame_result 5 c 0 (ha.step hb) (has_nil _ _)
  have HB3 := hid (bl_step HB.out hb3)
  clear ha hb3 HR HB EW1 EW2 EG EH
  go_wp2_with fail
  refine (HA.out _ (bl_alloc (bl_alloc (Below.refl _ _)))).mono ?_
  rintro e w4 ⟨rfl, hb4⟩
  have HB4 := hid (bl_step (bl_alloc (bl_alloc HB3.out)) hb4)
  clear hb4 HA HB3
  go_wp2
  go_ret
  exact ⟨rfl, HB4.out⟩
end Go.Proofs.Ytmceifkjmknjcaa
