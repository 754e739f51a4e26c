/- The store's small functions, behind a plan's tables: isKind, mostKeys, within, areNarrow. -/
import Derived.Test.YtajelgjbgehahaaGreatVQCase
namespace Go.Proofs.YtajelgjbgehahaaGreat
open Go.RowKit

def isK (kind : Int) : Bool := decide (kind = 1 ∨ kind = 2 ∨ kind = 3)
def mostK (kind : Int) : Int := if kind = 2 then 1 else 3

set_option maxHeartbeats 1000000 in
set_option maxRecDepth 20000 in
theorem qkind_any (x : Int) (w : World) : Calls Tryz.prog 57 #[.int .i64 x] w fun e w' => e = .returned (.bool (isK x)) ∧ w' = w := by
  by_cases h1 : x = 1
  · subst h1
    go_enter Tryz.func57, Tryz.ntmps57
    go_wp2
    go_ret
    exact ⟨rfl, rfl⟩
  have e1 : (x == 1) = false := by simpa using h1
  by_cases h2 : x = 2
  · subst h2
    go_enter Tryz.func57, Tryz.ntmps57
    go_wp2
    go_ret
    exact ⟨rfl, rfl⟩
  have e2 : (x == 2) = false := by simpa using h2
  by_cases h3 : x = 3
  · subst h3
    go_enter Tryz.func57, Tryz.ntmps57
    go_wp2
    go_ret
    exact ⟨rfl, rfl⟩
  have e3 : (x == 3) = false := by simpa using h3
  have HR : Hid (isK x = false) := decide_eq_false (fun h => h.elim h1 (fun h => h.elim h2 h3))
  go_enter Tryz.func57, Tryz.ntmps57
  go_wp2
  go_ret
  exact ⟨by rw [HR.out]; rfl, rfl⟩

set_option maxHeartbeats 1000000 in
set_option maxRecDepth 20000 in
theorem qmost_any (x : Int) (w : World) : Calls Tryz.prog 59 #[.int .i64 x] w fun e w' => e = .returned (.int .i64 (mostK x)) ∧ w' = w := by
  by_cases h2 : x = 2
  · subst h2
    go_enter Tryz.func59, Tryz.ntmps59
    go_wp2
    go_ret
    exact ⟨rfl, rfl⟩
  · have e2 : (x == 2) = false := by simpa using h2
    have HR : Hid (mostK x = 3) := if_neg h2
    go_enter Tryz.func59, Tryz.ntmps59
    go_wp2
    go_ret
    exact ⟨by rw [HR.out]; rfl, rfl⟩

/-- all from low to high -/
def InC (low high : Int) (L : List Int) : Bool := L.all fun x => decide (low ≤ x ∧ x ≤ high)

theorem int_at' {w : World} {a : Option Addr} {n : Nat} {L : List Int} (h : Has .i64 w a n L) {k : Nat} (hk : k < n) : ∃ g off x, a = some ⟨g, off, none⟩ ∧ L[k]? = some x ∧ w.cell? ⟨g, off + k, none⟩ = some (.int .i64 x) := by
  obtain ⟨g, off, e, _, hc⟩ := h.some (by omega)
  have hk' : k < L.length := by rw [h.1]; exact hk
  have := hc k hk
  rw [List.getD_eq_getElem?_getD, List.getElem?_eq_getElem hk', Option.getD_some] at this
  exact ⟨g, off, _, e, List.getElem?_eq_getElem hk', this⟩

theorem num_at' {w : World} {a : Option Addr} {n : Nat} {L : List Int} (h : Has .u64 w a n L) {k : Nat} (hk : k < n) : ∃ g off x, a = some ⟨g, off, none⟩ ∧ L[k]? = some x ∧ w.cell? ⟨g, off + k, none⟩ = some (.int .u64 x) := by
  obtain ⟨g, off, e, _, hc⟩ := h.some (by omega)
  have hk' : k < L.length := by rw [h.1]; exact hk
  have := hc k hk
  rw [List.getD_eq_getElem?_getD, List.getElem?_eq_getElem hk', Option.getD_some] at this
  exact ⟨g, off, _, e, List.getElem?_eq_getElem hk', this⟩

set_option maxHeartbeats 2000000 in
set_option maxRecDepth 20000 in
theorem qwithin_any (low high : Int) (a : Option Addr) (n c : Nat) (L : List Int) (w : World) (hn : n ≤ 100000) (hL : Has .i64 w a n L) :
    Calls Tryz.prog 58 #[.int .i64 low, .int .i64 high, .slice a n c] w fun e w' => e = .returned (.bool (InC low high L)) ∧ w' = w := by
  have HL := hid hL
  have HN := hid hL.1
  clear hL
  go_enter Tryz.func58, Tryz.ntmps58
  go_wp2
  go_loop [11, 8] (fun q _ => ∃ k : Nat, k ≤ n ∧ q = .int .i64 k ∧ Hid (InC low high L = InC low high (L.drop k))) (fun q _ => n - (intOf q).toNat)
  case atStart => exact ⟨0, Nat.zero_le _, rfl, rfl⟩
  case round =>
    obtain ⟨k, hk, rfl, hz⟩ := hrel
    by_cases hlt : k < n
    · obtain ⟨g, off, y, ea', hy, r0⟩ := int_at' HL.out hlt
      subst ea'
      have hki : (k : Int) < (n : Int) := by omega
      have hst : InC low high (L.drop k) = (decide (low ≤ y ∧ y ≤ high) && InC low high (L.drop (k + 1))) := by
        obtain ⟨hk', e⟩ := List.getElem?_eq_some_iff.1 hy
        rw [List.drop_eq_getElem_cons hk', e]
        rfl
      clear hy
      by_cases h1 : y < low
      · have d1 := decide_eq_true h1
        have HR : Hid (InC low high L = false) := by show _ = _; rw [hz.out, hst, decide_eq_false (by omega)]; rfl
        clear hst hz
        go_wp2
        go_ret
        exact ⟨by rw [HR.out]; rfl, rfl⟩
      have d1 := decide_eq_false h1
      by_cases h2 : high < y
      · have d2 := decide_eq_true h2
        have HR : Hid (InC low high L = false) := by show _ = _; rw [hz.out, hst, decide_eq_false (by omega)]; rfl
        clear hst hz
        go_wp2
        go_ret
        exact ⟨by rw [HR.out]; rfl, rfl⟩
      · have d2 := decide_eq_false h2
        have HG : Hid (InC low high L = InC low high (L.drop (k + 1))) := by show _ = _; rw [hz.out, hst, decide_eq_true (by omega)]; rfl
        clear hst hz
        go_wp2
        go_round
        case rel => exact ⟨k + 1, by omega, by go_num, HG⟩
        case measure => simp [intOf]; omega
    · have ek : k = n := by omega
      have HR : Hid (InC low high L = true) := by show _ = _; rw [hz.out, ek, ← HN.out, List.drop_length]; rfl
      clear hz
      subst ek
      go_wp2
      go_ret
      exact ⟨by rw [HR.out]; rfl, rfl⟩

/-- no number needs more bits than its width -/
def NarC : List Int → List Int → Bool
  | x :: l, y :: ws => decide (blen x ≤ y) && NarC l ws
  | _, _ => true

theorem nar_drop {l ws : List Int} {k : Nat} {x y : Int} (hx : l[k]? = some x) (hy : ws[k]? = some y) : NarC (l.drop k) (ws.drop k) = (decide (blen x ≤ y) && NarC (l.drop (k + 1)) (ws.drop (k + 1))) := by
  obtain ⟨h1, e1⟩ := List.getElem?_eq_some_iff.1 hx
  obtain ⟨h2, e2⟩ := List.getElem?_eq_some_iff.1 hy
  rw [List.drop_eq_getElem_cons h1, List.drop_eq_getElem_cons h2, e1, e2]
  rfl

set_option maxHeartbeats 4000000 in
set_option maxRecDepth 20000 in
theorem qnarrow_any (a b : Option Addr) (n m c d : Nat) (l ws : List Int) (w : World) (hnm : n ≤ m) (hn : n ≤ 100000) (ha : Has .u64 w a n l) (hb : Has .i64 w b m ws) :
    Calls Tryz.prog 80 #[.slice a n c, .slice b m d] w fun e w' => e = .returned (.bool (NarC l ws)) ∧ Below w.heap.size w w' := by
  have HA := hid ha
  have HB := hid hb
  have HN := hid ha.1
  have HNU := hid ha.nums
  have HB0 : Hid (Below w.heap.size w w) := Below.refl _ _
  clear ha hb
  go_enter Tryz.func80, Tryz.ntmps80
  go_wp2
  go_loopw [9, 5, 6] (fun q _ _ wr => ∃ k : Nat, k ≤ n ∧ q = .int .i64 k ∧ Hid (NarC l ws = NarC (l.drop k) (ws.drop k)) ∧ Hid (Below w.heap.size w wr)) (fun q _ _ _ => n - (intOf q).toNat)
  case atStart => exact ⟨0, Nat.zero_le _, rfl, rfl, HB0⟩
  case round =>
    obtain ⟨k, hk, rfl, hz, hwr⟩ := hrel
    clear HB0
    by_cases hlt : k < n
    · obtain ⟨g, off, x, ea', hx, r0⟩ := num_at' (HA.out.step hwr.out) hlt
      obtain ⟨g2, off2, y, eb', hy, r1⟩ := int_at' (HB.out.step hwr.out) (show k < m by omega)
      subst ea' eb'
      have hki : (k : Int) < (n : Int) := by omega
      have hkm : (k : Int) < (m : Int) := by omega
      have hst := nar_drop hx hy
      have hx64 := HNU.out x (List.mem_of_getElem? hx)
      have r1' := cell_by r1
      have HLEN : Hid (∀ w', Calls Tryz.prog 111 #[.int .u64 x] w' fun e w'' => e = .returned (.int .i64 (blen x)) ∧ w'' = w') := fun w' => len64_any x w' hx64.1 hx64.2
      clear hx hy hx64
      generalize blen x = L at *
      by_cases h1 : y < L
      · have d1 := decide_eq_true h1
        have HR : Hid (NarC l ws = false) := by show _ = _; rw [hz.out, hst, decide_eq_false (by omega)]; rfl
        clear hst hz
        go_wp2_with fail
        haveI inhB : ∀ w : World, Inhabited (BelowBy w) := fun w => ⟨⟨w, Below.refl _ _⟩⟩
        refine wp_region_quiet_below (by kernel_rfl) (by kernel_rfl) ?_
        repeat (go_big_quiet_step (first | (go_at_call 111; exact calls_same _ (HLEN.out _))))
        refine wpQuiet_nil ?_
        intro wq hw'
        obtain ⟨⟨_, hwq⟩, hw''⟩ := hw'
        subst hw''
        have HE := hid (bl_step hwr.out hwq)
        clear hwq HLEN r1'
        go_wp2
        go_ret
        exact ⟨by rw [HR.out]; rfl, HE.out⟩
      · have d1 := decide_eq_false h1
        have HG : Hid (NarC l ws = NarC (l.drop (k + 1)) (ws.drop (k + 1))) := by show _ = _; rw [hz.out, hst, decide_eq_true (by omega)]; rfl
        clear hst hz
        go_wp2_with fail
        haveI inhB : ∀ w : World, Inhabited (BelowBy w) := fun w => ⟨⟨w, Below.refl _ _⟩⟩
        refine wp_region_quiet_below (by kernel_rfl) (by kernel_rfl) ?_
        repeat (go_big_quiet_step (first | (go_at_call 111; exact calls_same _ (HLEN.out _))))
        refine wpQuiet_nil ?_
        intro wq hw'
        obtain ⟨⟨_, hwq⟩, hw''⟩ := hw'
        subst hw''
        have HE := hid (bl_step hwr.out hwq)
        clear hwq HLEN r1' r0 r1 hwr
        go_wp2
        go_roundw
        case rel => exact ⟨k + 1, by omega, by go_num, HG, HE⟩
        case measure => simp [intOf]; omega
    · have ek : k = n := by omega
      have HR : Hid (NarC l ws = true) := by
        show _ = _
        rw [hz.out, ek, ← HN.out, List.drop_length]
        rfl
      have HE := hid hwr.out
      clear hz hwr
      subst ek
      go_wp2
      go_ret
      exact ⟨by rw [HR.out]; rfl, HE.out⟩
end Go.Proofs.YtajelgjbgehahaaGreat
