/- guard's visit: asked; slices.Contains of truth values. -/
import Derived.Test.YtjmlkaciibdpaaaHVis
namespace Go.Proofs.Ytjmlkaciibdpaaa
open Go.RowKit

/-- truth values as they lie -/
def HasBo (w : World) (a : Option Addr) (bs : List Bool) : Prop := ∀ i x, bs[i]? = some x → ∃ g off, a = some ⟨g, off, none⟩ ∧ w.cell? ⟨g, off + i, none⟩ = some (.bool x)
theorem HasBo.step {w w' : World} {a : Option Addr} {bs : List Bool} (h : HasBo w a bs) (hb : Below w.heap.size w w') : HasBo w' a bs := fun i x hx => by
  obtain ⟨g, off, e, h1⟩ := h i x hx
  exact ⟨g, off, e, cell_keep h1 hb⟩
theorem HasBo.nil (w : World) (a : Option Addr) : HasBo w a [] := fun i x hx => by simp at hx

set_option maxHeartbeats 2000000 in
set_option maxRecDepth 20000 in
theorem hindex {w : World} {a : Option Addr} {bs : List Bool} (c : Nat) (h : HasBo w a bs) (hn : bs.length ≤ 100) : Calls Try.prog 48 #[.slice a bs.length c, .bool false] w fun e w' => ∃ z : Int, e = .returned (.int .i64 z) ∧ decide (0 ≤ z) = !(bs.all id) ∧ Below w.heap.size w w' := by
  obtain ⟨n, hnn⟩ : ∃ n, n = bs.length := ⟨_, rfl⟩
  rw [← hnn] at hn ⊢
  have HN := hid hnn
  have HH := hid h
  clear h hnn
  go_enter Try.func48, Try.ntmps48
  go_wp2
  go_loopw [8, 5] (fun q _ wr => ∃ i : Nat, i ≤ n ∧ q = .int .i64 i ∧ Hid (Below w.heap.size w wr) ∧ Hid (∀ j x, j < i → bs[j]? = some x → x = true)) (fun q _ _ => n - (intOf q).toNat)
  case atStart => exact ⟨0, Nat.zero_le _, rfl, Below.refl _ _, fun j t hj => absurd hj (Nat.not_lt_zero _)⟩
  case round =>
    obtain ⟨i, hi, rfl, hb, HA⟩ := hrel
    by_cases hlt : i < n
    · have hki : (i : Int) < (n : Int) := by omega
      have hbi : bs[i]? = some bs[i] := List.getElem?_eq_getElem _
      obtain ⟨g, off, rfl, c0⟩ := HH.out.step hb.out i _ hbi
      have HBI := hid hbi
      generalize bs[i]'(by have := HN.out; omega) = x at *
      clear hbi
      have hgl : g < wr.heap.size := World.block_lt_of_cell? _ _ c0
      cases x with
      | true =>
        have HA2 : Hid (∀ j x, j < i + 1 → bs[j]? = some x → x = true) := fun j u hj hu => by
          rcases Nat.lt_or_ge j i with h | h
          · exact HA.out j u h hu
          · obtain rfl : j = i := by omega
            rw [HBI.out] at hu
            exact (Option.some.inj hu).symm
        go_wp2
        go_roundw
        case rel => exact ⟨i + 1, by omega, by go_num, hb, HA2⟩
        case measure => simp [intOf]; omega
      | false =>
        have HX : Hid (bs.all id = false) := by
          show _ = _
          rw [List.all_eq_false]
          exact ⟨false, List.mem_of_getElem? HBI.out, by simp⟩
        go_wp2
        go_ret
        exact ⟨i, rfl, by rw [HX.out]; simp, hb.out⟩
    · have hki : ¬ (i : Int) < (n : Int) := by omega
      have HX : Hid (bs.all id = true) := by
        show _ = _
        rw [List.all_eq_true]
        intro x hx
        obtain ⟨j, hj, rfl⟩ := List.getElem_of_mem hx
        exact HA.out j _ (by have := HN.out; omega) (List.getElem?_eq_getElem hj)
      go_wp2
      go_ret
      exact ⟨-1, rfl, by rw [HX.out]; rfl, hb.out⟩

set_option maxHeartbeats 1000000 in
set_option maxRecDepth 20000 in
theorem hcontains {w : World} {a : Option Addr} {bs : List Bool} (c : Nat) (h : HasBo w a bs) (hn : bs.length ≤ 100) : Calls Try.prog 38 #[.slice a bs.length c, .bool false] w (TellB (!(bs.all id)) w) := by
  have HI := hid (hindex c h hn)
  clear h hn
  go_enter Try.func38, Try.ntmps38
  go_wp2_with fail
  refine HI.out.mono ?_
  rintro e w2 ⟨z, rfl, hz, hb⟩
  clear HI
  have HZ := hid hz
  have HB := hid hb
  clear hz hb
  go_wp2
  go_ret
  exact ⟨by rw [← HZ.out]; rfl, HB.out⟩

/-- what asked tells -/
def AskIs (q : Bool) (w : World) (e : Ending) (w' : World) : Prop := ∃ a c bs, e = .returned (.slice a (bs : List Bool).length c) ∧ HasBo w' a bs ∧ bs.all id = q ∧ bs.length ≤ 100 ∧ Below w.heap.size w w'

set_option maxHeartbeats 4000000 in
set_option maxRecDepth 20000 in
theorem hasked {w : World} {vb wk : Nat} {d : ProgD} {x : InsD} {s : SD} {m i : Nat} (h : VisAt w vb wk d x s) (hx : GOk d.slots d.ts m i x) (hsl : d.slots ≤ 96) : Calls Try.prog 39 #[vptr vb] w (AskIs (askedD d.ts s x) w) := by
  have HV := hid h
  have i0 := h.i0
  have i2 := h.i2
  have i5 := h.i5
  have c0 := h.c0
  have p1 := h.p1
  have hl := h.lt
  have hpl : wk < w.heap.size := World.block_lt_of_cell? _ _ p1
  have HR : Hid (Below w.heap.size w w) := Below.refl _ _
  haveI inhB : ∀ w : World, Inhabited (BelowBy w) := fun w => ⟨⟨w, Below.refl _ _⟩⟩
  by_cases q7 : x.op = 7
  · have hn := hx.slot (.inl q7)
    have hn0 := hx.n.1
    have EQ : Hid (askedD d.ts s x = s.slot x.n.toNat) := by
      show _ = _
      unfold askedD
      rw [if_pos q7]
    obtain ⟨op, r, ss, kk, tt, n⟩ := x
    dsimp only at *
    subst q7
    obtain ⟨n, rfl⟩ : ∃ k : Nat, n = k := ⟨n.toNat, by omega⟩
    have hni : (n : Int) < 96 := by omega
    have hw1 : IntKind.u64.wrap ((n : Int) + 1) = ((n + 1 : Nat) : Int) := by rw [gwrap_u _ (by omega) (by omega)]; omega
    obtain ⟨n1, hn1⟩ : ∃ n1, n1 = n + 1 := ⟨_, rfl⟩
    rw [← hn1] at hw1
    have h1 : (n : Int) ≤ (n1 : Int) := by omega
    have h2 : (n1 : Int) ≤ 96 := by omega
    have HN1 := hid hn1
    have c7 := h.slot (i := n) (by omega)
    have i5' := cell_by i5
    have HC := hid c7
    clear h hx hsl hn hn0 hn1 p1 c7 c0 hpl i2
    go_enter Try.func39, Try.ntmps39
    go_wp2_with fail
    refine wp_region_quiet_below (by kernel_rfl) (by kernel_rfl) ?_
    repeat (go_big_quiet_step (fail))
    refine wpQuiet_nil ?_
    intro wq hw'
    obtain ⟨⟨_, hwq⟩, hw''⟩ := hw'
    subst hw''
    have HE : Hid (AskIs (askedD d.ts s ⟨7, r, ss, kk, tt, (n : Int)⟩) w (.returned (.slice (some ⟨vb, 58 + n, none⟩) (n1 - n) (96 - n))) wq) := by
      refine ⟨_, _, [s.slot n], by rw [show n1 - n = 1 by have := HN1.out; omega]; rfl, fun j y hy => ?_, by rw [EQ.out]; simp, by simp, hwq⟩
      cases j with
      | zero =>
        simp only [List.getElem?_cons_zero, Option.some.injEq] at hy
        subst hy
        exact ⟨vb, 58 + n, rfl, cell_keep HC.out hwq⟩
      | succ j => simp at hy
    clear i0 i5 i5' HV EQ HC HN1 HR hwq
    go_wp2
    go_ret
    exact HE.out
  by_cases q13 : x.op = 13
  · obtain ⟨t, ht, a0, a1, a2, a3, k0, k1, _, _⟩ := hx.call q13
    have hn0 := hx.n.1
    have hnl : x.n.toNat < d.tabs.n := by rw [← h.lie.t.1]; exact (List.getElem?_eq_some_iff.1 ht).1
    obtain ⟨g, off, t', ea, ht', hp⟩ := grow_at h.lie.t hnl
    obtain rfl : t' = t := Option.some.inj (ht'.symm.trans ht)
    obtain ⟨k0c, k1c, k2c⟩ := hp
    have kc := k0c.1
    have EQ : Hid (askedD d.ts s x = (List.range t'.keys.toNat).all fun i => s.slot (x.s.toNat + i)) := by
      show _ = _
      unfold askedD keysOf
      rw [if_neg q7, if_pos q13, ht]
    have hslot : ∀ j, j < 96 → w.cell? ⟨vb, 58 + j, none⟩ = some (.bool (s.slot j)) := fun j hj => h.slot hj
    rw [ea] at p1
    have HS := hid hslot
    obtain ⟨op, r, ss, kk, tt, n⟩ := x
    dsimp only at *
    subst q13
    obtain ⟨n, rfl⟩ : ∃ k : Nat, n = k := ⟨n.toNat, by omega⟩
    obtain ⟨ss, rfl⟩ : ∃ k : Nat, ss = k := ⟨ss.toNat, by omega⟩
    rw [Int.toNat_natCast] at hnl kc
    obtain ⟨K, hK⟩ : ∃ k : Nat, t'.keys = k := ⟨t'.keys.toNat, by omega⟩
    rw [hK] at kc a1 k0 k1
    have hni : (n : Int) < (d.tabs.n : Int) := by omega
    have hw1 : IntKind.i64.wrap ((ss : Int) + (K : Int)) = ((ss + K : Nat) : Int) := by rw [gwrap_i _ (by omega) (by omega)]; omega
    obtain ⟨e1, he1⟩ : ∃ n1, n1 = ss + K := ⟨_, rfl⟩
    rw [← he1] at hw1
    have h1 : (ss : Int) ≤ (e1 : Int) := by omega
    have h2 : (e1 : Int) ≤ 96 := by omega
    have h96 : ¬ 96 = ss := by omega
    have HE1 : Hid (e1 = ss + K ∧ ss + K ≤ 96 ∧ t'.keys = K ∧ K ≤ 3) := ⟨he1, by omega, hK, by omega⟩
    have i5' := cell_by i5
    have i2' := cell_by i2
    have c0' := cell_by c0
    have p1' := cell_by p1
    have kc' := cell_by kc
    have hgl : g < w.heap.size := World.block_lt_of_cell? _ _ kc
    clear h hx hsl hn0 he1 hK a0 a1 a2 a3 k0 k1 ht ht' k0c k1c k2c q7 ea hslot
    generalize d.tabs = tb at *
    obtain ⟨ta, tn, tc⟩ := tb
    dsimp only at *
    go_enter Try.func39, Try.ntmps39
    go_wp2_with fail
    refine wp_region_quiet_below (by kernel_rfl) (by kernel_rfl) ?_
    repeat (go_big_quiet_step (fail))
    refine wpQuiet_nil ?_
    intro wq hw'
    obtain ⟨⟨_, hwq⟩, hw''⟩ := hw'
    subst hw''
    have HE : Hid (AskIs (askedD d.ts s ⟨13, r, (ss : Int), kk, tt, (n : Int)⟩) w (.returned (.slice (some ⟨vb, 58 + ss, none⟩) (e1 - ss) (96 - ss))) wq) := by
      obtain ⟨x1, x2, x3, x4⟩ := HE1.out
      refine ⟨_, _, (List.range K).map fun i => s.slot (ss + i), by rw [List.length_map, List.length_range, show e1 - ss = K by omega], fun j y hy => ?_, ?_, by rw [List.length_map, List.length_range]; omega, hwq⟩
      · have hj : j < K := by
          have := (List.getElem?_eq_some_iff.1 hy).1
          simpa using this
        rw [List.getElem?_map, List.getElem?_range hj] at hy
        simp only [Option.map_some, Option.some.injEq] at hy
        subst hy
        have := cell_keep (HS.out (ss + j) (by omega)) hwq
        rw [← Nat.add_assoc] at this
        exact ⟨vb, 58 + ss, rfl, this⟩
      · rw [EQ.out, x3]
        simp only [Int.toNat_natCast, List.all_map]
        rfl
    clear i0 i5 i5' i2 i2' c0 c0' p1 p1' kc kc' HV EQ HS HE1 HR hwq
    go_wp2
    go_ret
    exact HE.out
  have EQ : Hid (askedD d.ts s x = true) := by
    show _ = _
    unfold askedD
    rw [if_neg q7, if_neg q13]
  obtain ⟨op, r, ss, kk, tt, n⟩ := x
  dsimp only at *
  have HE : Hid (AskIs (askedD d.ts s ⟨op, r, ss, kk, tt, n⟩) w (.returned (.slice none 0 0)) w) := ⟨none, 0, [], rfl, HasBo.nil _ _, by rw [EQ.out]; rfl, by simp, HR.out⟩
  clear h hx hsl p1 c0 hpl i2 i5 HR HV EQ
  go_enter Try.func39, Try.ntmps39
  go_wp2
  go_ret
  exact HE.out
end Go.Proofs.Ytjmlkaciibdpaaa
