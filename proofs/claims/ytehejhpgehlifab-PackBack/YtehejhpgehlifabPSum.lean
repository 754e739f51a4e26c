/- What slices.Clone (of uint64), pack.without and pack.Sum do. -/
import Derived.Test.YtehejhpgehlifabPWrite2
import Derived.Test.YtehejhpgehlifabSumRef
namespace Go.Proofs.Ytehejhpgehlifab
open Go.RowKit

theorem uu_one (zs : List Int) : ∀ u ∈ UU zs, u.oneCell' = true := by
  intro u hu
  simp only [UU, List.mem_map] at hu
  obtain ⟨x, _, rfl⟩ := hu
  rfl

theorem has_cells64 {w : World} {ad : Addr} {m : Nat} {zs : List Int} (h : Has .u64 w (some ad) m zs) : ∀ (j : Nat) (u : Value), (UU zs)[j]? = some u → w.cell? (ad.add j) = some u := by
  intro j u hj
  have hj' : j < zs.length := by
    have := (List.getElem?_eq_some_iff.1 hj).1
    simpa [UU] using this
  have hl := h.1
  obtain ⟨b, off, e, _, hc⟩ := h.some (by omega)
  simp only [Option.some.injEq] at e
  subst e
  rw [Addr.add_lit, hc j (by omega)]
  simp only [UU, List.getElem?_map, List.getElem?_eq_getElem hj', Option.map_some, Option.some.injEq] at hj
  simp only [List.getD_eq_getElem?_getD, List.getElem?_eq_getElem hj', Option.getD_some, hj]

theorem Has.nums {w : World} {a : Option Addr} {len : Nat} {zs : List Int} (h : Has .u64 w a len zs) : ∀ n ∈ zs, 0 ≤ n ∧ n < 18446744073709551616 := fun n hn => by
  have := bounds_u64 (h.2.1 n hn)
  omega

set_option maxHeartbeats 1000000 in
theorem clone64 (b : Option Addr) (n d : Nat) (ls : List Int) (w : World) (hn : b = none → n = 0 ∧ d = 0) (hl : n ≤ 100000) (hv : Has .u64 w b n ls) :
    Calls Try.prog 44 #[.slice b n d] w fun e w' => ∃ x, e = .returned x ∧ w'.ownsRow w.heap.size 50 1 x n (UU ls) ∧ Below w.heap.size w w' := by
  obtain ⟨i0, hi, hz0, hz1, hz2⟩ := info_parts Try.info50
  cases b with
  | none =>
    obtain ⟨rfl, rfl⟩ := hn rfl
    have e : ls = [] := List.eq_nil_of_length_eq_zero hv.1
    subst e
    have hnil := fun w => Lib.run_eql_slice_nil (P := Try.prog) w 32 50 none 0 0 0 0 Try.underlying32
    go_enter Try.func44, Try.ntmps44
    go_wp2
    go_ret
    exact ⟨_, rfl, World.ownsRow_nil _ _ _ _, Below.refl _ _⟩
  | some ad =>
    have hnil := fun w => Lib.run_eql_slice_nil (P := Try.prog) w 32 50 (some ad) n d 0 0 Try.underlying32
    have HV := hid hv
    clear hv
    go_enter Try.func44, Try.ntmps44
    go_wp2_with (at_builtin; refine wpList_append_own _ rfl _ _ 32 rfl w.heap.size 50 i0 (.int .u64 0) 1 8 Try.underlying32 hi hz0 hz1 hz2 rfl (by decide) _ 0 [] rfl ?c0 ad n d (UU ls) rfl ?c6 ?c1 ?c2 ?c3 ?c4 ?c5 ?_)
    case c0 => exact World.ownsRow_made w #[] 0 (Nat.le_refl _) (Nat.zero_le _) rfl
    case c6 => have := HV.out.1; simp [UU]; omega
    case c1 => exact has_cells64 HV.out.alloc
    case c2 => exact uu_one ls
    case c3 => unfold maxLen; omega
    case c4 => omega
    case c5 => simp
    intro v' w1 hown hgr hne
    have HO := hid hown
    clear hown hne
    go_wp2
    go_ret
    refine ⟨_, rfl, HO.out, ((Below.refl _ w).alloc (Nat.le_refl _) _).grown hgr (by simp) ?_⟩
    intro k hk
    simp [Value.ownBlock] at hk
    omega

theorem own_at64 {w : World} {base g len cap : Nat} {zs : List Int} (h : w.ownsRow base 50 1 (.slice (some ⟨g, 0, none⟩) len cap) len (UU zs)) (i : Nat) (hi : i < len) : w.cell? ⟨g, i, none⟩ = some (.int .u64 (zs.getD i 0)) := by
  have hl : zs.length = len := by simpa [UU] using h.1
  rw [h.cellAt i (by omega)]
  simp only [UU, List.getElem?_map, List.getD_eq_getElem?_getD]
  rw [List.getElem?_eq_getElem (by omega)]; rfl

theorem zap_nums {ls : List Int} {s : Int} {k : Nat} (h : ∀ n ∈ ls, 0 ≤ n ∧ n < 18446744073709551616) (hk : k ≤ ls.length) : ∀ n ∈ Mth.zap ls s k, 0 ≤ n ∧ n < 18446744073709551616 := by
  intro n hn
  simp only [Mth.zap, List.mem_map, List.mem_range] at hn
  obtain ⟨j, hj, rfl⟩ := hn
  split
  · omega
  · have : ls.getD j 0 = ls[j]'(by omega) := by simp [List.getD_eq_getElem?_getD, show j < ls.length by omega]
    rw [this]
    exact h _ (List.getElem_mem _)

set_option maxHeartbeats 1000000 in
theorem without_any (b : Option Addr) (n d : Nat) (s : Int) (ls : List Int) (w : World) (hn : b = none → n = 0 ∧ d = 0) (hl : n ≤ 100000) (hv : Has .u64 w b n ls) :
    Calls Try.prog 35 #[.slice b n d, .int .i64 s] w fun e w' => ∃ g cap', e = .returned (.slice g n cap') ∧ Has .u64 w' g n (Mth.zap ls s n) ∧ Below w.heap.size w w' := by
  have hnum := hid hv.nums
  have HL := hid hv.1
  have CL := hid (clone64 b n d ls w hn hl hv)
  clear hn hv
  go_enter Try.func35, Try.ntmps35
  go_wp2_with fail
  refine CL.out.mono ?_
  rintro e w1 ⟨x, rfl, hown, hb1⟩
  clear CL
  by_cases hs : 0 ≤ s ∧ s < (n : Int)
  · obtain ⟨t, rfl⟩ := Int.eq_ofNat_of_zero_le hs.1
    have ht : t < n := by omega
    have ht2 : (t : Int) < (n : Int) := by omega
    clear hs
    obtain ⟨g, cp, ex⟩ : ∃ g cp, x = .slice (some ⟨g, 0, none⟩) n cp := by
      rcases hown.2 with ⟨_, e⟩ | ⟨g, cap, cur, e, _⟩
      · omega
      · exact ⟨g, cap, e⟩
    subst ex
    have hc := own_at64 hown t ht
    have hf := hown.frozenAt t
    have P := (hown.stored t (.int .u64 0)).1
    have hg := (hown.lt g rfl).1
    have e : (UU ls).set t (.int .u64 0) = UU (Mth.zap ls t n) := by
      rw [← HL.out, ← Mth.zap_set ls t]
      simp only [UU, List.map_set]
    rw [e] at P
    obtain ⟨g2, cp2, e2, H2⟩ := has_of_owns64 P (zap_nums hnum.out (by rw [HL.out]; omega))
    have HH := hid H2
    have HE := hid e2
    clear hown P e H2 e2
    go_wp2
    go_ret
    exact ⟨g2, cp2, by rw [HE.out]; rfl, HH.out, hb1.setCell hg _⟩
  · obtain ⟨g2, cp2, e2, H2⟩ := has_of_owns64 hown hnum.out
    have e : Mth.zap ls s n = ls := by rw [← HL.out]; exact Mth.zap_none ls s (by rw [HL.out]; omega)
    subst e2
    rw [← e] at H2
    clear e hown
    have HH := hid H2
    clear H2
    by_cases h0 : 0 ≤ s
    · have h1 : (n : Int) ≤ s := by omega
      clear hs
      go_wp2
      go_ret
      exact ⟨g2, cp2, rfl, HH.out, hb1⟩
    · clear hs
      go_wp2
      exact bodyPost_ret (v := .slice g2 n cp2) (by simp [results, Try.results35, go_sem]) rfl ⟨g2, ⟨cp2, rfl⟩, HH.out, hb1⟩
end Go.Proofs.Ytehejhpgehlifab
