/- What with, Drop and Find do. -/
import Derived.Test.YtfpefjadlbphiabEAdd2
namespace Go.Proofs.Ytfpefjadlbphiab
open Go.RowKit Go.Maps

/-- Add, whatever becomes of it -/
theorem add_some {w : World} {p b K M m c : Nat} {C : List UInt8 → Option (Int × List Int)} {ss : List (List UInt8)} {a : Option Addr} {v : Value} {h : Int × List Int} {ks : List Int} (t : Tab w p b K M C ss) (hK : K ≤ 1000) (hM0 : M ≤ 100000) (hk : Has .u64 w a m ks) (hs : Says w v h) :
    Calls Try.prog 30 #[.pointer (some ⟨p, 0, none⟩), .slice a m c, v] w fun e w' => ∃ x C' ss', e = .returned (.int .i64 x) ∧ Tab w' p b K M C' ss' ∧ w.grownBy w' (some b) := by
  have hs' := hs
  obtain ⟨d, n, e, rfl, _⟩ := hs
  by_cases hm : m = K
  · subst hm
    cases hC : (C (Mth.nm ks)).isSome with
    | true => exact (add_twice t hK hk hC).mono fun e w' ⟨he, hb⟩ => ⟨_, C, ss, he, t.step hb, grown_of_below hb⟩
    | false =>
      by_cases hM : M ≤ ss.length
      · exact (add_full t hK hk hC hM).mono fun e w' ⟨he, hb⟩ => ⟨_, C, ss, he, t.step hb, grown_of_below hb⟩
      · exact (add_good t hK hM0 hk hC (by omega) hs').mono fun e w' ⟨he, ht, hb⟩ => ⟨_, _, _, he, ht, hb⟩
  · exact (add_many t hm).mono fun e w' ⟨he, hb⟩ => ⟨_, C, ss, he, t.step hb, grown_of_below hb⟩

set_option maxHeartbeats 400000 in
theorem with_many {w : World} {p b K M m c : Nat} {C : List UInt8 → Option (Int × List Int)} {ss : List (List UInt8)} {a : Option Addr} {f : Value} (t : Tab w p b K M C ss) (hm : m ≠ K) :
    Calls Try.prog 49 #[.pointer (some ⟨p, 0, none⟩), .slice a m c, f] w fun e w' => e = .returned (.int .i64 2) ∧ w' = w := by
  have c0 := t.c0
  have hk : ((m : Int) != (K : Int)) = true := by simp; omega
  clear t hm
  go_enter Try.func49, Try.ntmps49
  go_wp2
  go_ret
  exact ⟨rfl, rfl⟩

set_option maxHeartbeats 400000 in
theorem with_none {w : World} {p b K M c : Nat} {C : List UInt8 → Option (Int × List Int)} {ss : List (List UInt8)} {a : Option Addr} {f : Value} {ks : List Int} (t : Tab w p b K M C ss) (hK : K ≤ 1000) (hk : Has .u64 w a K ks) (hC : (C (Mth.nm ks)).isSome = false) :
    Calls Try.prog 49 #[.pointer (some ⟨p, 0, none⟩), .slice a K c, f] w fun e w' => e = .returned (.int .i64 9) ∧ Below w.heap.size w w' := by
  have c0 := t.c0
  have hne : ((K : Int) != (K : Int)) = false := by simp
  have hl : (Mth.nm ks).length ≤ 1000000 := by rw [Mth.nm_length, hk.1]; omega
  have HT := hid t
  have HK := hid hk
  clear t hk
  go_enter Try.func49, Try.ntmps49
  go_wp2_with fail
  refine (name_any _ _ _ ks _ hK HK.out).mono ?_
  rintro e w1 ⟨rfl, hb1⟩
  have t1 := HT.out.step hb1
  obtain ⟨D, hD⟩ := t1.map
  obtain ⟨y, a1, k1, d1, hrun, hs⟩ := look_ok hD _ hl
  rw [hC] at hrun
  have c2 := t1.c2
  clear t1 hD hs hC HT HK c0
  go_wp2
  go_ret
  exact ⟨rfl, bl_alloc hb1⟩

/-- all but one -/
def sans (ss : List (List UInt8)) (x : List UInt8) : List (List UInt8) := ss.filter fun y => decide (y ≠ x)

/-- an entry less: the table behind it -/
theorem Tab.del {w w' : World} {p b K M : Nat} {C : List UInt8 → Option (Int × List Int)} {ss : List (List UInt8)} {D : DataW Value} {x : List UInt8} (t : Tab w p b K M C ss) (hD : Holding w b C ss.length D)
    (hown : w'.ownsMap Try.prog 9 rv b ss.length (D.del (.string x))) (g : w.grownBy w' (some b)) : Tab w' p b K M (upd C x none) (sans ss x) := by
  unfold sans
  have G := t.grew_own g
  have H := hD.del G hown
  have mem : ∀ y, y ∈ ss.filter (fun y => decide (y ≠ x)) ↔ (upd C x none y).isSome = true := by
    intro y
    unfold upd
    by_cases e : y = x
    · subst e; simp
    · simp only [List.mem_filter, e, ne_eq, not_false_eq_true, decide_true, and_true, if_false]
      exact t.mem y
  have nd := t.nd.filter (fun y => decide (y ≠ x))
  have hle := List.length_filter_le (fun y => decide (y ≠ x)) ss
  have hm := t.most
  refine ⟨G.cell t.c0, G.cell t.c1, G.cell t.c2, nd, mem, fun y hy => t.len y (List.mem_filter.1 hy).1, by omega, D.del (.string x), ?_⟩
  exact ⟨owns_tight H.1 (Nat.le_of_eq (H.size nd mem).2), H.2⟩

set_option maxHeartbeats 400000 in
theorem drop1_any {w : World} {p b q K M : Nat} {C : List UInt8 → Option (Int × List Int)} {ss : List (List UInt8)} {x : List UInt8} (t : Tab w p b K M C ss) (hl : x.length ≤ 1000000) (hq : w.cell? ⟨q, 0, none⟩ = some (.pointer (some ⟨p, 0, none⟩))) :
    Calls Try.prog 50 #[.string ⟨x.toArray⟩, .pointer (some ⟨q, 0, none⟩)] w fun e w' => e = .returned (.tuple #[]) ∧ Tab w' p b K M (upd C x none) (sans ss x) ∧ w.grownBy w' (some b) := by
  obtain ⟨D, hD⟩ := t.map
  have c2 := t.c2
  have hown := hD.1
  have hkey := key_str x hl
  have HT := hid t
  have HD := hid hD
  clear t hD
  go_enter Try.func50, Try.ntmps50
  go_wp2_with (at_delete; refine wpList_delete_own _ rfl _ _ 78 9 rfl 59 keyLaw Try.underlying78 rv b _ D rfl hown _ _ rfl hkey ?_; intro w1 hown1 hturn1)
  go_end0
  exact ⟨rfl, HT.out.del HD.out hown1 hturn1.grown, hturn1.grown⟩

set_option maxHeartbeats 400000 in
theorem with_drop {w : World} {p b q K M c : Nat} {C : List UInt8 → Option (Int × List Int)} {ss : List (List UInt8)} {a : Option Addr} {ks : List Int} (t : Tab w p b K M C ss) (hK : K ≤ 1000) (hk : Has .u64 w a K ks) (hC : (C (Mth.nm ks)).isSome = true) (hq : w.cell? ⟨q, 0, none⟩ = some (.pointer (some ⟨p, 0, none⟩))) :
    Calls Try.prog 49 #[.pointer (some ⟨p, 0, none⟩), .slice a K c, .func (.func 50) #[] #[.pointer (some ⟨q, 0, none⟩)]] w fun e w' => e = .returned (.int .i64 0) ∧ Tab w' p b K M (upd C (Mth.nm ks) none) (sans ss (Mth.nm ks)) ∧ w.grownBy w' (some b) := by
  have c0 := t.c0
  have hne : ((K : Int) != (K : Int)) = false := by simp
  have hl : (Mth.nm ks).length ≤ 1000000 := by rw [Mth.nm_length, hk.1]; omega
  have HT := hid t
  have HK := hid hk
  have HQ := hid hq
  clear t hk hq
  go_enter Try.func49, Try.ntmps49
  go_wp2_with fail
  refine (name_any _ _ _ ks _ hK HK.out).mono ?_
  rintro e w1 ⟨rfl, hb1⟩
  have t1 := HT.out.step hb1
  obtain ⟨D, hD⟩ := t1.map
  obtain ⟨y, a1, k1, d1, hrun, hs⟩ := look_ok hD _ hl
  rw [hC] at hrun
  have c2 := t1.c2
  have T2 := hid (t1.step (bl_alloc (o := HC y a1 k1 d1) (Below.refl w1.heap.size w1)))
  have B2 := bl_alloc (o := HC y a1 k1 d1) hb1
  have Q2 := hid ((grew_below B2).cell HQ.out)
  clear t1 hD hs hC HT HK HQ c0 hb1
  go_wp2_with (go_at_call 50; refine (drop1_any T2.out hl Q2.out).mono ?_; rintro e w3 ⟨rfl, t3, hg3⟩)
  go_ret
  exact ⟨rfl, t3, Grew.andThen B2 hg3⟩

abbrev PC (p : Nat) : Obj := .cells #[.pointer (some ⟨p, 0, none⟩)] 50

/-- Drop, whatever becomes of it -/
theorem drop_some {w : World} {p b K M m c : Nat} {C : List UInt8 → Option (Int × List Int)} {ss : List (List UInt8)} {a : Option Addr} {ks : List Int} (t : Tab w p b K M C ss) (hK : K ≤ 1000) (hk : Has .u64 w a m ks) :
    Calls Try.prog 29 #[.pointer (some ⟨p, 0, none⟩), .slice a m c] w fun e w' => ∃ x C' ss', e = .returned (.int .i64 x) ∧ Tab w' p b K M C' ss' ∧ w.grownBy w' (some b) := by
  have B0 := bl_alloc (o := PC p) (Below.refl w.heap.size w)
  have hin : Calls Try.prog 49 #[.pointer (some ⟨p, 0, none⟩), .slice a m c, .func (.func 50) #[] #[.pointer (some ⟨w.heap.size, 0, none⟩)]] (w.alloc (PC p)) fun e w' => ∃ x C' ss', e = .returned (.int .i64 x) ∧ Tab w' p b K M C' ss' ∧ w.grownBy w' (some b) := by
    by_cases hm : m = K
    · subst hm
      cases hC : (C (Mth.nm ks)).isSome with
      | true => exact (with_drop (t.step B0) hK hk.alloc hC (by simp)).mono fun e w' ⟨he, ht, hg⟩ => ⟨_, _, _, he, ht, Grew.andThen B0 hg⟩
      | false => exact (with_none (t.step B0) hK hk.alloc hC).mono fun e w' ⟨he, hb⟩ => ⟨_, C, ss, he, t.step (bl_step B0 hb), grown_of_below (bl_step B0 hb)⟩
    · exact (with_many (t.step B0) hm).mono fun e w' ⟨he, hw⟩ => ⟨_, C, ss, he, by rw [hw]; exact t.step B0, by rw [hw]; exact grown_of_below B0⟩
  have HI := hid hin
  clear hin t hk B0
  go_enter Try.func29, Try.ntmps29
  go_wp2_with (go_at_call 49; refine HI.out.mono ?_; rintro e w1 ⟨x, C', ss', rfl, t1, hg1⟩)
  go_ret
  exact ⟨x, C', ss', rfl, t1, hg1⟩
end Go.Proofs.Ytfpefjadlbphiab
