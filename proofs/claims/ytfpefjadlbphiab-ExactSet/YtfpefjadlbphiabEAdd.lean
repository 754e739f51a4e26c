/- What Add does. -/
import Derived.Test.YtfpefjadlbphiabESmall
import Derived.Deep.CutRange
namespace Go.Proofs.Ytfpefjadlbphiab
open Go.RowKit Go.Maps

/-- what Add tells, and what is there behind it -/
def addCode (C : List UInt8 → Option (Int × List Int)) (ss : List (List UInt8)) (K M m : Nat) (x : List UInt8) : Int := if m ≠ K then 2 else if (C x).isSome = true then 7 else if M ≤ ss.length then 10 else 0

theorem key_str (x : List UInt8) (h : x.length ≤ 1000000) : keyOf Try.prog 9 (.string ⟨x.toArray⟩) = some (.string x) := by
  have := Go.WideMaps.keyOf_string_mk Try.underlying9 (s := ⟨x.toArray⟩) (by show x.toArray.size ≤ _; unfold maxLen; simp; omega)
  simpa using this

set_option maxHeartbeats 400000 in
theorem add_many {w : World} {p b K M m c : Nat} {C : List UInt8 → Option (Int × List Int)} {ss : List (List UInt8)} {a d : Option Addr} {n e : Nat} {x : Int} (t : Tab w p b K M C ss) (hm : m ≠ K) :
    Calls Try.prog 30 #[.pointer (some ⟨p, 0, none⟩), .slice a m c, .agg #[.int .i64 x, .slice d n e]] w fun e w' => e = .returned (.int .i64 2) ∧ Below w.heap.size w w' := by
  have c0 := ((bl_alloc (o := HC x d n e) (Below.refl w.heap.size w)).cell (p := ⟨p, 0, none⟩) (World.block_lt_of_cell? w _ t.c0)).trans t.c0
  have hk : ((m : Int) != (K : Int)) = true := by simp; omega
  clear t hm
  go_enter Try.func30, Try.ntmps30
  go_wp2
  go_ret
  exact ⟨rfl, bl_alloc (Below.refl _ _)⟩

/-- 'v, ok := t.says[name]' -/
theorem look_ok {w : World} {b n : Nat} {C : List UInt8 → Option (Int × List Int)} {D : DataW Value} (H : Holding w b C n D) (x : List UInt8) (hx : x.length ≤ 1000000) :
    ∃ y a k c, (Instr.lookup 78 (.map (some b)) (.string ⟨x.toArray⟩) true).run Try.prog w = .ok (.tuple #[.agg #[.int .i64 y, .slice a k c], .bool (C x).isSome]) w ∧ Says w (.agg #[.int .i64 y, .slice a k c]) ((C x).getD (0, [])) := by
  obtain ⟨v, ps, hrun, hv⟩ := H.1.look_ok keyLaw Try.underlying78 (zeroHit w) (zd := .held NoHit) (zp := []) rfl (key_str x hx)
  rw [H.2.1 x] at hrun
  simp only [rv, Option.some.injEq, Prod.mk.injEq] at hv
  have hs : Says w v ((C x).getD (0, [])) := by
    cases hC : C x with
    | none =>
      have hno : Maps.has D (.string x) = false := by rw [H.2.1 x, hC]; rfl
      rw [Maps.atKey_of_not_has hno] at hv
      have e : v = NoHit := by simpa using hv.1
      rw [e]; exact says_none w
    | some h =>
      obtain ⟨u, hu, hs⟩ := H.2.2 x h hC
      rw [hu] at hv
      have e : v = u := by simpa using hv.1
      rw [e]; exact hs
  have hs' := hs
  obtain ⟨a, k, c, rfl, _⟩ := hs
  exact ⟨_, a, k, c, hrun, hs'⟩

/-- 't.says[name]' -/
theorem look_at {w : World} {b n : Nat} {C : List UInt8 → Option (Int × List Int)} {D : DataW Value} (H : Holding w b C n D) (x : List UInt8) (hx : x.length ≤ 1000000) :
    ∃ y a k c, (Instr.lookup 78 (.map (some b)) (.string ⟨x.toArray⟩) false).run Try.prog w = .ok (.agg #[.int .i64 y, .slice a k c]) w ∧ Says w (.agg #[.int .i64 y, .slice a k c]) ((C x).getD (0, [])) := by
  obtain ⟨v, ps, hrun, hv⟩ := H.1.lookup keyLaw Try.underlying78 (zeroHit w) (zd := .held NoHit) (zp := []) rfl (key_str x hx)
  simp only [rv, Option.some.injEq, Prod.mk.injEq] at hv
  have hs : Says w v ((C x).getD (0, [])) := by
    cases hC : C x with
    | none =>
      have hno : Maps.has D (.string x) = false := by rw [H.2.1 x, hC]; rfl
      rw [Maps.atKey_of_not_has hno] at hv
      have e : v = NoHit := by simpa using hv.1
      rw [e]; exact says_none w
    | some h =>
      obtain ⟨u, hu, hs⟩ := H.2.2 x h hC
      rw [hu] at hv
      have e : v = u := by simpa using hv.1
      rw [e]; exact hs
  have hs' := hs
  obtain ⟨a, k, c, rfl, _⟩ := hs
  exact ⟨_, a, k, c, hrun, hs'⟩

/-- what is there behind the name -/
theorem Tab.named {w w1 : World} {p b K M : Nat} {C : List UInt8 → Option (Int × List Int)} {ss : List (List UInt8)} {o : Obj} (t : Tab w p b K M C ss) (h : Below (w.alloc o).heap.size (w.alloc o) w1) : Tab w1 p b K M C ss :=
  t.step (bl_step (bl_alloc (Below.refl _ _)) h)

set_option maxHeartbeats 400000 in
theorem add_twice {w : World} {p b K M c : Nat} {C : List UInt8 → Option (Int × List Int)} {ss : List (List UInt8)} {a d : Option Addr} {n e : Nat} {x : Int} {ks : List Int} (t : Tab w p b K M C ss) (hK : K ≤ 1000) (hk : Has .u64 w a K ks) (hC : (C (Mth.nm ks)).isSome = true) :
    Calls Try.prog 30 #[.pointer (some ⟨p, 0, none⟩), .slice a K c, .agg #[.int .i64 x, .slice d n e]] w fun e w' => e = .returned (.int .i64 7) ∧ Below w.heap.size w w' := by
  have c0 := ((bl_alloc (o := HC x d n e) (Below.refl w.heap.size w)).cell (p := ⟨p, 0, none⟩) (World.block_lt_of_cell? w _ t.c0)).trans t.c0
  have hne : ((K : Int) != (K : Int)) = false := by simp
  have hl : (Mth.nm ks).length ≤ 1000000 := by rw [Mth.nm_length, hk.1]; omega
  have HT := hid t
  have HK := hid hk
  clear t hk
  go_enter Try.func30, Try.ntmps30
  go_wp2_with fail
  refine (name_any _ _ _ ks _ hK HK.out.alloc).mono ?_
  rintro e w1 ⟨rfl, hb1⟩
  have t1 := HT.out.named hb1
  obtain ⟨D, hD⟩ := t1.map
  obtain ⟨y, a1, k1, c1, hrun, hs⟩ := look_ok hD _ hl
  rw [hC] at hrun
  have c2 := t1.c2
  have B1 := bl_step (bl_alloc (Below.refl w.heap.size w)) hb1
  clear t1 hD hs hC HT HK hb1 c0
  go_wp2
  go_ret
  exact ⟨rfl, bl_alloc B1⟩

/-- len(t.says), a block more lying there -/
theorem len_run {w : World} {b n : Nat} {C : List UInt8 → Option (Int × List Int)} {D : DataW Value} (H : Holding w b C n D) {ss : List (List UInt8)} (nd : ss.Nodup) (mem : ∀ x, x ∈ ss ↔ (C x).isSome = true) (o : Obj) (ty : TypeId) :
    (Builtin.len_ #[78] ty #[.map (some b)]).run Try.prog (w.alloc o).drew = .ok (.int .i64 ss.length) (w.alloc o).drew := by
  have h := ((H.1.alloc o).drew).len (t := 78) Try.underlying78 ty
  rw [(H.size nd mem).2] at h
  exact h

set_option maxHeartbeats 400000 in
theorem add_full {w : World} {p b K M c : Nat} {C : List UInt8 → Option (Int × List Int)} {ss : List (List UInt8)} {a d : Option Addr} {n e : Nat} {x : Int} {ks : List Int} (t : Tab w p b K M C ss) (hK : K ≤ 1000) (hk : Has .u64 w a K ks) (hC : (C (Mth.nm ks)).isSome = false) (hM : M ≤ ss.length) :
    Calls Try.prog 30 #[.pointer (some ⟨p, 0, none⟩), .slice a K c, .agg #[.int .i64 x, .slice d n e]] w fun e w' => e = .returned (.int .i64 10) ∧ Below w.heap.size w w' := by
  have c0 := ((bl_alloc (o := HC x d n e) (Below.refl w.heap.size w)).cell (p := ⟨p, 0, none⟩) (World.block_lt_of_cell? w _ t.c0)).trans t.c0
  have hne : ((K : Int) != (K : Int)) = false := by simp
  have hl : (Mth.nm ks).length ≤ 1000000 := by rw [Mth.nm_length, hk.1]; omega
  have HT := hid t
  have HK := hid hk
  clear t hk
  go_enter Try.func30, Try.ntmps30
  go_wp2_with fail
  refine (name_any _ _ _ ks _ hK HK.out.alloc).mono ?_
  rintro e w1 ⟨rfl, hb1⟩
  have t1 := HT.out.named hb1
  obtain ⟨D, hD⟩ := t1.map
  obtain ⟨y, a1, k1, d1, hrun, hs⟩ := look_ok hD _ hl
  rw [hC] at hrun
  have hlen := fun ty => len_run hD t1.nd t1.mem (HC y a1 k1 d1) ty
  have c2 := t1.c2
  have c1 := t1.c1
  have hp := World.block_lt_of_cell? w1 _ c1
  have hMi : (M : Int) ≤ (ss.length : Int) := by omega
  have B1 := bl_step (bl_alloc (Below.refl w.heap.size w)) hb1
  clear t1 hD hs hC HT HK hb1 c0
  go_wp2
  go_region
  go_wp2
  go_ret
  exact ⟨rfl, (bl_alloc B1).drew⟩
end Go.Proofs.Ytfpefjadlbphiab
