/- Texts of one chain, joined: ExSmall, ExAdd, ExAdd2, ExWith. -/
import Derived.Test.YtffbnggdckjogaaGreatG2
import Derived.Deep.RegionLaw
import Derived.Test.YtffbnggdckjogaaGreatG6
import Derived.Deep.CutRange
namespace Go.Proofs.YtffbnggdckjogaaGreat.Ex
open Go.RowKit Go.Maps
theorem step64 {ops : Array Oper} {o : Oper} {a : Act} {w : World} {K : Act → World → Prop} {Q : Exit → Act → World → Prop} {E : Prop} (hgd : o.guard = none) (s x : Operand)
    (ho : o.op = .call { callee := .builtin .append, args := #[s, x], argTypes := #[24, 24] }) (m c : Nat) (zs : List Int) (ad : Option Addr)
    (hs : a.eval s = .slice none 0 0) (hx : a.eval x = .slice ad m c) (hn : ad = none → m = 0 ∧ c = 0) (hz : Has .u64 w ad m zs) (hsmall : m ≤ 10000000)
    (h : ∀ v' w', w'.ownsRow w.heap.size 63 1 v' m (UU zs) → Below w.heap.size w w' → K (a.put o.dst v') w') :
    if Region.wanted o (yielded ops a.tmps) = true then Oper.wp Tryz.prog o a w K Q else E := by
  have hw : Region.wanted o (yielded ops a.tmps) = true := by simp [Region.wanted, hgd]
  rw [if_pos hw]
  obtain ⟨i0, hi, hz0, hz1, hz2⟩ := info_parts Tryz.info63
  cases ad with
  | none =>
    obtain ⟨rfl, rfl⟩ := hn rfl
    have e : zs = [] := List.eq_nil_of_length_eq_zero hz.1
    subst e
    have hrun := run_append_owned_none (P := Tryz.prog) (w := w) w.heap.size 24 o.type 63 i0 1 Tryz.underlying24 hi (.slice none 0 0) 0 [] (World.ownsRow_nil _ _ _ _)
    unfold Oper.wp execOp
    simp only [ho, resolve, invoke, builtin, Sem.run_bind, Sem.run_pure, Result.andThen_ok, List.map_toArray, List.map_cons, List.map_nil, hs, hx, hrun]
    exact h _ _ (World.ownsRow_nil _ _ _ _) (Below.refl _ _)
  | some ad =>
    refine wp_append_own w s x 24 ho w.heap.size 63 i0 (.int .u64 0) 1 8 Tryz.underlying24 hi hz0 hz1 hz2 rfl (by decide) (.slice none 0 0) 0 [] hs (World.ownsRow_nil _ _ _ _) ad m c (UU zs) hx (by have := hz.1; simp [UU]; omega) (has_cells64 hz) (uu_one zs) (by unfold maxLen; omega) (by omega) (Nat.le_refl _) ?_
    intro v' w' h1 h2 _
    rw [Nat.zero_add, List.nil_append] at h1
    exact h v' w' h1 ((Below.refl _ _).grown h2 (Nat.le_refl _) (by intro k hk; simp [Value.ownBlock] at hk))
abbrev HC (x : Int) (a : Option Addr) (n c : Nat) : Obj := .cells #[.int .i64 x, .slice a n c] 50
theorem two_cells {w w1 : World} {x y : Int} {a d : Option Addr} {n c m e : Nat} (hb : Below ((w.alloc (HC x a n c)).alloc (HC y d m e)).drew.heap.size ((w.alloc (HC x a n c)).alloc (HC y d m e)).drew w1) :
    w1.cell? ⟨w.heap.size, 0, none⟩ = some (.int .i64 x) ∧ w1.cell? ⟨w.heap.size, 1, none⟩ = some (.slice a n c) ∧ w1.cell? ⟨w.heap.size + 1, 0, none⟩ = some (.int .i64 y) ∧ w1.cell? ⟨w.heap.size + 1, 1, none⟩ = some (.slice d m e) ∧
    w1.frozen? ⟨w.heap.size + 1, 0, none⟩ = false ∧ w1.frozen? ⟨w.heap.size + 1, 1, none⟩ = false :=
  ⟨(hb.cell (p := ⟨w.heap.size, 0, none⟩) (by simp; omega)).trans (by simp), (hb.cell (p := ⟨w.heap.size, 1, none⟩) (by simp; omega)).trans (by simp),
   (hb.cell (p := ⟨w.heap.size + 1, 0, none⟩) (by simp)).trans (by simp), (hb.cell (p := ⟨w.heap.size + 1, 1, none⟩) (by simp)).trans (by simp),
   (hb.frozen (p := ⟨w.heap.size + 1, 0, none⟩) (by simp)).trans (by simp), (hb.frozen (p := ⟨w.heap.size + 1, 1, none⟩) (by simp)).trans (by simp)⟩
theorem end_copied {w w1 : World} {x y : Int} {a d a1 : Option Addr} {n c m e cp : Nat} {zs : List Int} (hb : Below ((w.alloc (HC x a n c)).alloc (HC y d m e)).drew.heap.size ((w.alloc (HC x a n c)).alloc (HC y d m e)).drew w1)
    (ho : w1.ownsRow ((w.alloc (HC x a n c)).alloc (HC y d m e)).drew.heap.size 63 1 (.slice a1 n cp) n (UU zs)) (hn : a1 = none → n = 0 ∧ cp = 0) (hs : n ≤ 1000) (hz : ∀ n ∈ zs, 0 ≤ n ∧ n < 18446744073709551616) (z : Int) (u v : Value) :
    Says ((w1.setCell ⟨w.heap.size + 1, 0, none⟩ u).setCell ⟨w.heap.size + 1, 1, none⟩ v) (.agg #[.int .i64 z, .slice a1 n cp]) (z, zs) ∧ Below w.heap.size w ((w1.setCell ⟨w.heap.size + 1, 0, none⟩ u).setCell ⟨w.heap.size + 1, 1, none⟩ v) := by
  refine ⟨⟨a1, n, cp, rfl, hn, hs, has_own64 (ownsRow_setCell_below (ownsRow_setCell_below ho (a := ⟨w.heap.size + 1, 0, none⟩) (by simp) u) (a := ⟨w.heap.size + 1, 1, none⟩) (by simp) v) hz⟩, ?_⟩
  exact (((bl_alloc (bl_alloc (Below.refl w.heap.size w))).drew.trans (hb.mono (by simp; omega))).setCell (by simp) _).setCell (by simp) _
set_option maxHeartbeats 400000 in
set_option maxRecDepth 20000 in
theorem copied_new {w : World} {v : Value} {h : Int × List Int} (hs : Says w v h) :
    Calls Tryz.prog 61 #[v] w fun e w' => ∃ a n c, e = .returned (.agg #[.int .i64 h.1, .slice a n c]) ∧ From w.heap.size a n ∧ Says w' (.agg #[.int .i64 h.1, .slice a n c]) h ∧ Below w.heap.size w w' := by
  obtain ⟨a, n, c, rfl, hn, hsm, hz⟩ := hs
  have HZ := hid hz
  have HN := hid hn
  clear hz hn
  go_enter Tryz.func61, Tryz.ntmps61
  go_wp2
  go_region_law (refine step64 rfl _ _ rfl n c h.2 a (by simp [Act.eval]) (by simp [Act.eval]) HN.out HZ.out.alloc.alloc.drew (by omega) ?_; intro v1 w1 hown1 hb1; obtain ⟨a1, cp1, rfl, hc1, hn1⟩ := own_is hown1; obtain ⟨c0, c1, c2, c3, f2, f3⟩ := two_cells hb1)
  all_goals
    have hE := end_copied hb1 hown1 hn1 hsm HZ.out.nums h.1 (.int .i64 h.1) (.slice a1 n cp1)
    go_wp2
    exact bodyPost_ret (v := .agg #[.int .i64 h.1, .slice a1 n cp1]) (by simp [results, Tryz.results61, go_sem, c2, c3]) rfl ⟨a1, n, cp1, rfl, (own_from hown1).mono (by simp; omega), hE.1, hE.2⟩
theorem copied_any {w : World} {v : Value} {h : Int × List Int} (hs : Says w v h) :
    Calls Tryz.prog 61 #[v] w fun e w' => ∃ u, e = .returned u ∧ Says w' u h ∧ Below w.heap.size w w' :=
  (copied_new hs).mono fun _ _ ⟨_, _, _, he, _, hs, hb⟩ => ⟨_, he, hs, hb⟩
set_option maxHeartbeats 400000 in
set_option maxRecDepth 20000 in
theorem len_any {w : World} {p b K M : Nat} {C : List UInt8 → Option (Int × List Int)} {ss : List (List UInt8)} (t : Tab w p b K M C ss) :
    Calls Tryz.prog 59 #[.pointer (some ⟨p, 0, none⟩)] w fun e w' => e = .returned (.int .i64 ss.length) ∧ w' = w := by
  obtain ⟨D, hD⟩ := t.map
  have hsz := (hD.size t.nd t.mem).2
  have c2 := t.c2
  have hown := hD.1
  clear t hD
  go_enter Tryz.func59, Tryz.ntmps59
  go_wp2_with (at_len; refine wpList_len_own _ rfl _ 94 rfl 9 50 Tryz.underlying94 rv b _ D rfl hown ?_)
  go_ret
  exact ⟨rfl, rfl⟩
theorem new_tab (w : World) (K M : Nat) (mm : Int) (h : mm = M) (e : TypeId) : Tab ((w.alloc (.map #[] 0)).alloc (.cells #[.int .i64 K, .int .i64 mm, .map (some w.heap.size)] e)) (w.heap.size + 1) w.heap.size K M (fun _ => none) [] where
  c0 := by simp
  c1 := by subst h; simp
  c2 := by simp
  nd := List.nodup_nil
  mem := by simp
  len := by simp
  most := Nat.zero_le _
  map := ⟨.map [], (World.ownsMap_made w _ _ rv).alloc _, fun _ => rfl, fun _ _ h => by cases h⟩
set_option maxHeartbeats 400000 in
set_option maxRecDepth 20000 in
theorem new_any (K : Nat) (most : Int) (w : World) :
    Calls Tryz.prog 28 #[.int .i64 K, .int .i64 most] w fun e w' => e = .returned (.pointer (some ⟨w.heap.size + 1, 0, none⟩)) ∧ Tab w' (w.heap.size + 1) w.heap.size K (min (max most 0) 100000).toNat (fun _ => none) [] ∧ Below w.heap.size w w' := by
  have hmm := @run_makeMap Tryz.prog
  go_enter Tryz.func28, Tryz.ntmps28
  go_wp2
  go_ret
  exact ⟨rfl, new_tab w K _ _ (by omega) _, bl_alloc (bl_alloc (Below.refl _ _))⟩
end Go.Proofs.YtffbnggdckjogaaGreat.Ex

namespace Go.Proofs.YtffbnggdckjogaaGreat.Ex
open Go.RowKit Go.Maps
def addCode (C : List UInt8 → Option (Int × List Int)) (ss : List (List UInt8)) (K M m : Nat) (x : List UInt8) : Int := if m ≠ K then 2 else if (C x).isSome = true then 7 else if M ≤ ss.length then 10 else 0
theorem key_str (x : List UInt8) (h : x.length ≤ 1000000) : keyOf Tryz.prog 9 (.string ⟨x.toArray⟩) = some (.string x) := by
  have := Go.WideMaps.keyOf_string_mk Tryz.underlying9 (s := ⟨x.toArray⟩) (by show x.toArray.size ≤ _; unfold maxLen; simp; omega)
  simpa using this
set_option maxHeartbeats 400000 in
set_option maxRecDepth 20000 in
theorem add_many {w : World} {p b K M m c : Nat} {C : List UInt8 → Option (Int × List Int)} {ss : List (List UInt8)} {a d : Option Addr} {n e : Nat} {x : Int} (t : Tab w p b K M C ss) (hm : m ≠ K) :
    Calls Tryz.prog 54 #[.pointer (some ⟨p, 0, none⟩), .slice a m c, .agg #[.int .i64 x, .slice d n e]] w fun e w' => e = .returned (.int .i64 2) ∧ Below w.heap.size w w' := by
  have c0 := ((bl_alloc (o := HC x d n e) (Below.refl w.heap.size w)).cell (p := ⟨p, 0, none⟩) (World.block_lt_of_cell? w _ t.c0)).trans t.c0
  have hk : ((m : Int) != (K : Int)) = true := by simp; omega
  clear t hm
  go_enter Tryz.func54, Tryz.ntmps54
  go_wp2
  go_ret
  exact ⟨rfl, bl_alloc (Below.refl _ _)⟩
theorem look_ok {w : World} {b n : Nat} {C : List UInt8 → Option (Int × List Int)} {D : DataW Value} (H : Holding w b C n D) (x : List UInt8) (hx : x.length ≤ 1000000) :
    ∃ y a k c, (Instr.lookup 94 (.map (some b)) (.string ⟨x.toArray⟩) true).run Tryz.prog w = .ok (.tuple #[.agg #[.int .i64 y, .slice a k c], .bool (C x).isSome]) w ∧ Says w (.agg #[.int .i64 y, .slice a k c]) ((C x).getD (0, [])) := by
  obtain ⟨v, ps, hrun, hv⟩ := H.1.look_ok keyLaw Tryz.underlying94 (zeroHit w) (zd := .held NoHit) (zp := []) rfl (key_str x hx)
  rw [H.2.1 x] at hrun
  simp only [rv, Option.some.injEq, Prod.mk.injEq] at hv
  have hs : Says w v ((C x).getD (0, [])) := by
    cases hC : C x with
    | none =>
      have hno : Maps.has D (.string x) = false := by rw [H.2.1 x, hC]; rfl
      rw [Maps.atKey_of_not_has hno] at hv
      have e : v = NoHit := by simpa using hv.1
      rw [e]; exact says_none w
    | some h =>
      obtain ⟨u, hu, hs⟩ := H.2.2 x h hC
      rw [hu] at hv
      have e : v = u := by simpa using hv.1
      rw [e]; exact hs
  have hs' := hs
  obtain ⟨a, k, c, rfl, _⟩ := hs
  exact ⟨_, a, k, c, hrun, hs'⟩
theorem look_at {w : World} {b n : Nat} {C : List UInt8 → Option (Int × List Int)} {D : DataW Value} (H : Holding w b C n D) (x : List UInt8) (hx : x.length ≤ 1000000) :
    ∃ y a k c, (Instr.lookup 94 (.map (some b)) (.string ⟨x.toArray⟩) false).run Tryz.prog w = .ok (.agg #[.int .i64 y, .slice a k c]) w ∧ Says w (.agg #[.int .i64 y, .slice a k c]) ((C x).getD (0, [])) := by
  obtain ⟨v, ps, hrun, hv⟩ := H.1.lookup keyLaw Tryz.underlying94 (zeroHit w) (zd := .held NoHit) (zp := []) rfl (key_str x hx)
  simp only [rv, Option.some.injEq, Prod.mk.injEq] at hv
  have hs : Says w v ((C x).getD (0, [])) := by
    cases hC : C x with
    | none =>
      have hno : Maps.has D (.string x) = false := by rw [H.2.1 x, hC]; rfl
      rw [Maps.atKey_of_not_has hno] at hv
      have e : v = NoHit := by simpa using hv.1
      rw [e]; exact says_none w
    | some h =>
      obtain ⟨u, hu, hs⟩ := H.2.2 x h hC
      rw [hu] at hv
      have e : v = u := by simpa using hv.1
      rw [e]; exact hs
  have hs' := hs
  obtain ⟨a, k, c, rfl, _⟩ := hs
  exact ⟨_, a, k, c, hrun, hs'⟩
theorem Tab.named {w w1 : World} {p b K M : Nat} {C : List UInt8 → Option (Int × List Int)} {ss : List (List UInt8)} {o : Obj} (t : Tab w p b K M C ss) (h : Below (w.alloc o).heap.size (w.alloc o) w1) : Tab w1 p b K M C ss :=
  t.step (bl_step (bl_alloc (Below.refl _ _)) h)
set_option maxHeartbeats 400000 in
set_option maxRecDepth 20000 in
theorem add_twice {w : World} {p b K M c : Nat} {C : List UInt8 → Option (Int × List Int)} {ss : List (List UInt8)} {a d : Option Addr} {n e : Nat} {x : Int} {ks : List Int} (t : Tab w p b K M C ss) (hK : K ≤ 1000) (hk : Has .u64 w a K ks) (hC : (C (Mth.nm ks)).isSome = true) :
    Calls Tryz.prog 54 #[.pointer (some ⟨p, 0, none⟩), .slice a K c, .agg #[.int .i64 x, .slice d n e]] w fun e w' => e = .returned (.int .i64 7) ∧ Below w.heap.size w w' := by
  have c0 := ((bl_alloc (o := HC x d n e) (Below.refl w.heap.size w)).cell (p := ⟨p, 0, none⟩) (World.block_lt_of_cell? w _ t.c0)).trans t.c0
  have hne : ((K : Int) != (K : Int)) = false := by simp
  have hl : (Mth.nm ks).length ≤ 1000000 := by rw [Mth.nm_length, hk.1]; omega
  have HT := hid t
  have HK := hid hk
  clear t hk
  go_enter Tryz.func54, Tryz.ntmps54
  go_wp2_with fail
  refine (name_any _ _ _ ks _ hK HK.out.alloc).mono ?_
  rintro e w1 ⟨rfl, hb1⟩
  have t1 := HT.out.named hb1
  obtain ⟨D, hD⟩ := t1.map
  obtain ⟨y, a1, k1, c1, hrun, hs⟩ := look_ok hD _ hl
  rw [hC] at hrun
  have c2 := t1.c2
  have B1 := bl_step (bl_alloc (Below.refl w.heap.size w)) hb1
  clear t1 hD hs hC HT HK hb1 c0
  go_wp2
  go_ret
  exact ⟨rfl, bl_alloc B1⟩
theorem len_run {w : World} {b n : Nat} {C : List UInt8 → Option (Int × List Int)} {D : DataW Value} (H : Holding w b C n D) {ss : List (List UInt8)} (nd : ss.Nodup) (mem : ∀ x, x ∈ ss ↔ (C x).isSome = true) (o : Obj) (ty : TypeId) :
    (Builtin.len_ #[94] ty #[.map (some b)]).run Tryz.prog (w.alloc o).drew = .ok (.int .i64 ss.length) (w.alloc o).drew := by
  have h := ((H.1.alloc o).drew).len (t := 94) Tryz.underlying94 ty
  rw [(H.size nd mem).2] at h
  exact h
set_option maxHeartbeats 400000 in
set_option maxRecDepth 20000 in
theorem add_full {w : World} {p b K M c : Nat} {C : List UInt8 → Option (Int × List Int)} {ss : List (List UInt8)} {a d : Option Addr} {n e : Nat} {x : Int} {ks : List Int} (t : Tab w p b K M C ss) (hK : K ≤ 1000) (hk : Has .u64 w a K ks) (hC : (C (Mth.nm ks)).isSome = false) (hM : M ≤ ss.length) :
    Calls Tryz.prog 54 #[.pointer (some ⟨p, 0, none⟩), .slice a K c, .agg #[.int .i64 x, .slice d n e]] w fun e w' => e = .returned (.int .i64 10) ∧ Below w.heap.size w w' := by
  have c0 := ((bl_alloc (o := HC x d n e) (Below.refl w.heap.size w)).cell (p := ⟨p, 0, none⟩) (World.block_lt_of_cell? w _ t.c0)).trans t.c0
  have hne : ((K : Int) != (K : Int)) = false := by simp
  have hl : (Mth.nm ks).length ≤ 1000000 := by rw [Mth.nm_length, hk.1]; omega
  have HT := hid t
  have HK := hid hk
  clear t hk
  go_enter Tryz.func54, Tryz.ntmps54
  go_wp2_with fail
  refine (name_any _ _ _ ks _ hK HK.out.alloc).mono ?_
  rintro e w1 ⟨rfl, hb1⟩
  have t1 := HT.out.named hb1
  obtain ⟨D, hD⟩ := t1.map
  obtain ⟨y, a1, k1, d1, hrun, hs⟩ := look_ok hD _ hl
  rw [hC] at hrun
  have hlen := fun ty => len_run hD t1.nd t1.mem (HC y a1 k1 d1) ty
  have c2 := t1.c2
  have c1 := t1.c1
  have hp := World.block_lt_of_cell? w1 _ c1
  have hMi : (M : Int) ≤ (ss.length : Int) := by omega
  have B1 := bl_step (bl_alloc (Below.refl w.heap.size w)) hb1
  clear t1 hD hs hC HT HK hb1 c0
  go_wp2
  go_region
  go_wp2
  go_ret
  exact ⟨rfl, (bl_alloc B1).drew⟩
end Go.Proofs.YtffbnggdckjogaaGreat.Ex

namespace Go.Proofs.YtffbnggdckjogaaGreat.Ex
open Go.RowKit Go.Maps
theorem Grew.trans {w w' w'' : World} {row : Option Nat} (h : Grew w w' none) (k : Grew w' w'' row) : w.grownBy w'' row :=
  ⟨k.1.os.trans h.1.os, k.1.tape.trans h.1.tape, k.1.output.trans h.1.output, Nat.le_trans h.1.size k.1.size, fun i hi hne => (k.1.block i (Nat.lt_of_lt_of_le hi h.1.size) hne).trans (h.1.block i hi (by simp))⟩
theorem nodup_snoc {l : List (List UInt8)} {x : List UInt8} (h : l.Nodup) (hx : x ∉ l) : (l ++ [x]).Nodup := by
  rw [List.nodup_append]
  refine ⟨h, by simp, ?_⟩
  intro a ha b hb e
  simp only [List.mem_singleton] at hb
  subst hb; subst e
  exact hx ha
theorem Tab.put {w w' : World} {p b K M : Nat} {C : List UInt8 → Option (Int × List Int)} {ss : List (List UInt8)} {D : DataW Value} {x : List UInt8} {v : Value} {h : Int × List Int} (t : Tab w p b K M C ss) (hD : Holding w b C ss.length D)
    (hC : (C x).isSome = false) (hM : ss.length < M) (hl : x.length = 8 * K) (hs : Says w v h) (hown : w'.ownsMap Tryz.prog 9 rv b (ss.length + 1) (D.put (.string x) (.held v))) (g : w.grownBy w' (some b)) :
    Tab w' p b K M (upd C x (some h)) (ss ++ [x]) := by
  have G := t.grew_own g
  have hx : x ∉ ss := fun hx => by have := (t.mem x).1 hx; rw [hC] at this; cases this
  refine ⟨G.cell t.c0, G.cell t.c1, G.cell t.c2, nodup_snoc t.nd hx, fun y => ?_, fun y hy => ?_, by simp; omega, D.put (.string x) (.held v), ?_⟩
  · unfold upd
    by_cases e : y = x
    · subst e; simp
    · simp only [List.mem_append, List.mem_singleton, e, or_false]
      exact t.mem y
  · simp only [List.mem_append, List.mem_singleton] at hy
    rcases hy with hy | rfl
    · exact t.len y hy
    · exact hl
  · have := hD.put G hown hs
    simpa using this
theorem Tab.drew {w : World} {p b K M : Nat} {C : List UInt8 → Option (Int × List Int)} {ss : List (List UInt8)} (t : Tab w p b K M C ss) : Tab w.drew p b K M C ss := t.step (Below.refl _ _).drew
theorem Says.drew {w : World} {v : Value} {h : Int × List Int} (s : Says w v h) : Says w.drew v h := s.grew (grew_below (Below.refl _ _).drew)
set_option maxHeartbeats 1000000 in
set_option maxRecDepth 20000 in
theorem add_good {w : World} {p b K M c : Nat} {C : List UInt8 → Option (Int × List Int)} {ss : List (List UInt8)} {a d : Option Addr} {n e : Nat} {x : Int} {h : Int × List Int} {ks : List Int} (t : Tab w p b K M C ss) (hK : K ≤ 1000) (hM0 : M ≤ 100000) (hk : Has .u64 w a K ks)
    (hC : (C (Mth.nm ks)).isSome = false) (hM : ss.length < M) (hs : Says w (.agg #[.int .i64 x, .slice d n e]) h) :
    Calls Tryz.prog 54 #[.pointer (some ⟨p, 0, none⟩), .slice a K c, .agg #[.int .i64 x, .slice d n e]] w fun e w' => e = .returned (.int .i64 0) ∧ Tab w' p b K M (upd C (Mth.nm ks) (some h)) (ss ++ [Mth.nm ks]) ∧ w.grownBy w' (some b) := by
  have c0 := ((bl_alloc (o := HC x d n e) (Below.refl w.heap.size w)).cell (p := ⟨p, 0, none⟩) (World.block_lt_of_cell? w _ t.c0)).trans t.c0
  have hne : ((K : Int) != (K : Int)) = false := by simp
  have hl : Hid ((Mth.nm ks).length = 8 * K) := by rw [Mth.nm_length, hk.1]; rfl
  have HT := hid t
  have HK := hid hk
  have HS := hid hs
  clear t hk hs
  go_enter Tryz.func54, Tryz.ntmps54
  go_wp2_with fail
  refine (name_any _ _ _ ks _ hK HK.out.alloc).mono ?_
  rintro e0 w1 ⟨rfl, hb1⟩
  have t1 := HT.out.named hb1
  obtain ⟨D, hD⟩ := t1.map
  have hlx : (Mth.nm ks).length ≤ 1000000 := by rw [hl.out]; omega
  obtain ⟨y, a1, k1, d1, hrun, hsy⟩ := look_ok hD _ hlx
  have HCn := hid hC
  rw [hC] at hrun
  have hlen := fun ty => len_run hD t1.nd t1.mem (HC y a1 k1 d1) ty
  have c2 := t1.c2
  have c1 := t1.c1
  have hp := World.block_lt_of_cell? w1 _ c1
  have hMi : ¬ (M : Int) ≤ (ss.length : Int) := by omega
  have B1 := bl_step (bl_alloc (Below.refl w.heap.size w)) hb1
  have h0 : w1.cell? ⟨w.heap.size, 0, none⟩ = some (.int .i64 x) := (hb1.cell (p := ⟨w.heap.size, 0, none⟩) (by simp)).trans (by simp)
  have h1 : w1.cell? ⟨w.heap.size, 1, none⟩ = some (.slice d n e) := (hb1.cell (p := ⟨w.heap.size, 1, none⟩) (by simp)).trans (by simp)
  have hz : w.heap.size < w1.heap.size := by have := hb1.size; simp at this; omega
  have TB := hid ((t1.step (bl_alloc (o := HC y a1 k1 d1) (Below.refl w1.heap.size w1))).drew.drew)
  have SB := hid (((HS.out.grew (grew_below B1)).grew (grew_below (bl_alloc (o := HC y a1 k1 d1) (Below.refl w1.heap.size w1)))).drew.drew)
  have BB2 := hid ((bl_alloc (o := HC y a1 k1 d1) B1).drew.drew)
  have hMx : Hid (ss.length < M) := hM
  clear t1 hD hsy hC HT HK hb1 c0 HS hM
  go_wp2
  go_region
  go_wp2_with fail
  go_region_with (go_at_call 61; refine (copied_any SB.out).mono ?_; rintro e3 w3 ⟨u, rfl, hsu, hb3⟩; have T3 := TB.out.step hb3; obtain ⟨D3, hD3⟩ := T3.map; obtain ⟨w4, hst, hown4, hturn4⟩ := hD3.1.store keyLaw Tryz.underlying94 (by have := T3.most; unfold maxLen; omega) (key_str _ hlx) (show rv u = some (.held u, []) from rfl); have c2' := T3.c2; have HR := hid (And.intro (T3.put hD3 HCn.out hMx.out hl.out hsu hown4 hturn4.grown) (Grew.andThen (bl_step BB2.out hb3) hturn4.grown)); clear T3 hD3 hown4 hturn4 hsu hb3)
  all_goals
    go_wp2
    go_ret
    exact ⟨rfl, HR.out⟩
end Go.Proofs.YtffbnggdckjogaaGreat.Ex

namespace Go.Proofs.YtffbnggdckjogaaGreat.Ex
open Go.RowKit Go.Maps
set_option maxHeartbeats 400000 in
set_option maxRecDepth 20000 in
theorem with_many {w : World} {p b K M m c : Nat} {C : List UInt8 → Option (Int × List Int)} {ss : List (List UInt8)} {a : Option Addr} {f : Value} (t : Tab w p b K M C ss) (hm : m ≠ K) :
    Calls Tryz.prog 65 #[.pointer (some ⟨p, 0, none⟩), .slice a m c, f] w fun e w' => e = .returned (.int .i64 2) ∧ w' = w := by
  have c0 := t.c0
  have hk : ((m : Int) != (K : Int)) = true := by simp; omega
  clear t hm
  go_enter Tryz.func65, Tryz.ntmps65
  go_wp2
  go_ret
  exact ⟨rfl, rfl⟩
set_option maxHeartbeats 400000 in
set_option maxRecDepth 20000 in
theorem with_none {w : World} {p b K M c : Nat} {C : List UInt8 → Option (Int × List Int)} {ss : List (List UInt8)} {a : Option Addr} {f : Value} {ks : List Int} (t : Tab w p b K M C ss) (hK : K ≤ 1000) (hk : Has .u64 w a K ks) (hC : (C (Mth.nm ks)).isSome = false) :
    Calls Tryz.prog 65 #[.pointer (some ⟨p, 0, none⟩), .slice a K c, f] w fun e w' => e = .returned (.int .i64 9) ∧ Below w.heap.size w w' := by
  have c0 := t.c0
  have hne : ((K : Int) != (K : Int)) = false := by simp
  have hl : (Mth.nm ks).length ≤ 1000000 := by rw [Mth.nm_length, hk.1]; omega
  have HT := hid t
  have HK := hid hk
  clear t hk
  go_enter Tryz.func65, Tryz.ntmps65
  go_wp2_with fail
  refine (name_any _ _ _ ks _ hK HK.out).mono ?_
  rintro e w1 ⟨rfl, hb1⟩
  have t1 := HT.out.step hb1
  obtain ⟨D, hD⟩ := t1.map
  obtain ⟨y, a1, k1, d1, hrun, hs⟩ := look_ok hD _ hl
  rw [hC] at hrun
  have c2 := t1.c2
  clear t1 hD hs hC HT HK c0
  go_wp2
  go_ret
  exact ⟨rfl, bl_alloc hb1⟩
def sans (ss : List (List UInt8)) (x : List UInt8) : List (List UInt8) := ss.filter fun y => decide (y ≠ x)
theorem Tab.del {w w' : World} {p b K M : Nat} {C : List UInt8 → Option (Int × List Int)} {ss : List (List UInt8)} {D : DataW Value} {x : List UInt8} (t : Tab w p b K M C ss) (hD : Holding w b C ss.length D)
    (hown : w'.ownsMap Tryz.prog 9 rv b ss.length (D.del (.string x))) (g : w.grownBy w' (some b)) : Tab w' p b K M (upd C x none) (sans ss x) := by
  unfold sans
  have G := t.grew_own g
  have H := hD.del G hown
  have mem : ∀ y, y ∈ ss.filter (fun y => decide (y ≠ x)) ↔ (upd C x none y).isSome = true := by
    intro y
    unfold upd
    by_cases e : y = x
    · subst e; simp
    · simp only [List.mem_filter, e, ne_eq, not_false_eq_true, decide_true, and_true, if_false]
      exact t.mem y
  have nd := t.nd.filter (fun y => decide (y ≠ x))
  have hle := List.length_filter_le (fun y => decide (y ≠ x)) ss
  have hm := t.most
  refine ⟨G.cell t.c0, G.cell t.c1, G.cell t.c2, nd, mem, fun y hy => t.len y (List.mem_filter.1 hy).1, by omega, D.del (.string x), ?_⟩
  exact ⟨owns_tight H.1 (Nat.le_of_eq (H.size nd mem).2), H.2⟩
set_option maxHeartbeats 400000 in
set_option maxRecDepth 20000 in
theorem drop1_any {w : World} {p b q K M : Nat} {C : List UInt8 → Option (Int × List Int)} {ss : List (List UInt8)} {x : List UInt8} (t : Tab w p b K M C ss) (hl : x.length ≤ 1000000) (hq : w.cell? ⟨q, 0, none⟩ = some (.pointer (some ⟨p, 0, none⟩))) :
    Calls Tryz.prog 67 #[.string ⟨x.toArray⟩, .pointer (some ⟨q, 0, none⟩)] w fun e w' => e = .returned (.tuple #[]) ∧ Tab w' p b K M (upd C x none) (sans ss x) ∧ w.grownBy w' (some b) := by
  obtain ⟨D, hD⟩ := t.map
  have c2 := t.c2
  have hown := hD.1
  have hkey := key_str x hl
  have HT := hid t
  have HD := hid hD
  clear t hD
  go_enter Tryz.func67, Tryz.ntmps67
  go_wp2_with (at_delete; refine wpList_delete_own _ rfl _ _ 94 9 rfl 50 keyLaw Tryz.underlying94 rv b _ D rfl hown _ _ rfl hkey ?_; intro w1 hown1 hturn1)
  go_end0
  exact ⟨rfl, HT.out.del HD.out hown1 hturn1.grown, hturn1.grown⟩
set_option maxHeartbeats 400000 in
set_option maxRecDepth 20000 in
theorem with_drop {w : World} {p b q K M c : Nat} {C : List UInt8 → Option (Int × List Int)} {ss : List (List UInt8)} {a : Option Addr} {ks : List Int} (t : Tab w p b K M C ss) (hK : K ≤ 1000) (hk : Has .u64 w a K ks) (hC : (C (Mth.nm ks)).isSome = true) (hq : w.cell? ⟨q, 0, none⟩ = some (.pointer (some ⟨p, 0, none⟩))) :
    Calls Tryz.prog 65 #[.pointer (some ⟨p, 0, none⟩), .slice a K c, .func (.func 67) #[] #[.pointer (some ⟨q, 0, none⟩)]] w fun e w' => e = .returned (.int .i64 0) ∧ Tab w' p b K M (upd C (Mth.nm ks) none) (sans ss (Mth.nm ks)) ∧ w.grownBy w' (some b) := by
  have c0 := t.c0
  have hne : ((K : Int) != (K : Int)) = false := by simp
  have hl : (Mth.nm ks).length ≤ 1000000 := by rw [Mth.nm_length, hk.1]; omega
  have HT := hid t
  have HK := hid hk
  have HQ := hid hq
  clear t hk hq
  go_enter Tryz.func65, Tryz.ntmps65
  go_wp2_with fail
  refine (name_any _ _ _ ks _ hK HK.out).mono ?_
  rintro e w1 ⟨rfl, hb1⟩
  have t1 := HT.out.step hb1
  obtain ⟨D, hD⟩ := t1.map
  obtain ⟨y, a1, k1, d1, hrun, hs⟩ := look_ok hD _ hl
  rw [hC] at hrun
  have c2 := t1.c2
  have T2 := hid (t1.step (bl_alloc (o := HC y a1 k1 d1) (Below.refl w1.heap.size w1)))
  have B2 := bl_alloc (o := HC y a1 k1 d1) hb1
  have Q2 := hid ((grew_below B2).cell HQ.out)
  clear t1 hD hs hC HT HK HQ c0 hb1
  go_wp2_with (go_at_call 67; refine (drop1_any T2.out hl Q2.out).mono ?_; rintro e w3 ⟨rfl, t3, hg3⟩)
  go_ret
  exact ⟨rfl, t3, Grew.andThen B2 hg3⟩
abbrev PC (p : Nat) : Obj := .cells #[.pointer (some ⟨p, 0, none⟩)] 76
end Go.Proofs.YtffbnggdckjogaaGreat.Ex
