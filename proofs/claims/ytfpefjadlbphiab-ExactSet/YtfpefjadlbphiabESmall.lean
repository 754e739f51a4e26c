/- What copied, hitOf, New and Len do. -/
import Derived.Test.YtfpefjadlbphiabETab
import Derived.Deep.RegionLaw
namespace Go.Proofs.Ytfpefjadlbphiab
open Go.RowKit Go.Maps

/-- one append of a region: numbers behind nothing -/
theorem step64 {ops : Array Oper} {o : Oper} {a : Act} {w : World} {K : Act → World → Prop} {Q : Exit → Act → World → Prop} {E : Prop} (hgd : o.guard = none) (s x : Operand)
    (ho : o.op = .call { callee := .builtin .append, args := #[s, x], argTypes := #[32, 32] }) (m c : Nat) (zs : List Int) (ad : Option Addr)
    (hs : a.eval s = .slice none 0 0) (hx : a.eval x = .slice ad m c) (hn : ad = none → m = 0 ∧ c = 0) (hz : Has .u64 w ad m zs) (hsmall : m ≤ 10000000)
    (h : ∀ v' w', w'.ownsRow w.heap.size 71 1 v' m (UU zs) → Below w.heap.size w w' → K (a.put o.dst v') w') :
    if Region.wanted o (yielded ops a.tmps) = true then Oper.wp Try.prog o a w K Q else E := by
  have hw : Region.wanted o (yielded ops a.tmps) = true := by simp [Region.wanted, hgd]
  rw [if_pos hw]
  obtain ⟨i0, hi, hz0, hz1, hz2⟩ := info_parts Try.info71
  cases ad with
  | none =>
    obtain ⟨rfl, rfl⟩ := hn rfl
    have e : zs = [] := List.eq_nil_of_length_eq_zero hz.1
    subst e
    have hrun := run_append_owned_none (P := Try.prog) (w := w) w.heap.size 32 o.type 71 i0 1 Try.underlying32 hi (.slice none 0 0) 0 [] (World.ownsRow_nil _ _ _ _)
    unfold Oper.wp execOp
    simp only [ho, resolve, invoke, builtin, Sem.run_bind, Sem.run_pure, Result.andThen_ok, List.map_toArray, List.map_cons, List.map_nil, hs, hx, hrun]
    exact h _ _ (World.ownsRow_nil _ _ _ _) (Below.refl _ _)
  | some ad =>
    refine wp_append_own w s x 32 ho w.heap.size 71 i0 (.int .u64 0) 1 8 Try.underlying32 hi hz0 hz1 hz2 rfl (by decide) (.slice none 0 0) 0 [] hs (World.ownsRow_nil _ _ _ _) ad m c (UU zs) hx (by have := hz.1; simp [UU]; omega) (has_cells64 hz) (uu_one zs) (by unfold maxLen; omega) (by omega) (Nat.le_refl _) ?_
    intro v' w' h1 h2 _
    rw [Nat.zero_add, List.nil_append] at h1
    exact h v' w' h1 ((Below.refl _ _).grown h2 (Nat.le_refl _) (by intro k hk; simp [Value.ownBlock] at hk))

set_option maxHeartbeats 400000 in
theorem hitOf_any (k m a : Option Addr) (nk ck nm cm na ca : Nat) (x y z : Int) (w : World) :
    Calls Try.prog 31 #[.agg #[.slice k nk ck, .slice m nm cm, .int .i64 x, .int .i64 y, .int .i64 z, .slice a na ca]] w fun e w' => e = .returned (.agg #[.int .i64 z, .slice a na ca]) ∧ Below w.heap.size w w' := by
  go_enter Try.func31, Try.ntmps31
  go_wp2
  exact bodyPost_ret (v := .agg #[.int .i64 z, .slice a na ca]) (by simp [results, Try.results31, go_sem]) rfl ⟨rfl, bl_alloc (bl_alloc (Below.refl _ _))⟩

abbrev HC (x : Int) (a : Option Addr) (n c : Nat) : Obj := .cells #[.int .i64 x, .slice a n c] 59

theorem Has.drew {k : IntKind} {w : World} {a : Option Addr} {len : Nat} {zs : List Int} (h : Has k w a len zs) : Has k w.drew a len zs := h

theorem two_cells {w w1 : World} {x y : Int} {a d : Option Addr} {n c m e : Nat} (hb : Below ((w.alloc (HC x a n c)).alloc (HC y d m e)).drew.heap.size ((w.alloc (HC x a n c)).alloc (HC y d m e)).drew w1) :
    w1.cell? ⟨w.heap.size, 0, none⟩ = some (.int .i64 x) ∧ w1.cell? ⟨w.heap.size, 1, none⟩ = some (.slice a n c) ∧ w1.cell? ⟨w.heap.size + 1, 0, none⟩ = some (.int .i64 y) ∧ w1.cell? ⟨w.heap.size + 1, 1, none⟩ = some (.slice d m e) ∧
    w1.frozen? ⟨w.heap.size + 1, 0, none⟩ = false ∧ w1.frozen? ⟨w.heap.size + 1, 1, none⟩ = false :=
  ⟨(hb.cell (p := ⟨w.heap.size, 0, none⟩) (by simp; omega)).trans (by simp), (hb.cell (p := ⟨w.heap.size, 1, none⟩) (by simp; omega)).trans (by simp),
   (hb.cell (p := ⟨w.heap.size + 1, 0, none⟩) (by simp)).trans (by simp), (hb.cell (p := ⟨w.heap.size + 1, 1, none⟩) (by simp)).trans (by simp),
   (hb.frozen (p := ⟨w.heap.size + 1, 0, none⟩) (by simp)).trans (by simp), (hb.frozen (p := ⟨w.heap.size + 1, 1, none⟩) (by simp)).trans (by simp)⟩

theorem end_copied {w w1 : World} {x y : Int} {a d a1 : Option Addr} {n c m e cp : Nat} {zs : List Int} (hb : Below ((w.alloc (HC x a n c)).alloc (HC y d m e)).drew.heap.size ((w.alloc (HC x a n c)).alloc (HC y d m e)).drew w1)
    (ho : w1.ownsRow ((w.alloc (HC x a n c)).alloc (HC y d m e)).drew.heap.size 71 1 (.slice a1 n cp) n (UU zs)) (hn : a1 = none → n = 0 ∧ cp = 0) (hs : n ≤ 1000) (hz : ∀ n ∈ zs, 0 ≤ n ∧ n < 18446744073709551616) (z : Int) (u v : Value) :
    Says ((w1.setCell ⟨w.heap.size + 1, 0, none⟩ u).setCell ⟨w.heap.size + 1, 1, none⟩ v) (.agg #[.int .i64 z, .slice a1 n cp]) (z, zs) ∧ Below w.heap.size w ((w1.setCell ⟨w.heap.size + 1, 0, none⟩ u).setCell ⟨w.heap.size + 1, 1, none⟩ v) := by
  refine ⟨⟨a1, n, cp, rfl, hn, hs, has_own64 (ownsRow_setCell_below (ownsRow_setCell_below ho (a := ⟨w.heap.size + 1, 0, none⟩) (by simp) u) (a := ⟨w.heap.size + 1, 1, none⟩) (by simp) v) hz⟩, ?_⟩
  exact (((bl_alloc (bl_alloc (Below.refl w.heap.size w))).drew.trans (hb.mono (by simp; omega))).setCell (by simp) _).setCell (by simp) _

set_option maxHeartbeats 400000 in
theorem copied_new {w : World} {v : Value} {h : Int × List Int} (hs : Says w v h) :
    Calls Try.prog 52 #[v] w fun e w' => ∃ a n c, e = .returned (.agg #[.int .i64 h.1, .slice a n c]) ∧ From w.heap.size a n ∧ Says w' (.agg #[.int .i64 h.1, .slice a n c]) h ∧ Below w.heap.size w w' := by
  obtain ⟨a, n, c, rfl, hn, hsm, hz⟩ := hs
  have HZ := hid hz
  have HN := hid hn
  clear hz hn
  go_enter Try.func52, Try.ntmps52
  go_wp2
  go_region_law (refine step64 rfl _ _ rfl n c h.2 a (by simp [Act.eval]) (by simp [Act.eval]) HN.out HZ.out.alloc.alloc.drew (by omega) ?_; intro v1 w1 hown1 hb1; obtain ⟨a1, cp1, rfl, hc1, hn1⟩ := own_is hown1; obtain ⟨c0, c1, c2, c3, f2, f3⟩ := two_cells hb1)
  all_goals
    have hE := end_copied hb1 hown1 hn1 hsm HZ.out.nums h.1 (.int .i64 h.1) (.slice a1 n cp1)
    go_wp2
    exact bodyPost_ret (v := .agg #[.int .i64 h.1, .slice a1 n cp1]) (by simp [results, Try.results52, go_sem, c2, c3]) rfl ⟨a1, n, cp1, rfl, (own_from hown1).mono (by simp; omega), hE.1, hE.2⟩

theorem copied_any {w : World} {v : Value} {h : Int × List Int} (hs : Says w v h) :
    Calls Try.prog 52 #[v] w fun e w' => ∃ u, e = .returned u ∧ Says w' u h ∧ Below w.heap.size w w' :=
  (copied_new hs).mono fun _ _ ⟨_, _, _, he, _, hs, hb⟩ => ⟨_, he, hs, hb⟩

set_option maxHeartbeats 400000 in
theorem len_any {w : World} {p b K M : Nat} {C : List UInt8 → Option (Int × List Int)} {ss : List (List UInt8)} (t : Tab w p b K M C ss) :
    Calls Try.prog 36 #[.pointer (some ⟨p, 0, none⟩)] w fun e w' => e = .returned (.int .i64 ss.length) ∧ w' = w := by
  obtain ⟨D, hD⟩ := t.map
  have hsz := (hD.size t.nd t.mem).2
  have c2 := t.c2
  have hown := hD.1
  clear t hD
  go_enter Try.func36, Try.ntmps36
  go_wp2_with (at_len; refine wpList_len_own _ rfl _ 78 rfl 9 59 Try.underlying78 rv b _ D rfl hown ?_)
  go_ret
  exact ⟨rfl, rfl⟩

theorem new_tab (w : World) (K M : Nat) (mm : Int) (h : mm = M) (e : TypeId) : Tab ((w.alloc (.map #[] 0)).alloc (.cells #[.int .i64 K, .int .i64 mm, .map (some w.heap.size)] e)) (w.heap.size + 1) w.heap.size K M (fun _ => none) [] where
  c0 := by simp
  c1 := by subst h; simp
  c2 := by simp
  nd := List.nodup_nil
  mem := by simp
  len := by simp
  most := Nat.zero_le _
  map := ⟨.map [], (World.ownsMap_made w _ _ rv).alloc _, fun _ => rfl, fun _ _ h => by cases h⟩

set_option maxHeartbeats 400000 in
theorem new_any (K : Nat) (most : Int) (w : World) :
    Calls Try.prog 28 #[.int .i64 K, .int .i64 most] w fun e w' => e = .returned (.pointer (some ⟨w.heap.size + 1, 0, none⟩)) ∧ Tab w' (w.heap.size + 1) w.heap.size K (min (max most 0) 100000).toNat (fun _ => none) [] ∧ Below w.heap.size w w' := by
  have hmm := @run_makeMap Try.prog
  go_enter Try.func28, Try.ntmps28
  go_wp2
  go_ret
  exact ⟨rfl, new_tab w K _ _ (by omega) _, bl_alloc (bl_alloc (Below.refl _ _))⟩
end Go.Proofs.Ytfpefjadlbphiab
