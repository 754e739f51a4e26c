/- Texts of one chain, joined: TTab, TAdd. -/
import Derived.Test.YtffbnggdckjogaaGreatG8
namespace Go.Proofs.YtffbnggdckjogaaGreat
open Go.RowKit Mth
def wid (wd : Int) : Nat := if 1 ≤ wd ∧ wd ≤ 64 then wd.toNat else 0
theorem wid_le (wd : Int) : wid wd ≤ 64 := by unfold wid; split <;> omega
theorem wid_good {wd : Int} (h1 : 1 ≤ wd) (h2 : wd ≤ 64) : ((wid wd : Nat) : Int) = wd := by unfold wid; rw [if_pos ⟨h1, h2⟩]; omega
structure Tab (w : World) (B : Nat → Prop) (p : Nat) (wd most : Int) (C : Told2) (es : List (Nat × Nat)) : Prop where
  hd : Head w p wd most es.length
  nd : es.Nodup
  mem : ∀ n v, (n, v) ∈ es ↔ (C n v).isSome = true
  emp : ¬ (1 ≤ wd ∧ wd ≤ 64) → es = []
  tr : ∃ N, Trie w B p (wid wd) N C
theorem Tab.step {w w' : World} {B : Nat → Prop} {p : Nat} {wd most : Int} {C : Told2} {es : List (Nat × Nat)} (t : Tab w B p wd most C es) (h : Below w.heap.size w w') : Tab w' B p wd most C es := by
  obtain ⟨N, tr⟩ := t.tr
  exact ⟨t.hd.step h, t.nd, t.mem, t.emp, N, tr.step h⟩
theorem Tab.small {w : World} {B : Nat → Prop} {p : Nat} {wd most : Int} {C : Told2} {es : List (Nat × Nat)} (t : Tab w B p wd most C es) : ¬ B w.heap.size := by
  obtain ⟨N, tr⟩ := t.tr
  exact tr.small
def place (wd : Int) (key : Nat) (n : Int) : Nat × Nat := (n.toNat, key / 2 ^ (wd.toNat - n.toNat))
abbrev NewTab (wd most : Int) : Obj := .cells #[.int .i64 wd, .int .i64 most, .int .i64 0, .pointer none, .pointer none, .pointer none] 103
theorem new_tab (w : World) (wd most : Int) (B : Nat → Prop) (hB : ¬ B w.heap.size) (hz : ∀ k, B k → k < w.heap.size + 1) : Tab (w.alloc (NewTab wd most)) B w.heap.size wd most (fun _ _ => none) [] := by
  refine ⟨⟨by simp, by simp, by simp, by simp⟩, List.nodup_nil, fun n v => by simp, fun _ => rfl, fun n v => if n = 0 ∧ v = 0 then some (w.heap.size, 3) else none, ?_⟩
  have key : ∀ n v a, (if n = 0 ∧ v = 0 then some (w.heap.size, 3) else none) = some a → n = 0 ∧ v = 0 ∧ a = (w.heap.size, 3) := by
    intro n v a h
    by_cases e : n = 0 ∧ v = 0
    · rw [if_pos e] at h; exact ⟨e.1, e.2, (Option.some.inj h).symm⟩
    · rw [if_neg e] at h; cases h
  refine ⟨by simp, fun n v a h => ?_, fun n v m u a b h k _ => ?_, fun n v a h => ?_, fun n v _ => ?_, fun _ _ _ => rfl, fun n v a h => ?_, fun k hk => by have := hz k hk; simp; omega⟩
  · obtain ⟨rfl, rfl, _⟩ := key n v a h; simp
  · obtain ⟨rfl, rfl, _⟩ := key n v a h; obtain ⟨rfl, rfl, _⟩ := key m u b k; exact ⟨rfl, rfl⟩
  · obtain ⟨rfl, rfl, rfl⟩ := key n v a h
    refine ⟨by simp [ptr], by simp [ptr], ⟨.pointer none, by simp, rfl⟩, by simp, by simp, by simp, fun o x hx => ?_, fun n hn => by rw [World.shape?, heap_alloc_new] at hn; simp at hn⟩
    match o with
    | 0 => simp at hx; subst hx; exact loose_int _
    | 1 => simp at hx; subst hx; exact loose_int _
    | 2 => simp at hx; subst hx; exact loose_int _
    | 3 => simp at hx; subst hx; exact loose_ptr _
    | 4 => simp at hx; subst hx; exact loose_ptr _
    | 5 => simp at hx; subst hx; exact loose_ptr _
    | o + 6 =>
      have e : (w.alloc (NewTab wd most)).heap[w.heap.size]? = some (NewTab wd most) := heap_alloc_new w _
      unfold World.cell? at hx
      rw [show (⟨w.heap.size, o + 6, none⟩ : Addr).block = w.heap.size from rfl, e] at hx
      simp at hx
  · exact ⟨by rw [if_neg (by omega)], by rw [if_neg (by omega)]⟩
  · obtain ⟨_, _, rfl⟩ := key n v a h; exact hB
set_option maxHeartbeats 400000 in
set_option maxRecDepth 20000 in
theorem new_any (wd most : Int) (w : World) (B : Nat → Prop) (hB : ¬ B w.heap.size) (hz : ∀ k, B k → k < w.heap.size + 1) :
    Calls Tryz.prog 29 #[.int .i64 wd, .int .i64 most] w fun e w' => e = .returned (.pointer (some ⟨w.heap.size, 0, none⟩)) ∧ Tab w' B w.heap.size wd most (fun _ _ => none) [] ∧ Below w.heap.size w w' ∧ w'.heap.size = w.heap.size + 1 := by
  have HT := hid (new_tab w wd most B hB hz)
  go_enter Tryz.func29, Tryz.ntmps29
  go_wp2
  go_ret
  exact ⟨rfl, HT.out, bl_alloc (Below.refl _ _), by simp⟩
def addCode (C : Told2) (es : List (Nat × Nat)) (wd most : Int) (key : Nat) (n : Int) : Int :=
  if Good wd key n then if (C (place wd key n).1 (place wd key n).2).isSome = true then 7 else if most ≤ (es.length : Int) then 10 else 0 else 6
def addC (C : Told2) (es : List (Nat × Nat)) (wd most : Int) (key : Nat) (n : Int) (h : HitM) : Told2 := if addCode C es wd most key n = 0 then upC C (place wd key n).1 (place wd key n).2 (some h) else C
def addE (C : Told2) (es : List (Nat × Nat)) (wd most : Int) (key : Nat) (n : Int) : List (Nat × Nat) := if addCode C es wd most key n = 0 then es ++ [place wd key n] else es
structure TabTo (w w' : World) (B : Nat → Prop) (p : Nat) (wd most : Int) (C : Told2) (es : List (Nat × Nat)) : Prop where
  t : Tab w' B p wd most C es
  bel : BelZ B w w'
  mov : Moved w w'
theorem TabTo.same {w w' : World} {B : Nat → Prop} {p : Nat} {wd most : Int} {C : Told2} {es : List (Nat × Nat)} (t : Tab w B p wd most C es) (h : Below w.heap.size w w') : TabTo w w' B p wd most C es :=
  ⟨t.step h, below_zon B h, moved_below h⟩
def AddDone (w w' : World) (B : Nat → Prop) (p : Nat) (wd most : Int) (C : Told2) (es : List (Nat × Nat)) (key : Nat) (n : Int) (h : HitM) (e : Ending) : Prop :=
  e = .returned (.int .i64 (addCode C es wd most key n)) ∧ TabTo w w' B p wd most (addC C es wd most key n h) (addE C es wd most key n)
theorem add_keep {w w' : World} {B : Nat → Prop} {p : Nat} {wd most : Int} {C : Told2} {es : List (Nat × Nat)} {key : Nat} {n : Int} {h : HitM} {c : Int} (t : Tab w B p wd most C es) (hb : Below w.heap.size w w') (hc : addCode C es wd most key n = c) (h0 : c ≠ 0) : AddDone w w' B p wd most C es key n h (.returned (.int .i64 c)) := by
  refine ⟨by rw [hc], ?_⟩
  unfold addC addE
  rw [if_neg (by rw [hc]; exact h0), if_neg (by rw [hc]; exact h0)]
  exact TabTo.same t hb
theorem Good.out {wd : Int} {key : Nat} {n : Int} (h : Good wd key n) : ∃ W m : Nat, wd = W ∧ n = m ∧ 1 ≤ W ∧ W ≤ 64 ∧ m ≤ W ∧ key < 2 ^ W ∧ key % 2 ^ (W - m) = 0 ∧ wid wd = W ∧ place wd key n = (m, key / 2 ^ (W - m)) := by
  obtain ⟨h1, h2, h3, h4, h5, h6⟩ := h
  obtain ⟨W, rfl⟩ := Int.eq_ofNat_of_zero_le (show 0 ≤ wd by omega)
  obtain ⟨m, rfl⟩ := Int.eq_ofNat_of_zero_le h3
  rw [show ((W : Int) - (m : Int)).toNat = W - m from by omega] at h6
  rw [Int.toNat_natCast] at h5
  exact ⟨W, m, rfl, rfl, by omega, by omega, by omega, h5, h6, by unfold wid; rw [if_pos ⟨h1, h2⟩]; rfl, rfl⟩
theorem Trie.count {w : World} {B : Nat → Prop} {p W : Nat} {N : Ways} {C : Told2} (t : Trie w B p W N C) {u : Value} (hu : w.cell? ⟨p, 2, none⟩ = some u) (m : Int) : Trie (w.setCell ⟨p, 2, none⟩ (.int .i64 m)) B p W N C := by
  have hr := t.node 0 0 _ t.root
  refine ⟨t.root, t.rng, t.inj, fun n v a ha => ?_, t.up, t.cn, t.base, fun k hk => by rw [set_size]; exact t.zl k hk⟩
  have hn := t.node n v a ha
  have g : Moved w (w.setCell ⟨p, 2, none⟩ (.int .i64 m)) := moved_set hr.lo _
  by_cases e : a.1 = p
  · obtain ⟨rfl, rfl⟩ := t.inj n v 0 0 a (p, 3) ha t.root e
    have ea : a = (p, 3) := by rw [t.root] at ha; exact (Option.some.inj ha).symm
    subst ea
    obtain ⟨x, h2, hs⟩ := hn.c2
    exact ⟨(World.cell?_setCell_other _ _ _ _ (addr_ne (by omega))).trans hn.c0, (World.cell?_setCell_other _ _ _ _ (addr_ne (by omega))).trans hn.c1, ⟨x, (World.cell?_setCell_other _ _ _ _ (addr_ne (by omega))).trans h2, hs.moved g⟩, by simpa using hn.f0, by simpa using hn.f1, by simpa using hn.f2, hn.lo.set hu (loose_int m)⟩
  · exact hn.keep (Below.heap_setCell _ _ _ _ e) g
theorem Head.count {w : World} {p : Nat} {wd most many : Int} (h : Head w p wd most many) (m : Int) : Head (w.setCell ⟨p, 2, none⟩ (.int .i64 m)) p wd most m :=
  ⟨(World.cell?_setCell_other _ _ _ _ (addr_ne (by omega))).trans h.c0, (World.cell?_setCell_other _ _ _ _ (addr_ne (by omega))).trans h.c1, World.cell?_setCell_same _ _ _ h.c2, by simpa using h.f2⟩
theorem isSome_not {α : Type} {x : Option α} (h : ¬ x.isSome = true) : x = none := by cases x with | none => rfl | some _ => exact absurd rfl h
set_option maxHeartbeats 400000 in
set_option maxRecDepth 20000 in
theorem add_twice {w : World} {B : Nat → Prop} {p key : Nat} {wd most n : Int} {C : Told2} {es : List (Nat × Nat)} {v : Value} {h : HitM} (t : Tab w B p wd most C es) (hk : key < 18446744073709551616) (hs : Says w v h) (hg : Good wd key n) (hC : (C (place wd key n).1 (place wd key n).2).isSome = true) :
    Calls Tryz.prog 95 #[.pointer (some ⟨p, 0, none⟩), .int .u64 key, .int .i64 n, v] w fun e w' => AddDone w w' B p wd most C es key n h e := by
  obtain ⟨a, k, c, rfl, _⟩ := hs
  have hb1 := bl_alloc (o := HC h.1 a k c) (Below.refl w.heap.size w)
  have HE : ∀ s, Hid (AddDone w ((w.alloc (HC h.1 a k c)).drewN s) B p wd most C es key n h (.returned (.int .i64 7))) := fun s => hid (add_keep t (below_drewN hb1 s) (by unfold addCode; rw [if_pos hg, if_pos hC]) (by decide))
  have HB := hid (beg_any (n := n) (t.hd.step hb1).c0 hk)
  have HG := hid hg
  obtain ⟨N, tr⟩ := t.tr
  obtain ⟨W, m, e1, e2, h1, h2, h3, h4, h5, h6, h7⟩ := hg.out
  rw [h7] at hC
  have c0 := t.hd.c0
  rw [h6] at tr
  have HN := entry_any (key := key) (n := m) (tr.step hb1) (by rw [← e1]; exact (t.hd.step hb1).c0) h2 h4 h3
  rw [if_pos hC, ← e2] at HN
  obtain ⟨z, hz⟩ : ∃ z, N m (key / 2 ^ (W - m)) = some z := by
    cases hh : N m (key / 2 ^ (W - m)) with
    | none => rw [tr.cn _ _ hh] at hC; cases hC
    | some z => exact ⟨z, rfl⟩
  rw [hz] at HN
  simp only [ptr] at HN
  have HN' := hid HN
  clear t hb1 hg tr HN hz hC c0 h1 h2 h3 h4 h5 h6 h7 e1 e2
  go_enter Tryz.func95, Tryz.ntmps95
  go_wp2_with fail
  refine HB.out.mono ?_
  rintro e w1 ⟨b, rfl, hb, rfl⟩
  have eb : b = true := hb.2 HG.out
  subst eb
  clear HB HG hb
  go_wp2_with fail
  refine HN'.out.mono ?_
  rintro e w1 ⟨rfl, s, rfl⟩
  clear HN'
  go_wp2
  go_ret
  exact (HE s).out
set_option maxHeartbeats 400000 in
set_option maxRecDepth 20000 in
theorem add_full {w : World} {B : Nat → Prop} {p key : Nat} {wd most n : Int} {C : Told2} {es : List (Nat × Nat)} {v : Value} {h : HitM} (t : Tab w B p wd most C es) (hk : key < 18446744073709551616) (hs : Says w v h) (hg : Good wd key n) (hC : C (place wd key n).1 (place wd key n).2 = none) (hf : most ≤ (es.length : Int)) :
    Calls Tryz.prog 95 #[.pointer (some ⟨p, 0, none⟩), .int .u64 key, .int .i64 n, v] w fun e w' => AddDone w w' B p wd most C es key n h e := by
  obtain ⟨a, k, c, rfl, _⟩ := hs
  have hb1 := bl_alloc (o := HC h.1 a k c) (Below.refl w.heap.size w)
  have HE : ∀ s, Hid (AddDone w ((w.alloc (HC h.1 a k c)).drewN s) B p wd most C es key n h (.returned (.int .i64 10))) := fun s => hid (add_keep t (below_drewN hb1 s) (by unfold addCode; rw [if_pos hg, hC, if_neg (by simp), if_pos hf]) (by decide))
  have HB := hid (beg_any (n := n) (t.hd.step hb1).c0 hk)
  have HG := hid hg
  have HD := hid (t.hd.step hb1)
  obtain ⟨N, tr⟩ := t.tr
  obtain ⟨W, m, e1, e2, h1, h2, h3, h4, h5, h6, h7⟩ := hg.out
  rw [h7] at hC
  rw [h6] at tr
  have HN := entry_any (key := key) (n := m) (tr.step hb1) (by rw [← e1]; exact (t.hd.step hb1).c0) h2 h4 h3
  rw [hC, if_neg (by simp), ← e2] at HN
  have HN' := hid HN
  clear t hb1 hg tr HN hC h1 h2 h3 h4 h5 h6 h7 e1 e2
  go_enter Tryz.func95, Tryz.ntmps95
  go_wp2_with fail
  refine HB.out.mono ?_
  rintro e w1 ⟨b, rfl, hb, rfl⟩
  have eb : b = true := hb.2 HG.out
  subst eb
  clear HB HG hb
  go_wp2_with fail
  refine HN'.out.mono ?_
  rintro e w1 ⟨rfl, s, rfl⟩
  clear HN'
  have c1 := (HD.out.drewN s).c1
  have c2 := (HD.out.drewN s).c2
  generalize hw2 : (w.alloc (HC h.1 a k c)).drewN s = w2 at *
  have HE2 : Hid (∀ s, AddDone w (w2.drewN s) B p wd most C es key n h (.returned (.int .i64 10))) := by
    intro s'
    rw [← hw2, World.drewN_drewN]
    exact (HE _).out
  clear HE hw2
  go_wp2
  go_quiet (fail)
  go_wp2
  go_ret
  exact HE2.out _
end Go.Proofs.YtffbnggdckjogaaGreat

namespace Go.Proofs.YtffbnggdckjogaaGreat
open Go.RowKit Mth
theorem upC_some {C : Told2} {m v : Nat} {s : Option HitM} {n u : Nat} : (upC C m v s n u).isSome = true ↔ (n = m ∧ u = v ∧ s.isSome = true) ∨ (¬ (n = m ∧ u = v) ∧ (C n u).isSome = true) := by
  by_cases e : n = m ∧ u = v
  · obtain ⟨rfl, rfl⟩ := e; rw [upC_same]; simp
  · rw [upC_other _ _ e]; simp [e]; intro h1 h2; exact absurd ⟨h1, h2⟩ e
theorem add_end {w w0 w2 w3 : World} {B : Nat → Prop} {p key W m q b o : Nat} {wd most n : Int} {C : Told2} {es : List (Nat × Nat)} {h : HitM} (t : Tab w B p wd most C es) (hb : Below w.heap.size w w0) (hg : Good wd key n) (hC : C (place wd key n).1 (place wd key n).2 = none) (hf : (es.length : Int) < most)
    (hpl : place wd key n = (m, key / 2 ^ (W - m))) (hw : wid wd = W) {N : Ways} (t2 : Trie w2 B p W N C) (ha : N m (key / 2 ^ (W - m)) = some (b, o)) (hd : Head w2 p wd most es.length) (hb2 : BelZ B w0 w2) (hm2 : Moved w0 w2)
    (hl : Lies w3 q h) (hf3 : Below w2.heap.size w2 w3) :
    AddDone w (((w3.setCell ⟨b, o + 2, none⟩ (.pointer (some ⟨q, 0, none⟩)))).setCell ⟨p, 2, none⟩ (.int .i64 ((es.length : Int) + 1))) B p wd most C es key n h (.returned (.int .i64 0)) := by
  have hcode : addCode C es wd most key n = 0 := by unfold addCode; rw [if_pos hg, hC, if_neg (by simp), if_neg (by omega)]
  refine ⟨by rw [hcode], ?_⟩
  unfold addC addE
  rw [if_pos hcode, if_pos hcode, hpl]
  rw [hpl] at hC
  simp only at hC ⊢
  have t3 := t2.step hf3
  have t4 := t3.say ha (x := .pointer (some ⟨q, 0, none⟩)) (s := some h) ⟨q, rfl, hl⟩
  have h4 := t3.head ha (hd.step hf3) 2 (.pointer (some ⟨q, 0, none⟩))
  have hn3 := t3.node _ _ _ ha
  have bel4 : BelZ B w (w3.setCell ⟨b, o + 2, none⟩ (.pointer (some ⟨q, 0, none⟩))) := (((below_zon B hb).trans hb2).trans (below_zon B hf3)).setCell (t3.base _ _ _ ha) _
  have mov4 : Moved w (w3.setCell ⟨b, o + 2, none⟩ (.pointer (some ⟨q, 0, none⟩))) := (((moved_below hb).trans hm2).trans (moved_below hf3)).trans (moved_set hn3.lo _)
  refine ⟨⟨?_, ?_, ?_, ?_, N, ?_⟩, bel4.setCell ?_ _, mov4.trans (moved_set (t4.node 0 0 _ t4.root).lo _)⟩
  · have := h4.count ((es.length : Int) + 1)
    simpa using this
  · rw [List.nodup_append]
    refine ⟨t.nd, by simp, fun x hx y hy e => ?_⟩
    simp only [List.mem_singleton] at hy
    subst hy; subst e
    have := (t.mem _ _).1 hx
    rw [hC] at this; cases this
  · intro n' u
    rw [List.mem_append, t.mem, upC_some]
    simp only [List.mem_singleton, Prod.mk.injEq]
    constructor
    · rintro (h1 | ⟨rfl, rfl⟩)
      · by_cases e : n' = m ∧ u = key / 2 ^ (W - m)
        · exact .inl ⟨e.1, e.2, rfl⟩
        · exact .inr ⟨e, h1⟩
      · exact .inl ⟨rfl, rfl, rfl⟩
    · rintro (⟨rfl, rfl, _⟩ | ⟨_, h1⟩)
      · exact .inr ⟨rfl, rfl⟩
      · exact .inl h1
  · intro hh; exact absurd ⟨hg.1, hg.2.1⟩ hh
  · rw [hw]; exact t4.count h4.c2 _
  · exact t4.base 0 0 _ t4.root
theorem hc_cells {w w2 : World} {x : Int} {a : Option Addr} {n c : Nat} (hm : Moved (w.alloc (HC x a n c)) w2) : w2.cell? ⟨w.heap.size, 0, none⟩ = some (.int .i64 x) ∧ w2.cell? ⟨w.heap.size, 1, none⟩ = some (.slice a n c) :=
  ⟨hm.cell (new_two w _ _ _).1 (new_two w _ _ _).2.1 (tight_slice _ _ _), hm.cell (new_two w _ _ _).2.1 (new_two w _ _ _).2.1 (tight_slice _ _ _)⟩
theorem drew_below (w : World) (s : Nat) : Below w.heap.size w (w.drewN s) := ⟨rfl, rfl, rfl, Nat.le_refl _, fun _ _ => rfl⟩
set_option maxHeartbeats 2000000 in
set_option maxRecDepth 20000 in
theorem add_good {w : World} {B : Nat → Prop} {p key : Nat} {wd most n : Int} {C : Told2} {es : List (Nat × Nat)} {v : Value} {h : HitM} (t : Tab w B p wd most C es) (hk : key < 18446744073709551616) (hs : Says w v h) (hg : Good wd key n) (hC : C (place wd key n).1 (place wd key n).2 = none) (hf : (es.length : Int) < most) (hl : es.length ≤ 100000) :
    Calls Tryz.prog 95 #[.pointer (some ⟨p, 0, none⟩), .int .u64 key, .int .i64 n, v] w fun e w' => AddDone w w' B p wd most C es key n h e := by
  have HS := hid hs
  obtain ⟨a, k, c, rfl, _⟩ := hs
  have hb1 := bl_alloc (o := HC h.1 a k c) (Below.refl w.heap.size w)
  have HB := hid (beg_any (n := n) (t.hd.step hb1).c0 hk)
  have HG := hid hg
  have HD := hid (t.hd.step hb1)
  have HT := hid t
  have HC' := hid hC
  have HF := hid hf
  obtain ⟨N, tr⟩ := t.tr
  obtain ⟨W, m, e1, e2, h1, h2, h3, h4, h5, h6, h7⟩ := hg.out
  rw [h7] at hC
  rw [h6] at tr
  have HN := entry_any (key := key) (n := m) (tr.step hb1) (by rw [← e1]; exact (t.hd.step hb1).c0) h2 h4 h3
  rw [hC, if_neg (by simp), ← e2] at HN
  have HN' := hid HN
  have HTR := hid (tr.step hb1)
  have HP := hid (And.intro e1 (And.intro h6 (And.intro h7 e2)))
  have HQ := hid (And.intro h2 (And.intro h4 h3))
  clear t hb1 hg tr HN hC h1 h2 h3 h4 h5 h6 h7 e1 e2
  go_enter Tryz.func95, Tryz.ntmps95
  go_wp2_with fail
  refine HB.out.mono ?_
  rintro e w1 ⟨b, rfl, hb, rfl⟩
  have eb : b = true := hb.2 HG.out
  subst eb
  clear HB hb
  go_wp2_with fail
  refine HN'.out.mono ?_
  rintro e w1 ⟨rfl, s, rfl⟩
  clear HN'
  have G2 := hid (below_drewN (bl_alloc (o := HC h.1 a k c) (Below.refl w.heap.size w)) s)
  have M2 := hid (moved_below (drew_below (w.alloc (HC h.1 a k c)) s))
  have T2 := hid (HTR.out.drewN s)
  have D2 := hid (HD.out.drewN s)
  clear HTR HD
  generalize hw2 : (w.alloc (HC h.1 a k c)).drewN s = w2 at *
  clear hw2
  have c1 := D2.out.c1
  have c2 := D2.out.c2
  go_wp2
  go_quiet (fail)
  go_wp2
  have B3 := hid (below_drewN G2.out nq)
  have T3 := hid (T2.out.drewN nq)
  have D3 := hid (D2.out.drewN nq)
  have M3 := hid (M2.out.trans (moved_below (drew_below w2 nq)))
  clear T2 D2 G2 M2 c1 c2
  generalize hw3 : w2.drewN nq = w3 at *
  clear hw3
  obtain ⟨l0, l1⟩ := hc_cells M3.out
  have HSZ := hid ((HS.out.moved (moved_below B3.out)).moved (moved_below (Below.refl w3.heap.size w3).drew))
  have hGR := grown_any (key := key) (n := m) (T3.out.step (Below.refl w3.heap.size w3).drew) (by rw [← HP.out.1]; exact D3.out.step (Below.refl w3.heap.size w3).drew) HQ.out.1 HQ.out.2.1 HQ.out.2.2
  rw [← HP.out.2.2.2, ← HP.out.1] at hGR
  have HGR := hid hGR
  have M3' := hid (M3.out.trans (moved_below (Below.refl w3.heap.size w3).drew))
  have B3' := hid (bl_step B3.out (Below.refl w3.heap.size w3).drew)
  clear hGR D3 T3 M3 B3 HS
  go_region_with (first
    | (go_at_call 104; refine HGR.out.mono ?_; rintro e w4 ⟨x, rfl, N', ⟨b, o⟩, t4, ha, rfl, hd4, hb4, hm4⟩; simp only [ptr]; have k0 := (hc_cells (M3'.out.trans hm4)).1; have k1 := (hc_cells (M3'.out.trans hm4)).2)
    | (go_at_call 103; refine (copied_any (HSZ.out.moved hm4)).mono ?_; rintro e w5 ⟨q, rfl, _, hl5, hf5⟩; have HEND := hid (add_end HT.out B3'.out HG.out HC'.out HF.out HP.out.2.2.1 HP.out.2.1 t4 ha hd4 hb4 hm4 hl5 hf5); refine Exists.elim ((t4.step hf5).node _ _ _ ha).c2 ?_; rintro z ⟨n5, _⟩; have f5 := ((t4.step hf5).node _ _ _ ha).f2; have c5 := ((t4.step hf5).head ha (hd4.step hf5) 2 (.pointer (some ⟨q, 0, none⟩))).c2; have d5 := (hd4.step hf5).f2))
  all_goals
    clear t4 ha hd4 hb4 hm4 hl5 hf5 n5 f5 k0 k1
    go_wp2
    go_ret
    exact HEND.out
end Go.Proofs.YtffbnggdckjogaaGreat
