/- What Add does where there is room. -/
import Derived.Test.YtlnkfgdepddmlacTTab
namespace Go.Proofs.Ytlnkfgdepddmlac
open Go.RowKit Mth

theorem upC_some {C : Told2} {m v : Nat} {s : Option HitM} {n u : Nat} : (upC C m v s n u).isSome = true ↔ (n = m ∧ u = v ∧ s.isSome = true) ∨ (¬ (n = m ∧ u = v) ∧ (C n u).isSome = true) := by
  by_cases e : n = m ∧ u = v
  · obtain ⟨rfl, rfl⟩ := e; rw [upC_same]; simp
  · rw [upC_other _ _ e]; simp [e]; intro h1 h2; exact absurd ⟨h1, h2⟩ e

/-- the table behind an entry more -/
theorem add_end {w w0 w2 w3 : World} {B p key W m q b o : Nat} {wd most n : Int} {C : Told2} {es : List (Nat × Nat)} {h : HitM} (t : Tab w B p wd most C es) (hb : Below w.heap.size w w0) (hg : Good wd key n) (hC : C (place wd key n).1 (place wd key n).2 = none) (hf : (es.length : Int) < most)
    (hpl : place wd key n = (m, key / 2 ^ (W - m))) (hw : wid wd = W) {N : Ways} (t2 : Trie w2 B p W N C) (ha : N m (key / 2 ^ (W - m)) = some (b, o)) (hd : Head w2 p wd most es.length) (hb2 : Below B w0 w2) (hm2 : Moved w0 w2)
    (hl : Lies w3 q h) (hf3 : Below w2.heap.size w2 w3) :
    AddDone w (((w3.setCell ⟨b, o + 2, none⟩ (.pointer (some ⟨q, 0, none⟩)))).setCell ⟨p, 2, none⟩ (.int .i64 ((es.length : Int) + 1))) B p wd most C es key n h (.returned (.int .i64 0)) := by
  have hcode : addCode C es wd most key n = 0 := by unfold addCode; rw [if_pos hg, hC, if_neg (by simp), if_neg (by omega)]
  refine ⟨by rw [hcode], ?_⟩
  unfold addC addE
  rw [if_pos hcode, if_pos hcode, hpl]
  rw [hpl] at hC
  simp only at hC ⊢
  have t3 := t2.step hf3
  have t4 := t3.say ha (x := .pointer (some ⟨q, 0, none⟩)) (s := some h) ⟨q, rfl, hl⟩
  have h4 := t3.head ha (hd.step hf3) 2 (.pointer (some ⟨q, 0, none⟩))
  have hn3 := t3.node _ _ _ ha
  have bel4 : Below B w (w3.setCell ⟨b, o + 2, none⟩ (.pointer (some ⟨q, 0, none⟩))) := (((hb.mono t.small).trans hb2).trans (hf3.mono t2.small)).setCell (t3.base _ _ _ ha) _
  have mov4 : Moved w (w3.setCell ⟨b, o + 2, none⟩ (.pointer (some ⟨q, 0, none⟩))) := (((moved_below hb).trans hm2).trans (moved_below hf3)).trans (moved_set hn3.lo _)
  refine ⟨⟨?_, ?_, ?_, ?_, N, ?_⟩, bel4.setCell ?_ _, mov4.trans (moved_set (t4.node 0 0 _ t4.root).lo _)⟩
  · have := h4.count ((es.length : Int) + 1)
    simpa using this
  · rw [List.nodup_append]
    refine ⟨t.nd, by simp, fun x hx y hy e => ?_⟩
    simp only [List.mem_singleton] at hy
    subst hy; subst e
    have := (t.mem _ _).1 hx
    rw [hC] at this; cases this
  · intro n' u
    rw [List.mem_append, t.mem, upC_some]
    simp only [List.mem_singleton, Prod.mk.injEq]
    constructor
    · rintro (h1 | ⟨rfl, rfl⟩)
      · by_cases e : n' = m ∧ u = key / 2 ^ (W - m)
        · exact .inl ⟨e.1, e.2, rfl⟩
        · exact .inr ⟨e, h1⟩
      · exact .inl ⟨rfl, rfl, rfl⟩
    · rintro (⟨rfl, rfl, _⟩ | ⟨_, h1⟩)
      · exact .inr ⟨rfl, rfl⟩
      · exact .inl h1
  · intro hh; exact absurd ⟨hg.1, hg.2.1⟩ hh
  · rw [hw]; exact t4.count h4.c2 _
  · exact t4.base 0 0 _ t4.root

theorem hc_cells {w w2 : World} {x : Int} {a : Option Addr} {n c : Nat} (hm : Moved (w.alloc (HC x a n c)) w2) : w2.cell? ⟨w.heap.size, 0, none⟩ = some (.int .i64 x) ∧ w2.cell? ⟨w.heap.size, 1, none⟩ = some (.slice a n c) :=
  ⟨hm.cell (new_two w _ _ _).1 (new_two w _ _ _).2.1 (tight_slice _ _ _), hm.cell (new_two w _ _ _).2.1 (new_two w _ _ _).2.1 (tight_slice _ _ _)⟩

theorem drew_below (w : World) (s : Nat) : Below w.heap.size w (w.drewN s) := ⟨rfl, rfl, rfl, Nat.le_refl _, fun _ _ => rfl⟩

set_option maxHeartbeats 2000000 in
set_option maxRecDepth 20000 in
theorem add_good {w : World} {B p key : Nat} {wd most n : Int} {C : Told2} {es : List (Nat × Nat)} {v : Value} {h : HitM} (t : Tab w B p wd most C es) (hk : key < 18446744073709551616) (hs : Says w v h) (hg : Good wd key n) (hC : C (place wd key n).1 (place wd key n).2 = none) (hf : (es.length : Int) < most) (hl : es.length ≤ 100000) :
    Calls Try.prog 11 #[.pointer (some ⟨p, 0, none⟩), .int .u64 key, .int .i64 n, v] w fun e w' => AddDone w w' B p wd most C es key n h e := by
  have HS := hid hs
  obtain ⟨a, k, c, rfl, _⟩ := hs
  have hb1 := bl_alloc (o := HC h.1 a k c) (Below.refl w.heap.size w)
  have HB := hid (beg_any (n := n) (t.hd.step hb1).c0 hk)
  have HG := hid hg
  have HD := hid (t.hd.step hb1)
  have HT := hid t
  have HC' := hid hC
  have HF := hid hf
  obtain ⟨N, tr⟩ := t.tr
  obtain ⟨W, m, e1, e2, h1, h2, h3, h4, h5, h6, h7⟩ := hg.out
  rw [h7] at hC
  rw [h6] at tr
  have HN := entry_any (key := key) (n := m) (tr.step hb1) (by rw [← e1]; exact (t.hd.step hb1).c0) h2 h4 h3
  rw [hC, if_neg (by simp), ← e2] at HN
  have HN' := hid HN
  have HTR := hid (tr.step hb1)
  have HP := hid (And.intro e1 (And.intro h6 (And.intro h7 e2)))
  have HQ := hid (And.intro h2 (And.intro h4 h3))
  clear t hb1 hg tr HN hC h1 h2 h3 h4 h5 h6 h7 e1 e2
  go_enter Try.func11, Try.ntmps11
  go_wp2_with fail
  refine HB.out.mono ?_
  rintro e w1 ⟨b, rfl, hb, rfl⟩
  have eb : b = true := hb.2 HG.out
  subst eb
  clear HB hb
  go_wp2_with fail
  refine HN'.out.mono ?_
  rintro e w1 ⟨rfl, s, rfl⟩
  clear HN'
  have G2 := hid (below_drewN (bl_alloc (o := HC h.1 a k c) (Below.refl w.heap.size w)) s)
  have M2 := hid (moved_below (drew_below (w.alloc (HC h.1 a k c)) s))
  have T2 := hid (HTR.out.drewN s)
  have D2 := hid (HD.out.drewN s)
  clear HTR HD
  generalize hw2 : (w.alloc (HC h.1 a k c)).drewN s = w2 at *
  clear hw2
  have c1 := D2.out.c1
  have c2 := D2.out.c2
  go_wp2
  go_quiet (fail)
  go_wp2
  have B3 := hid (below_drewN G2.out nq)
  have T3 := hid (T2.out.drewN nq)
  have D3 := hid (D2.out.drewN nq)
  have M3 := hid (M2.out.trans (moved_below (drew_below w2 nq)))
  clear T2 D2 G2 M2 c1 c2
  generalize hw3 : w2.drewN nq = w3 at *
  clear hw3
  obtain ⟨l0, l1⟩ := hc_cells M3.out
  have HSZ := hid ((HS.out.moved (moved_below B3.out)).moved (moved_below (Below.refl w3.heap.size w3).drew))
  have hGR := grown_any (key := key) (n := m) (T3.out.step (Below.refl w3.heap.size w3).drew) (by rw [← HP.out.1]; exact D3.out.step (Below.refl w3.heap.size w3).drew) HQ.out.1 HQ.out.2.1 HQ.out.2.2
  rw [← HP.out.2.2.2, ← HP.out.1] at hGR
  have HGR := hid hGR
  have M3' := hid (M3.out.trans (moved_below (Below.refl w3.heap.size w3).drew))
  have B3' := hid (bl_step B3.out (Below.refl w3.heap.size w3).drew)
  clear hGR D3 T3 M3 B3 HS
  go_region_with (first
    | (go_at_call 39; refine HGR.out.mono ?_; rintro e w4 ⟨x, rfl, N', ⟨b, o⟩, t4, ha, rfl, hd4, hb4, hm4⟩; simp only [ptr]; have k0 := (hc_cells (M3'.out.trans hm4)).1; have k1 := (hc_cells (M3'.out.trans hm4)).2)
    | (go_at_call 38; refine (copied_any (HSZ.out.moved hm4)).mono ?_; rintro e w5 ⟨q, rfl, _, hl5, hf5⟩; have HEND := hid (add_end HT.out B3'.out HG.out HC'.out HF.out HP.out.2.2.1 HP.out.2.1 t4 ha hd4 hb4 hm4 hl5 hf5); refine Exists.elim ((t4.step hf5).node _ _ _ ha).c2 ?_; rintro z ⟨n5, _⟩; have f5 := ((t4.step hf5).node _ _ _ ha).f2; have c5 := ((t4.step hf5).head ha (hd4.step hf5) 2 (.pointer (some ⟨q, 0, none⟩))).c2; have d5 := (hd4.step hf5).f2))
  all_goals
    clear t4 ha hd4 hb4 hm4 hl5 hf5 n5 f5 k0 k1
    go_wp2
    go_ret
    exact HEND.out

/-- Add -/
theorem add_any {w : World} {B p key : Nat} {wd most n : Int} {C : Told2} {es : List (Nat × Nat)} {v : Value} {h : HitM} (t : Tab w B p wd most C es) (hk : key < 18446744073709551616) (hs : Says w v h) (hl : es.length ≤ 100000) :
    Calls Try.prog 11 #[.pointer (some ⟨p, 0, none⟩), .int .u64 key, .int .i64 n, v] w fun e w' => AddDone w w' B p wd most C es key n h e := by
  by_cases hg : Good wd key n
  · by_cases hC : (C (place wd key n).1 (place wd key n).2).isSome = true
    · exact add_twice t hk hs hg hC
    · by_cases hf : most ≤ (es.length : Int)
      · exact add_full t hk hs hg (isSome_not hC) hf
      · exact add_good t hk hs hg (isSome_not hC) (by omega) hl
  · exact add_bad t hk hs hg
end Go.Proofs.Ytlnkfgdepddmlac
