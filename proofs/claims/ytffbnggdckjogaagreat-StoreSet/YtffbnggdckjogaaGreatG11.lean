/- Texts of one chain, joined: TDrop, TStill. -/
import Derived.Test.YtffbnggdckjogaaGreatG10
namespace Go.Proofs.YtffbnggdckjogaaGreat
open Go.RowKit Mth
def hasCode (C : Told2) (wd : Int) (key : Nat) (n : Int) : Int :=
  if Good wd key n then if (C (place wd key n).1 (place wd key n).2).isSome = true then 0 else 9 else 6
def dropC (C : Told2) (wd : Int) (key : Nat) (n : Int) : Told2 := if hasCode C wd key n = 0 then upC C (place wd key n).1 (place wd key n).2 none else C
def dropE (C : Told2) (es : List (Nat × Nat)) (wd : Int) (key : Nat) (n : Int) : List (Nat × Nat) := if hasCode C wd key n = 0 then es.erase (place wd key n) else es
def chgC (C : Told2) (wd : Int) (key : Nat) (n : Int) (h : HitM) : Told2 := if hasCode C wd key n = 0 then upC C (place wd key n).1 (place wd key n).2 (some h) else C
def DropDone (w w' : World) (B : Nat → Prop) (p : Nat) (wd most : Int) (C : Told2) (es : List (Nat × Nat)) (key : Nat) (n : Int) (e : Ending) : Prop :=
  e = .returned (.int .i64 (hasCode C wd key n)) ∧ TabTo w w' B p wd most (dropC C wd key n) (dropE C es wd key n)
def ChgDone (w w' : World) (B : Nat → Prop) (p : Nat) (wd most : Int) (C : Told2) (es : List (Nat × Nat)) (key : Nat) (n : Int) (h : HitM) (e : Ending) : Prop :=
  e = .returned (.int .i64 (hasCode C wd key n)) ∧ TabTo w w' B p wd most (chgC C wd key n h) es
theorem drop_keep {w w' : World} {B : Nat → Prop} {p : Nat} {wd most : Int} {C : Told2} {es : List (Nat × Nat)} {key : Nat} {n : Int} {c : Int} (t : Tab w B p wd most C es) (hb : Below w.heap.size w w') (hc : hasCode C wd key n = c) (h0 : c ≠ 0) : DropDone w w' B p wd most C es key n (.returned (.int .i64 c)) := by
  refine ⟨by rw [hc], ?_⟩
  unfold dropC dropE
  rw [if_neg (by rw [hc]; exact h0), if_neg (by rw [hc]; exact h0)]
  exact TabTo.same t hb
theorem chg_keep {w w' : World} {B : Nat → Prop} {p : Nat} {wd most : Int} {C : Told2} {es : List (Nat × Nat)} {key : Nat} {n : Int} {h : HitM} {c : Int} (t : Tab w B p wd most C es) (hb : Below w.heap.size w w') (hc : hasCode C wd key n = c) (h0 : c ≠ 0) : ChgDone w w' B p wd most C es key n h (.returned (.int .i64 c)) := by
  refine ⟨by rw [hc], ?_⟩
  unfold chgC
  rw [if_neg (by rw [hc]; exact h0)]
  exact TabTo.same t hb
theorem good_entry {w : World} {B : Nat → Prop} {p key : Nat} {wd most n : Int} {C : Told2} {es : List (Nat × Nat)} (t : Tab w B p wd most C es) (hg : Good wd key n) : ∃ (W m : Nat) (N : Ways), wd = W ∧ n = m ∧ W ≤ 64 ∧ m ≤ W ∧ key < 2 ^ W ∧ wid wd = W ∧ place wd key n = (m, key / 2 ^ (W - m)) ∧ Trie w B p W N C ∧
    Calls Tryz.prog 102 #[.pointer (some ⟨p, 0, none⟩), .int .u64 key, .int .i64 n] w fun e w' => e = .returned (if (C (place wd key n).1 (place wd key n).2).isSome = true then ptr (N m (key / 2 ^ (W - m))) else .pointer none) ∧ ∃ s, w' = w.drewN s := by
  obtain ⟨N, tr⟩ := t.tr
  obtain ⟨W, m, e1, e2, h1, h2, h3, h4, h5, h6, h7⟩ := hg.out
  rw [h6] at tr
  refine ⟨W, m, N, e1, e2, h2, h3, h4, h6, h7, tr, ?_⟩
  rw [h7, e2]
  exact entry_any (key := key) (n := m) tr (by rw [← e1]; exact t.hd.c0) h2 h4 h3
theorem drop_end {w w2 w3 : World} {B : Nat → Prop} {p key W m i v : Nat} {wd most n : Int} {C : Told2} {es : List (Nat × Nat)} (t : Tab w B p wd most C es) (hb : Below w.heap.size w w2) (hg : Good wd key n) (hC : (C (place wd key n).1 (place wd key n).2).isSome = true)
    (hpl : place wd key n = (m, key / 2 ^ (W - m))) (hw : wid wd = W) {N N' : Ways} {r : Bool} (hc : CutTo w2 w3 B p W N (upC C m (key / 2 ^ (W - m)) none) wd most es.length i v r N') :
    DropDone w (w3.setCell ⟨p, 2, none⟩ (.int .i64 ((es.length : Int) - 1))) B p wd most C es key n (.returned (.int .i64 0)) := by
  have hcode : hasCode C wd key n = 0 := by unfold hasCode; rw [if_pos hg, if_pos hC]
  refine ⟨by rw [hcode], ?_⟩
  unfold dropC dropE
  rw [if_pos hcode, if_pos hcode, hpl]
  rw [hpl] at hC
  simp only at hC ⊢
  have hmem := (t.mem _ _).2 hC
  have hpos : 0 < es.length := List.length_pos_of_mem hmem
  have hlen : ((es.erase (m, key / 2 ^ (W - m))).length : Int) = (es.length : Int) - 1 := by rw [List.length_erase_of_mem hmem]; omega
  refine ⟨⟨?_, ?_, ?_, ?_, N', ?_⟩, (((below_zon B hb).trans hc.bel).setCell (hc.t.base 0 0 _ hc.t.root) _), ((moved_below hb).trans hc.mov).trans (moved_set (hc.t.node 0 0 _ hc.t.root).lo _)⟩
  · rw [hlen]; exact hc.hd.count _
  · exact t.nd.erase _
  · intro n' u
    rw [t.nd.mem_erase_iff, t.mem, upC_some]
    constructor
    · rintro ⟨h1, h2⟩
      exact .inr ⟨fun e => h1 (by rw [e.1, e.2]), h2⟩
    · rintro (⟨_, _, h⟩ | ⟨h1, h2⟩)
      · cases h
      · exact ⟨fun e => h1 ⟨congrArg Prod.fst e, congrArg Prod.snd e⟩, h2⟩
  · intro hh; exact absurd ⟨hg.1, hg.2.1⟩ hh
  · rw [hw]; exact hc.t.count hc.hd.c2 _
set_option maxHeartbeats 400000 in
set_option maxRecDepth 20000 in
theorem drop_good {w : World} {B : Nat → Prop} {p key : Nat} {wd most n : Int} {C : Told2} {es : List (Nat × Nat)} (t : Tab w B p wd most C es) (hk : key < 18446744073709551616) (hg : Good wd key n) (hC : (C (place wd key n).1 (place wd key n).2).isSome = true) (hl : es.length ≤ 100000) :
    Calls Tryz.prog 98 #[.pointer (some ⟨p, 0, none⟩), .int .u64 key, .int .i64 n] w fun e w' => DropDone w w' B p wd most C es key n e := by
  have HB := hid (beg_any (n := n) t.hd.c0 hk)
  have HG := hid hg
  have HT := hid t
  have HCS := hid hC
  obtain ⟨W, m, N, e1, e2, hW, hm, hkW, hw, hpl, tr, HN⟩ := good_entry t hg
  rw [if_pos hC] at HN
  obtain ⟨z, hz⟩ : ∃ z, N m (key / 2 ^ (W - m)) = some z := by
    cases hh : N m (key / 2 ^ (W - m)) with
    | none => rw [hpl] at hC; simp only at hC; rw [tr.cn _ _ hh] at hC; cases hC
    | some z => exact ⟨z, rfl⟩
  have HCUT := fun s => cut_any m (key := key) (n := m) (i := 0) (by omega) (tr.drewN s) (by rw [← e1]; exact t.hd.drewN s) hW hm (by rw [way_zero W key hkW]; exact tr.root) hz
  rw [← e1, ← e2] at HCUT
  simp only [ptr] at HCUT
  rw [hz] at HN
  simp only [ptr] at HN
  have HN' := hid HN
  have HC2 := hid HCUT
  have HP := hid (And.intro hpl hw)
  clear t hg HN hC HCUT e1 e2 hW hm hkW hw hpl tr hz
  go_enter Tryz.func98, Tryz.ntmps98
  go_wp2_with fail
  refine HB.out.mono ?_
  rintro e w1 ⟨b, rfl, hb, rfl⟩
  have eb : b = true := hb.2 HG.out
  subst eb
  clear HB hb
  go_wp2_with fail
  refine HN'.out.mono ?_
  rintro e w2 ⟨rfl, s, rfl⟩
  clear HN'
  go_wp2_with fail
  refine (HC2.out s).mono ?_
  rintro e w3 ⟨r, N', rfl, hcut⟩
  have HEND := hid (drop_end HT.out (drew_below w1 s) HG.out HCS.out HP.out.1 HP.out.2 hcut)
  have c2 := hcut.hd.c2
  have f2 := hcut.hd.f2
  clear hcut HC2 HT HG HCS HP
  go_wp2
  go_ret
  exact HEND.out
theorem find_any {w : World} {B : Nat → Prop} {p key : Nat} {wd most : Int} {C : Told2} {es : List (Nat × Nat)} (t : Tab w B p wd most C es) (hk : key < 18446744073709551616) :
    Calls Tryz.prog 99 #[.pointer (some ⟨p, 0, none⟩), .int .u64 key] w fun e w' => FindDone w w' (foundIn C wd key) e := by
  unfold foundIn
  by_cases h : 1 ≤ wd ∧ wd ≤ 64 ∧ key < 2 ^ wd.toNat
  · rw [if_pos h]
    obtain ⟨N, tr⟩ := t.tr
    have hd := t.hd
    obtain ⟨W, rfl⟩ := Int.eq_ofNat_of_zero_le (show 0 ≤ wd by omega)
    have hw : wid (W : Int) = W := by unfold wid; rw [if_pos ⟨h.1, h.2.1⟩]; rfl
    rw [hw] at tr
    rw [Int.toNat_natCast] at h ⊢
    exact find_in tr hd (by omega) (by omega) h.2.2
  · rw [if_neg h]
    exact find_out t.hd hk h
set_option maxHeartbeats 400000 in
set_option maxRecDepth 20000 in
theorem len_any {w : World} {B : Nat → Prop} {p : Nat} {wd most : Int} {C : Told2} {es : List (Nat × Nat)} (t : Tab w B p wd most C es) :
    Calls Tryz.prog 100 #[.pointer (some ⟨p, 0, none⟩)] w fun e w' => e = .returned (.int .i64 es.length) ∧ w' = w := by
  have c2 := t.hd.c2
  clear t
  go_enter Tryz.func100, Tryz.ntmps100
  go_wp2
  go_ret
  exact ⟨rfl, rfl⟩
theorem chg_end {w w2 w3 : World} {B : Nat → Prop} {p key W m q b o : Nat} {wd most n : Int} {C : Told2} {es : List (Nat × Nat)} {h : HitM} (t : Tab w B p wd most C es) (hb : Below w.heap.size w w2) (hg : Good wd key n) (hC : (C (place wd key n).1 (place wd key n).2).isSome = true)
    (hpl : place wd key n = (m, key / 2 ^ (W - m))) (hw : wid wd = W) {N : Ways} (t2 : Trie w2 B p W N C) (ha : N m (key / 2 ^ (W - m)) = some (b, o)) (hl : Lies w3 q h) (hf3 : Below w2.heap.size w2 w3) :
    ChgDone w (w3.setCell ⟨b, o + 2, none⟩ (.pointer (some ⟨q, 0, none⟩))) B p wd most C es key n h (.returned (.int .i64 0)) := by
  have hcode : hasCode C wd key n = 0 := by unfold hasCode; rw [if_pos hg, if_pos hC]
  refine ⟨by rw [hcode], ?_⟩
  unfold chgC
  rw [if_pos hcode, hpl]
  rw [hpl] at hC
  simp only at hC ⊢
  have t3 := t2.step hf3
  have t4 := t3.say ha (x := .pointer (some ⟨q, 0, none⟩)) (s := some h) ⟨q, rfl, hl⟩
  have h4 := t3.head ha ((t.hd.step hb).step hf3) 2 (.pointer (some ⟨q, 0, none⟩))
  refine ⟨⟨h4, t.nd, ?_, t.emp, N, ?_⟩, (((below_zon B hb).trans (below_zon B hf3)).setCell (t3.base _ _ _ ha) _), ((moved_below hb).trans (moved_below hf3)).trans (moved_set (t3.node _ _ _ ha).lo _)⟩
  · intro n' u
    rw [t.mem, upC_some]
    constructor
    · intro h1
      by_cases e : n' = m ∧ u = key / 2 ^ (W - m)
      · exact .inl ⟨e.1, e.2, rfl⟩
      · exact .inr ⟨e, h1⟩
    · rintro (⟨rfl, rfl, _⟩ | ⟨_, h1⟩)
      · exact hC
      · exact h1
  · rw [hw]; exact t4
set_option maxHeartbeats 400000 in
set_option maxRecDepth 20000 in
theorem chg_good {w : World} {B : Nat → Prop} {p key : Nat} {wd most n : Int} {C : Told2} {es : List (Nat × Nat)} {v : Value} {h : HitM} (t : Tab w B p wd most C es) (hk : key < 18446744073709551616) (hs : Says w v h) (hg : Good wd key n) (hC : (C (place wd key n).1 (place wd key n).2).isSome = true) :
    Calls Tryz.prog 97 #[.pointer (some ⟨p, 0, none⟩), .int .u64 key, .int .i64 n, v] w fun e w' => ChgDone w w' B p wd most C es key n h e := by
  have HS := hid hs
  obtain ⟨a, k, c, rfl, _⟩ := hs
  have hb1 := bl_alloc (o := HC h.1 a k c) (Below.refl w.heap.size w)
  have HB := hid (beg_any (n := n) (t.hd.step hb1).c0 hk)
  have HG := hid hg
  have HT := hid t
  have HCS := hid hC
  obtain ⟨W, m, N, e1, e2, hW, hm, hkW, hw, hpl, tr, HN⟩ := good_entry (t.step hb1) hg
  rw [if_pos hC] at HN
  obtain ⟨z, hz⟩ : ∃ z, N m (key / 2 ^ (W - m)) = some z := by
    cases hh : N m (key / 2 ^ (W - m)) with
    | none => rw [hpl] at hC; simp only at hC; rw [tr.cn _ _ hh] at hC; cases hC
    | some z => exact ⟨z, rfl⟩
  obtain ⟨zb, zo⟩ := z
  rw [hz] at HN
  simp only [ptr] at HN
  have HN' := hid HN
  have HP := hid (And.intro hpl (And.intro hw hz))
  have HTR := hid tr
  clear t hg HN hC e1 e2 hW hm hkW hw hpl tr hz hb1
  go_enter Tryz.func97, Tryz.ntmps97
  go_wp2_with fail
  refine HB.out.mono ?_
  rintro e w1 ⟨b, rfl, hb, rfl⟩
  have eb : b = true := hb.2 HG.out
  subst eb
  clear HB hb
  go_wp2_with fail
  refine HN'.out.mono ?_
  rintro e w2 ⟨rfl, s, rfl⟩
  clear HN'
  have G2 := hid (below_drewN (bl_alloc (o := HC h.1 a k c) (Below.refl w.heap.size w)) s)
  have M2 := moved_below (drew_below (w.alloc (HC h.1 a k c)) s)
  obtain ⟨l0, l1⟩ := hc_cells M2
  have HSZ := hid (HS.out.moved (moved_below G2.out))
  have T2 := hid (HTR.out.drewN s)
  clear HTR HS M2
  generalize (w.alloc (HC h.1 a k c)).drewN s = w2 at *
  go_wp2_with fail
  refine (copied_any HSZ.out).mono ?_
  rintro e w5 ⟨q, rfl, _, hl5, hf5⟩
  have HEND := hid (chg_end HT.out G2.out HG.out HCS.out HP.out.1 HP.out.2.1 T2.out HP.out.2.2 hl5 hf5)
  obtain ⟨z, n5, _⟩ := ((T2.out.step hf5).node _ _ _ HP.out.2.2).c2
  have f5 := ((T2.out.step hf5).node _ _ _ HP.out.2.2).f2
  clear T2 hl5 hf5 HT HG HCS HSZ G2 l0 l1
  go_wp2
  go_ret
  exact HEND.out
end Go.Proofs.YtffbnggdckjogaaGreat

namespace Go.Proofs.YtffbnggdckjogaaGreat
open Go.RowKit Mth
def AddStill (w w' : World) (B : Nat → Prop) (p : Nat) (wd most : Int) (C : Told2) (es : List (Nat × Nat)) (key : Nat) (n : Int) (h : HitM) (e : Ending) : Prop := AddDone w w' B p wd most C es key n h e ∧ (addCode C es wd most key n ≠ 0 → Below w.heap.size w w')
def DropStill (w w' : World) (B : Nat → Prop) (p : Nat) (wd most : Int) (C : Told2) (es : List (Nat × Nat)) (key : Nat) (n : Int) (e : Ending) : Prop := DropDone w w' B p wd most C es key n e ∧ (hasCode C wd key n ≠ 0 → Below w.heap.size w w')
def ChgStill (w w' : World) (B : Nat → Prop) (p : Nat) (wd most : Int) (C : Told2) (es : List (Nat × Nat)) (key : Nat) (n : Int) (h : HitM) (e : Ending) : Prop := ChgDone w w' B p wd most C es key n h e ∧ (hasCode C wd key n ≠ 0 → Below w.heap.size w w')
theorem add_keepS {w w' : World} {B : Nat → Prop} {p : Nat} {wd most : Int} {C : Told2} {es : List (Nat × Nat)} {key : Nat} {n : Int} {h : HitM} {c : Int} (t : Tab w B p wd most C es) (hb : Below w.heap.size w w') (hc : addCode C es wd most key n = c) (h0 : c ≠ 0) : AddStill w w' B p wd most C es key n h (.returned (.int .i64 c)) := ⟨add_keep t hb hc h0, fun _ => hb⟩
theorem drop_keepS {w w' : World} {B : Nat → Prop} {p : Nat} {wd most : Int} {C : Told2} {es : List (Nat × Nat)} {key : Nat} {n : Int} {c : Int} (t : Tab w B p wd most C es) (hb : Below w.heap.size w w') (hc : hasCode C wd key n = c) (h0 : c ≠ 0) : DropStill w w' B p wd most C es key n (.returned (.int .i64 c)) := ⟨drop_keep t hb hc h0, fun _ => hb⟩
theorem chg_keepS {w w' : World} {B : Nat → Prop} {p : Nat} {wd most : Int} {C : Told2} {es : List (Nat × Nat)} {key : Nat} {n : Int} {h : HitM} {c : Int} (t : Tab w B p wd most C es) (hb : Below w.heap.size w w') (hc : hasCode C wd key n = c) (h0 : c ≠ 0) : ChgStill w w' B p wd most C es key n h (.returned (.int .i64 c)) := ⟨chg_keep t hb hc h0, fun _ => hb⟩
set_option maxHeartbeats 400000 in
set_option maxRecDepth 20000 in
theorem add_badS {w : World} {B : Nat → Prop} {p key : Nat} {wd most n : Int} {C : Told2} {es : List (Nat × Nat)} {v : Value} {h : HitM} (t : Tab w B p wd most C es) (hk : key < 18446744073709551616) (hs : Says w v h) (hg : ¬ Good wd key n) :
    Calls Tryz.prog 95 #[.pointer (some ⟨p, 0, none⟩), .int .u64 key, .int .i64 n, v] w fun e w' => AddStill w w' B p wd most C es key n h e := by
  obtain ⟨a, k, c, rfl, _⟩ := hs
  have hb1 := bl_alloc (o := HC h.1 a k c) (Below.refl w.heap.size w)
  have HE := hid (add_keepS (key := key) (n := n) (h := h) (c := 6) t hb1 (by unfold addCode; rw [if_neg hg]) (by decide))
  have HB := hid (beg_any (n := n) (t.hd.step hb1).c0 hk)
  have HG := hid hg
  clear t hb1 hg
  go_enter Tryz.func95, Tryz.ntmps95
  go_wp2_with fail
  refine HB.out.mono ?_
  rintro e w1 ⟨b, rfl, hb, rfl⟩
  have eb : b = false := by cases b with | true => exact absurd (hb.1 rfl) HG.out | false => rfl
  subst eb
  clear HB HG hb
  go_wp2
  go_ret
  exact HE.out
set_option maxHeartbeats 400000 in
set_option maxRecDepth 20000 in
theorem add_twiceS {w : World} {B : Nat → Prop} {p key : Nat} {wd most n : Int} {C : Told2} {es : List (Nat × Nat)} {v : Value} {h : HitM} (t : Tab w B p wd most C es) (hk : key < 18446744073709551616) (hs : Says w v h) (hg : Good wd key n) (hC : (C (place wd key n).1 (place wd key n).2).isSome = true) :
    Calls Tryz.prog 95 #[.pointer (some ⟨p, 0, none⟩), .int .u64 key, .int .i64 n, v] w fun e w' => AddStill w w' B p wd most C es key n h e := by
  obtain ⟨a, k, c, rfl, _⟩ := hs
  have hb1 := bl_alloc (o := HC h.1 a k c) (Below.refl w.heap.size w)
  have HE : ∀ s, Hid (AddStill w ((w.alloc (HC h.1 a k c)).drewN s) B p wd most C es key n h (.returned (.int .i64 7))) := fun s => hid (add_keepS t (below_drewN hb1 s) (by unfold addCode; rw [if_pos hg, if_pos hC]) (by decide))
  have HB := hid (beg_any (n := n) (t.hd.step hb1).c0 hk)
  have HG := hid hg
  obtain ⟨N, tr⟩ := t.tr
  obtain ⟨W, m, e1, e2, h1, h2, h3, h4, h5, h6, h7⟩ := hg.out
  rw [h7] at hC
  have c0 := t.hd.c0
  rw [h6] at tr
  have HN := entry_any (key := key) (n := m) (tr.step hb1) (by rw [← e1]; exact (t.hd.step hb1).c0) h2 h4 h3
  rw [if_pos hC, ← e2] at HN
  obtain ⟨z, hz⟩ : ∃ z, N m (key / 2 ^ (W - m)) = some z := by
    cases hh : N m (key / 2 ^ (W - m)) with
    | none => rw [tr.cn _ _ hh] at hC; cases hC
    | some z => exact ⟨z, rfl⟩
  rw [hz] at HN
  simp only [ptr] at HN
  have HN' := hid HN
  clear t hb1 hg tr HN hz hC c0 h1 h2 h3 h4 h5 h6 h7 e1 e2
  go_enter Tryz.func95, Tryz.ntmps95
  go_wp2_with fail
  refine HB.out.mono ?_
  rintro e w1 ⟨b, rfl, hb, rfl⟩
  have eb : b = true := hb.2 HG.out
  subst eb
  clear HB HG hb
  go_wp2_with fail
  refine HN'.out.mono ?_
  rintro e w1 ⟨rfl, s, rfl⟩
  clear HN'
  go_wp2
  go_ret
  exact (HE s).out
set_option maxHeartbeats 400000 in
set_option maxRecDepth 20000 in
theorem add_fullS {w : World} {B : Nat → Prop} {p key : Nat} {wd most n : Int} {C : Told2} {es : List (Nat × Nat)} {v : Value} {h : HitM} (t : Tab w B p wd most C es) (hk : key < 18446744073709551616) (hs : Says w v h) (hg : Good wd key n) (hC : C (place wd key n).1 (place wd key n).2 = none) (hf : most ≤ (es.length : Int)) :
    Calls Tryz.prog 95 #[.pointer (some ⟨p, 0, none⟩), .int .u64 key, .int .i64 n, v] w fun e w' => AddStill w w' B p wd most C es key n h e := by
  obtain ⟨a, k, c, rfl, _⟩ := hs
  have hb1 := bl_alloc (o := HC h.1 a k c) (Below.refl w.heap.size w)
  have HE : ∀ s, Hid (AddStill w ((w.alloc (HC h.1 a k c)).drewN s) B p wd most C es key n h (.returned (.int .i64 10))) := fun s => hid (add_keepS t (below_drewN hb1 s) (by unfold addCode; rw [if_pos hg, hC, if_neg (by simp), if_pos hf]) (by decide))
  have HB := hid (beg_any (n := n) (t.hd.step hb1).c0 hk)
  have HG := hid hg
  have HD := hid (t.hd.step hb1)
  obtain ⟨N, tr⟩ := t.tr
  obtain ⟨W, m, e1, e2, h1, h2, h3, h4, h5, h6, h7⟩ := hg.out
  rw [h7] at hC
  rw [h6] at tr
  have HN := entry_any (key := key) (n := m) (tr.step hb1) (by rw [← e1]; exact (t.hd.step hb1).c0) h2 h4 h3
  rw [hC, if_neg (by simp), ← e2] at HN
  have HN' := hid HN
  clear t hb1 hg tr HN hC h1 h2 h3 h4 h5 h6 h7 e1 e2
  go_enter Tryz.func95, Tryz.ntmps95
  go_wp2_with fail
  refine HB.out.mono ?_
  rintro e w1 ⟨b, rfl, hb, rfl⟩
  have eb : b = true := hb.2 HG.out
  subst eb
  clear HB HG hb
  go_wp2_with fail
  refine HN'.out.mono ?_
  rintro e w1 ⟨rfl, s, rfl⟩
  clear HN'
  have c1 := (HD.out.drewN s).c1
  have c2 := (HD.out.drewN s).c2
  generalize hw2 : (w.alloc (HC h.1 a k c)).drewN s = w2 at *
  have HE2 : Hid (∀ s, AddStill w (w2.drewN s) B p wd most C es key n h (.returned (.int .i64 10))) := by
    intro s'
    rw [← hw2, World.drewN_drewN]
    exact (HE _).out
  clear HE hw2
  go_wp2
  go_quiet (fail)
  go_wp2
  go_ret
  exact HE2.out _
set_option maxHeartbeats 400000 in
set_option maxRecDepth 20000 in
theorem drop_badS {w : World} {B : Nat → Prop} {p key : Nat} {wd most n : Int} {C : Told2} {es : List (Nat × Nat)} (t : Tab w B p wd most C es) (hk : key < 18446744073709551616) (hg : ¬ Good wd key n) :
    Calls Tryz.prog 98 #[.pointer (some ⟨p, 0, none⟩), .int .u64 key, .int .i64 n] w fun e w' => DropStill w w' B p wd most C es key n e := by
  have HE := hid (drop_keepS (key := key) (n := n) (c := 6) t (Below.refl _ _) (by unfold hasCode; rw [if_neg hg]) (by decide))
  have HB := hid (beg_any (n := n) t.hd.c0 hk)
  have HG := hid hg
  clear t hg
  go_enter Tryz.func98, Tryz.ntmps98
  go_wp2_with fail
  refine HB.out.mono ?_
  rintro e w1 ⟨b, rfl, hb, rfl⟩
  have eb : b = false := by cases b with | true => exact absurd (hb.1 rfl) HG.out | false => rfl
  subst eb
  clear HB HG hb
  go_wp2
  go_ret
  exact HE.out
set_option maxHeartbeats 400000 in
set_option maxRecDepth 20000 in
theorem drop_noneS {w : World} {B : Nat → Prop} {p key : Nat} {wd most n : Int} {C : Told2} {es : List (Nat × Nat)} (t : Tab w B p wd most C es) (hk : key < 18446744073709551616) (hg : Good wd key n) (hC : C (place wd key n).1 (place wd key n).2 = none) :
    Calls Tryz.prog 98 #[.pointer (some ⟨p, 0, none⟩), .int .u64 key, .int .i64 n] w fun e w' => DropStill w w' B p wd most C es key n e := by
  have HE := fun s => hid (drop_keepS (key := key) (n := n) (c := 9) t (drew_below w s) (by unfold hasCode; rw [if_pos hg, hC, if_neg (by simp)]) (by decide))
  have HB := hid (beg_any (n := n) t.hd.c0 hk)
  have HG := hid hg
  obtain ⟨W, m, N, -, -, -, -, -, -, -, -, HN⟩ := good_entry t hg
  rw [hC, if_neg (by simp)] at HN
  have HN' := hid HN
  clear t hg HN hC
  go_enter Tryz.func98, Tryz.ntmps98
  go_wp2_with fail
  refine HB.out.mono ?_
  rintro e w1 ⟨b, rfl, hb, rfl⟩
  have eb : b = true := hb.2 HG.out
  subst eb
  clear HB HG hb
  go_wp2_with fail
  refine HN'.out.mono ?_
  rintro e w1 ⟨rfl, s, rfl⟩
  clear HN'
  go_wp2
  go_ret
  exact (HE s).out
set_option maxHeartbeats 400000 in
set_option maxRecDepth 20000 in
theorem chg_badS {w : World} {B : Nat → Prop} {p key : Nat} {wd most n : Int} {C : Told2} {es : List (Nat × Nat)} {v : Value} {h : HitM} (t : Tab w B p wd most C es) (hk : key < 18446744073709551616) (hs : Says w v h) (hg : ¬ Good wd key n) :
    Calls Tryz.prog 97 #[.pointer (some ⟨p, 0, none⟩), .int .u64 key, .int .i64 n, v] w fun e w' => ChgStill w w' B p wd most C es key n h e := by
  obtain ⟨a, k, c, rfl, _⟩ := hs
  have hb1 := bl_alloc (o := HC h.1 a k c) (Below.refl w.heap.size w)
  have HE := hid (chg_keepS (key := key) (n := n) (h := h) (c := 6) t hb1 (by unfold hasCode; rw [if_neg hg]) (by decide))
  have HB := hid (beg_any (n := n) (t.hd.step hb1).c0 hk)
  have HG := hid hg
  clear t hb1 hg
  go_enter Tryz.func97, Tryz.ntmps97
  go_wp2_with fail
  refine HB.out.mono ?_
  rintro e w1 ⟨b, rfl, hb, rfl⟩
  have eb : b = false := by cases b with | true => exact absurd (hb.1 rfl) HG.out | false => rfl
  subst eb
  clear HB HG hb
  go_wp2
  go_ret
  exact HE.out
set_option maxHeartbeats 400000 in
set_option maxRecDepth 20000 in
theorem chg_noneS {w : World} {B : Nat → Prop} {p key : Nat} {wd most n : Int} {C : Told2} {es : List (Nat × Nat)} {v : Value} {h : HitM} (t : Tab w B p wd most C es) (hk : key < 18446744073709551616) (hs : Says w v h) (hg : Good wd key n) (hC : C (place wd key n).1 (place wd key n).2 = none) :
    Calls Tryz.prog 97 #[.pointer (some ⟨p, 0, none⟩), .int .u64 key, .int .i64 n, v] w fun e w' => ChgStill w w' B p wd most C es key n h e := by
  obtain ⟨a, k, c, rfl, _⟩ := hs
  have hb1 := bl_alloc (o := HC h.1 a k c) (Below.refl w.heap.size w)
  have HE := fun s => hid (chg_keepS (key := key) (n := n) (h := h) (c := 9) t (below_drewN hb1 s) (by unfold hasCode; rw [if_pos hg, hC, if_neg (by simp)]) (by decide))
  have HB := hid (beg_any (n := n) (t.hd.step hb1).c0 hk)
  have HG := hid hg
  obtain ⟨W, m, N, -, -, -, -, -, -, -, -, HN⟩ := good_entry (t.step hb1) hg
  rw [hC, if_neg (by simp)] at HN
  have HN' := hid HN
  clear t hg HN hC hb1
  go_enter Tryz.func97, Tryz.ntmps97
  go_wp2_with fail
  refine HB.out.mono ?_
  rintro e w1 ⟨b, rfl, hb, rfl⟩
  have eb : b = true := hb.2 HG.out
  subst eb
  clear HB HG hb
  go_wp2_with fail
  refine HN'.out.mono ?_
  rintro e w1 ⟨rfl, s, rfl⟩
  clear HN'
  go_wp2
  go_ret
  exact (HE s).out
theorem add_anyS {w : World} {B : Nat → Prop} {p key : Nat} {wd most n : Int} {C : Told2} {es : List (Nat × Nat)} {v : Value} {h : HitM} (t : Tab w B p wd most C es) (hk : key < 18446744073709551616) (hs : Says w v h) (hl : es.length ≤ 100000) :
    Calls Tryz.prog 95 #[.pointer (some ⟨p, 0, none⟩), .int .u64 key, .int .i64 n, v] w fun e w' => AddStill w w' B p wd most C es key n h e := by
  by_cases hg : Good wd key n
  · by_cases hC : (C (place wd key n).1 (place wd key n).2).isSome = true
    · exact add_twiceS t hk hs hg hC
    · by_cases hf : most ≤ (es.length : Int)
      · exact add_fullS t hk hs hg (isSome_not hC) hf
      · have hc : addCode C es wd most key n = 0 := by unfold addCode; rw [if_pos hg, isSome_not hC, if_neg (by simp), if_neg hf]
        exact (add_good t hk hs hg (isSome_not hC) (by omega) hl).mono fun e w' h => ⟨h, fun h0 => absurd hc h0⟩
  · exact add_badS t hk hs hg
theorem drop_anyS {w : World} {B : Nat → Prop} {p key : Nat} {wd most n : Int} {C : Told2} {es : List (Nat × Nat)} (t : Tab w B p wd most C es) (hk : key < 18446744073709551616) (hl : es.length ≤ 100000) :
    Calls Tryz.prog 98 #[.pointer (some ⟨p, 0, none⟩), .int .u64 key, .int .i64 n] w fun e w' => DropStill w w' B p wd most C es key n e := by
  by_cases hg : Good wd key n
  · by_cases hC : (C (place wd key n).1 (place wd key n).2).isSome = true
    · have hc : hasCode C wd key n = 0 := by unfold hasCode; rw [if_pos hg, if_pos hC]
      exact (drop_good t hk hg hC hl).mono fun e w' h => ⟨h, fun h0 => absurd hc h0⟩
    · exact drop_noneS t hk hg (isSome_not hC)
  · exact drop_badS t hk hg
theorem chg_anyS {w : World} {B : Nat → Prop} {p key : Nat} {wd most n : Int} {C : Told2} {es : List (Nat × Nat)} {v : Value} {h : HitM} (t : Tab w B p wd most C es) (hk : key < 18446744073709551616) (hs : Says w v h) :
    Calls Tryz.prog 97 #[.pointer (some ⟨p, 0, none⟩), .int .u64 key, .int .i64 n, v] w fun e w' => ChgStill w w' B p wd most C es key n h e := by
  by_cases hg : Good wd key n
  · by_cases hC : (C (place wd key n).1 (place wd key n).2).isSome = true
    · have hc : hasCode C wd key n = 0 := by unfold hasCode; rw [if_pos hg, if_pos hC]
      exact (chg_good t hk hs hg hC).mono fun e w' h => ⟨h, fun h0 => absurd hc h0⟩
    · exact chg_noneS t hk hs hg (isSome_not hC)
  · exact chg_badS t hk hs hg
end Go.Proofs.YtffbnggdckjogaaGreat
