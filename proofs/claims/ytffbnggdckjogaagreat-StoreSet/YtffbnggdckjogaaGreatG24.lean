/- Texts of one chain, joined: SWhole. -/
import Derived.Test.YtffbnggdckjogaaGreatG9
import Derived.Test.YtffbnggdckjogaaGreatG11
import Derived.Test.YtffbnggdckjogaaGreatG22
import Derived.Test.YtffbnggdckjogaaGreatG23
import Derived.Deep.DeepCutAuto
import Derived.Deep.RegionHeld3
namespace Go.Proofs.YtffbnggdckjogaaGreat
open Go.RowKit Mth
theorem says_ex {w : World} {v : Value} {h : HitM} (s : Says w v h) : Ex.Says w v h := s
theorem MD.good.says {d : MD} {w : World} {e : TE} (h : d.good w e) : Says w (.agg #[.int .i64 d.ac, .slice d.a d.n d.c]) (e.ac, e.xs) := ⟨d.a, d.n, d.c, by rw [h.ac], h.n0, h.xs3, h.xs⟩
@[reducible] def boxV (p : Nat) : Value := .agg #[.pointer (some ⟨p, 0, none⟩)]
theorem Ex.XTo.after {w wx w' : World} {p b K M : Nat} {C : List UInt8 → Option (Int × List Int)} {ss : List (List UInt8)} {code : Int} (hb : Below w.heap.size w wx) (h : Ex.XTo wx w' p b K M C ss code) : Ex.XTo w w' p b K M C ss code := ⟨h.t, Ex.Grew.andThen hb h.g, fun h0 => bl_step hb (h.still h0)⟩
theorem TabTo.after {w wx w' : World} {B : Nat → Prop} {p : Nat} {wd most : Int} {C : Told2} {es : List (Nat × Nat)} (hb : Below w.heap.size w wx) (h : TabTo wx w' B p wd most C es) : TabTo w w' B p wd most C es := ⟨h.t, (below_zon B hb).trans h.bel, (moved_below hb).trans h.mov⟩
structure Box2 (tb eb p : Nat) (d : MD) (w : World) : Prop where
  c : w.cell? ⟨tb, 0, none⟩ = some (.pointer (some ⟨p, 0, none⟩))
  e0 : w.cell? ⟨eb, 0, none⟩ = some (.slice d.ka d.kn d.kc)
  e1 : w.cell? ⟨eb, 1, none⟩ = some (.slice d.ma d.mn d.mc)
  e2 : w.cell? ⟨eb, 2, none⟩ = some (.int .i64 d.ln)
  e3 : w.cell? ⟨eb, 3, none⟩ = some (.int .i64 d.pr)
  e4 : w.cell? ⟨eb, 4, none⟩ = some (.int .i64 d.ac)
  e5 : w.cell? ⟨eb, 5, none⟩ = some (.slice d.a d.n d.c)
theorem Box2.step {tb eb p : Nat} {d : MD} {w w' : World} (h : Box2 tb eb p d w) (hb : Below w.heap.size w w') : Box2 tb eb p d w' := ⟨(hb.cell (World.block_lt_of_cell? _ _ h.c)).trans h.c, (hb.cell (World.block_lt_of_cell? _ _ h.e0)).trans h.e0, (hb.cell (World.block_lt_of_cell? _ _ h.e1)).trans h.e1, (hb.cell (World.block_lt_of_cell? _ _ h.e2)).trans h.e2, (hb.cell (World.block_lt_of_cell? _ _ h.e3)).trans h.e3, (hb.cell (World.block_lt_of_cell? _ _ h.e4)).trans h.e4, (hb.cell (World.block_lt_of_cell? _ _ h.e5)).trans h.e5⟩
theorem Box2.grew {tb eb p : Nat} {d : MD} {w w' : World} {row : Option Nat} (h : Box2 tb eb p d w) (g : Ex.Grew w w' row) : Box2 tb eb p d w' := ⟨g.cell h.c, g.cell h.e0, g.cell h.e1, g.cell h.e2, g.cell h.e3, g.cell h.e4, g.cell h.e5⟩
theorem box2_new (w : World) (p : Nat) (d : MD) (T : TypeId) : Box2 w.heap.size (w.heap.size + 1) p d ((w.alloc (.cells #[.pointer (some ⟨p, 0, none⟩)] T)).alloc d.ec) := ⟨by simp, by simp, by simp, by simp, by simp, by simp, by simp⟩
set_option maxHeartbeats 1000000 in
set_option maxRecDepth 20000 in
theorem wadd_any {w : World} {p b K M : Nat} {C : List UInt8 → Option (Int × List Int)} {ss : List (List UInt8)} {d : MD} {e : TE} (t : Ex.Tab w p b K M C ss) (hK : K ≤ 1000) (hM : M ≤ 100000) (hd : d.good w e) :
    Calls Tryz.prog 92 #[boxV p, d.ev] w fun r w' => r = .returned (.int .i64 (Ex.addCode C ss K M d.kn (Ex.Mth.nm e.ks))) ∧ Ex.XTo w w' p b K M (Ex.addXC C ss K M d.kn (Ex.Mth.nm e.ks) (e.ac, e.xs)) (Ex.addXS C ss K M d.kn (Ex.Mth.nm e.ks)) (Ex.addCode C ss K M d.kn (Ex.Mth.nm e.ks)) := by
  obtain ⟨W2, hW2⟩ : ∃ W2, W2 = (w.alloc (.cells #[.pointer (some ⟨p, 0, none⟩)] 79)).alloc d.ec := ⟨_, rfl⟩
  obtain ⟨tb, htb⟩ : ∃ b, b = w.heap.size := ⟨_, rfl⟩
  obtain ⟨eb, heb⟩ : ∃ b, b = w.heap.size + 1 := ⟨_, rfl⟩
  have b2 : Below w.heap.size w W2 := by rw [hW2]; exact bl_alloc (bl_alloc (Below.refl _ _))
  have BX : Box2 tb eb p d W2 := by rw [hW2, htb, heb]; exact box2_new w p d _
  have HH := hid (fun w => shitOf_any d w)
  have HX : Hid (∀ wx, Below W2.drew.heap.size W2.drew wx → Box2 tb eb p d wx ∧ tb < wx.heap.size ∧ eb < wx.heap.size ∧ Hid (Calls Tryz.prog 54 #[.pointer (some ⟨p, 0, none⟩), .slice d.ka d.kn d.kc, .agg #[.int .i64 d.ac, .slice d.a d.n d.c]] wx fun r w' => (r = .returned (.int .i64 (Ex.addCode C ss K M d.kn (Ex.Mth.nm e.ks))) ∧ Ex.XTo w w' p b K M (Ex.addXC C ss K M d.kn (Ex.Mth.nm e.ks) (e.ac, e.xs)) (Ex.addXS C ss K M d.kn (Ex.Mth.nm e.ks)) (Ex.addCode C ss K M d.kn (Ex.Mth.nm e.ks))) ∧ Box2 tb eb p d w')) := fun wx hb => by
    have hbx : Below w.heap.size w wx := bl_step (bl_step b2 (Below.refl _ _).drew) hb
    have bx := BX.step (bl_step (Below.refl W2.heap.size W2).drew hb)
    exact ⟨bx, World.block_lt_of_cell? _ _ bx.c, World.block_lt_of_cell? _ _ bx.e0, (Ex.xadd_any (t.step hbx) hK hM (hd.ks.step hbx) (says_ex (hd.step hbx).says)).mono fun r w' h => ⟨⟨h.1, h.2.after hbx⟩, bx.grew ((t.step hbx).grew_own h.2.g)⟩⟩
  obtain ⟨c0, e0, e1, e2, e3, e4, e5⟩ := BX
  have htl : tb < W2.heap.size := World.block_lt_of_cell? _ _ c0
  have hel : eb < W2.heap.size := World.block_lt_of_cell? _ _ e0
  have EW := hid hW2
  have ET := hid htb
  have EE := hid heb
  clear hW2 htb heb b2 t hd
  go_enter Tryz.func92, Tryz.ntmps92
  go_upto_region 1 with fail
  rw [← EW.out, ← EE.out, ← ET.out]
  clear EW EE ET
  go_wp2_with fail
  go_region_held3 (fun w' => w'.cell? ⟨tb, 0, none⟩ = some (.pointer (some ⟨p, 0, none⟩)) ∧ w'.cell? ⟨eb, 0, none⟩ = some (.slice d.ka d.kn d.kc) ∧ w'.cell? ⟨eb, 1, none⟩ = some (.slice d.ma d.mn d.mc) ∧ w'.cell? ⟨eb, 2, none⟩ = some (.int .i64 d.ln) ∧ w'.cell? ⟨eb, 3, none⟩ = some (.int .i64 d.pr) ∧ w'.cell? ⟨eb, 4, none⟩ = some (.int .i64 d.ac) ∧ w'.cell? ⟨eb, 5, none⟩ = some (.slice d.a d.n d.c))
    (first
      | go_keep
      | (go_split_ands; with_reducible exact ⟨by assumption, by assumption, by assumption, by assumption, by assumption, by assumption, by assumption⟩))
    (first
      | (go_at_call 32; refine (HH.out _).mono ?_; rintro r wx ⟨rfl, hgx⟩; obtain ⟨⟨x0, x1, x2, x3, x4, x5, x6⟩, l1, l2, HA⟩ := HX.out wx hgx.below)
      | (go_at_call 54; refine HA.out.mono ?_; rintro r wy ⟨⟨rfl, hy⟩, ⟨y0, y1, y2, y3, y4, y5, y6⟩⟩))
  all_goals
    have HY := hid hy
    clear hy x0 x1 x2 x3 x4 x5 x6 y0 y1 y2 y3 y4 y5 y6 HA HX
    go_wp2
    go_ret
    exact ⟨rfl, HY.out⟩
set_option maxHeartbeats 1000000 in
set_option maxRecDepth 20000 in
theorem wchg_any {w : World} {p b K M : Nat} {C : List UInt8 → Option (Int × List Int)} {ss : List (List UInt8)} {d : MD} {e : TE} (t : Ex.Tab w p b K M C ss) (hK : K ≤ 1000) (hM : M ≤ 100000) (hd : d.good w e) :
    Calls Tryz.prog 93 #[boxV p, d.ev] w fun r w' => r = .returned (.int .i64 (Ex.hasCode C K d.kn (Ex.Mth.nm e.ks))) ∧ Ex.XTo w w' p b K M (Ex.chgXC C K d.kn (Ex.Mth.nm e.ks) (e.ac, e.xs)) ss (Ex.hasCode C K d.kn (Ex.Mth.nm e.ks)) := by
  obtain ⟨W2, hW2⟩ : ∃ W2, W2 = (w.alloc (.cells #[.pointer (some ⟨p, 0, none⟩)] 79)).alloc d.ec := ⟨_, rfl⟩
  obtain ⟨tb, htb⟩ : ∃ b, b = w.heap.size := ⟨_, rfl⟩
  obtain ⟨eb, heb⟩ : ∃ b, b = w.heap.size + 1 := ⟨_, rfl⟩
  have b2 : Below w.heap.size w W2 := by rw [hW2]; exact bl_alloc (bl_alloc (Below.refl _ _))
  have BX : Box2 tb eb p d W2 := by rw [hW2, htb, heb]; exact box2_new w p d _
  have HH := hid (fun w => shitOf_any d w)
  have HX : Hid (∀ wx, Below W2.drew.heap.size W2.drew wx → Box2 tb eb p d wx ∧ tb < wx.heap.size ∧ eb < wx.heap.size ∧ Hid (Calls Tryz.prog 56 #[.pointer (some ⟨p, 0, none⟩), .slice d.ka d.kn d.kc, .agg #[.int .i64 d.ac, .slice d.a d.n d.c]] wx fun r w' => (r = .returned (.int .i64 (Ex.hasCode C K d.kn (Ex.Mth.nm e.ks))) ∧ Ex.XTo w w' p b K M (Ex.chgXC C K d.kn (Ex.Mth.nm e.ks) (e.ac, e.xs)) ss (Ex.hasCode C K d.kn (Ex.Mth.nm e.ks))) ∧ Box2 tb eb p d w')) := fun wx hb => by
    have hbx : Below w.heap.size w wx := bl_step (bl_step b2 (Below.refl _ _).drew) hb
    have bx := BX.step (bl_step (Below.refl W2.heap.size W2).drew hb)
    exact ⟨bx, World.block_lt_of_cell? _ _ bx.c, World.block_lt_of_cell? _ _ bx.e0, (Ex.xchg_any (t.step hbx) hK hM (hd.ks.step hbx) (says_ex (hd.step hbx).says)).mono fun r w' h => ⟨⟨h.1, h.2.after hbx⟩, bx.grew ((t.step hbx).grew_own h.2.g)⟩⟩
  obtain ⟨c0, e0, e1, e2, e3, e4, e5⟩ := BX
  have htl : tb < W2.heap.size := World.block_lt_of_cell? _ _ c0
  have hel : eb < W2.heap.size := World.block_lt_of_cell? _ _ e0
  have EW := hid hW2
  have ET := hid htb
  have EE := hid heb
  clear hW2 htb heb b2 t hd
  go_enter Tryz.func93, Tryz.ntmps93
  go_upto_region 1 with fail
  rw [← EW.out, ← EE.out, ← ET.out]
  clear EW EE ET
  go_wp2_with fail
  go_region_held3 (fun w' => w'.cell? ⟨tb, 0, none⟩ = some (.pointer (some ⟨p, 0, none⟩)) ∧ w'.cell? ⟨eb, 0, none⟩ = some (.slice d.ka d.kn d.kc) ∧ w'.cell? ⟨eb, 1, none⟩ = some (.slice d.ma d.mn d.mc) ∧ w'.cell? ⟨eb, 2, none⟩ = some (.int .i64 d.ln) ∧ w'.cell? ⟨eb, 3, none⟩ = some (.int .i64 d.pr) ∧ w'.cell? ⟨eb, 4, none⟩ = some (.int .i64 d.ac) ∧ w'.cell? ⟨eb, 5, none⟩ = some (.slice d.a d.n d.c))
    (first
      | go_keep
      | (go_split_ands; with_reducible exact ⟨by assumption, by assumption, by assumption, by assumption, by assumption, by assumption, by assumption⟩))
    (first
      | (go_at_call 32; refine (HH.out _).mono ?_; rintro r wx ⟨rfl, hgx⟩; obtain ⟨⟨x0, x1, x2, x3, x4, x5, x6⟩, l1, l2, HA⟩ := HX.out wx hgx.below)
      | (go_at_call 56; refine HA.out.mono ?_; rintro r wy ⟨⟨rfl, hy⟩, ⟨y0, y1, y2, y3, y4, y5, y6⟩⟩))
  all_goals
    have HY := hid hy
    clear hy x0 x1 x2 x3 x4 x5 x6 y0 y1 y2 y3 y4 y5 y6 HA HX
    go_wp2
    go_ret
    exact ⟨rfl, HY.out⟩
set_option maxHeartbeats 1000000 in
set_option maxRecDepth 20000 in
theorem wdrop_any {w : World} {p b K M : Nat} {C : List UInt8 → Option (Int × List Int)} {ss : List (List UInt8)} {d : MD} {e : TE} (t : Ex.Tab w p b K M C ss) (hK : K ≤ 1000) (hd : d.good w e) :
    Calls Tryz.prog 94 #[boxV p, d.ev] w fun r w' => r = .returned (.int .i64 (Ex.hasCode C K d.kn (Ex.Mth.nm e.ks))) ∧ Ex.XTo w w' p b K M (Ex.dropXC C K d.kn (Ex.Mth.nm e.ks)) (Ex.dropXS C ss K d.kn (Ex.Mth.nm e.ks)) (Ex.hasCode C K d.kn (Ex.Mth.nm e.ks)) := by
  obtain ⟨W2, hW2⟩ : ∃ W2, W2 = (w.alloc (.cells #[.pointer (some ⟨p, 0, none⟩)] 79)).alloc d.ec := ⟨_, rfl⟩
  obtain ⟨tb, htb⟩ : ∃ b, b = w.heap.size := ⟨_, rfl⟩
  obtain ⟨eb, heb⟩ : ∃ b, b = w.heap.size + 1 := ⟨_, rfl⟩
  have b2 : Below w.heap.size w W2 := by rw [hW2]; exact bl_alloc (bl_alloc (Below.refl _ _))
  have BX : Box2 tb eb p d W2 := by rw [hW2, htb, heb]; exact box2_new w p d _
  have HX := hid (Ex.xdrop_any (c := d.kc) (t.step b2) hK (hd.ks.step b2))
  have HB := hid b2
  obtain ⟨c0, e0, e1, e2, e3, e4, e5⟩ := BX
  have htl : tb < W2.heap.size := World.block_lt_of_cell? _ _ c0
  have hel : eb < W2.heap.size := World.block_lt_of_cell? _ _ e0
  have EW := hid hW2
  have ET := hid htb
  have EE := hid heb
  clear hW2 htb heb b2 t hd
  go_enter Tryz.func94, Tryz.ntmps94
  go_upto_region 1 with fail
  rw [← EW.out, ← EE.out, ← ET.out]
  clear EW EE ET
  go_wp2_with fail
  refine HX.out.mono ?_
  rintro r w3 ⟨rfl, h3⟩
  have HY := hid (h3.after HB.out)
  clear h3 HX
  go_wp2
  go_ret
  exact ⟨rfl, HY.out⟩
end Go.Proofs.YtffbnggdckjogaaGreat
