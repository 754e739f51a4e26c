/- Texts of one chain, joined: SBegin. -/
import Derived.Test.YtffbnggdckjogaaGreatG24
import Derived.Test.YtffbnggdckjogaaGreatG25
namespace Go.Proofs.YtffbnggdckjogaaGreat
open Go.RowKit Mth
structure Key1 (d : MD) (e : TE) (w : World) (kg ko key : Nat) : Prop where
  a : d.ka = some ⟨kg, ko, none⟩
  n : d.kn = 1
  k : e.ks = [(key : Int)]
  c : w.cell? ⟨kg, ko, none⟩ = some (.int .u64 (key : Int))
  lt : key < 18446744073709551616
theorem key1_of {d : MD} {e : TE} {w : World} (h : d.good w e) (hn : d.kn = 1) : ∃ kg ko key, Key1 d e w kg ko key := by
  obtain ⟨kg, ko, ea, _, hc⟩ := h.ks.some (by omega)
  have hl : e.ks.length = 1 := by rw [h.ks.1, hn]
  obtain ⟨x, hx⟩ : ∃ x, e.ks = [x] := by
    match he : e.ks, hl with
    | [x], _ => exact ⟨x, rfl⟩
  have hx0 := h.ks.nums x (by rw [hx]; simp)
  have c := hc 0 (by omega)
  rw [hx] at c
  obtain ⟨key, rfl⟩ : ∃ k : Nat, x = k := ⟨x.toNat, by omega⟩
  exact ⟨kg, ko, key, ea, hn, hx, by simpa using c, by omega⟩
theorem Key1.step {d : MD} {e : TE} {w w' : World} {kg ko key : Nat} (h : Key1 d e w kg ko key) (hb : Below w.heap.size w w') : Key1 d e w' kg ko key := ⟨h.a, h.n, h.k, (hb.cell (World.block_lt_of_cell? _ _ h.c)).trans h.c, h.lt⟩
set_option maxHeartbeats 1000000 in
set_option maxRecDepth 20000 in
theorem badd_any {w : World} {B : Nat → Prop} {p kg ko key : Nat} {wd most : Int} {C : Told2} {es : List (Nat × Nat)} {d : MD} {e : TE} (t : Tab w B p wd most C es) (hd : d.good w e) (hk : Key1 d e w kg ko key) (hl : es.length ≤ 100000) :
    Calls Tryz.prog 110 #[boxV p, d.ev] w fun r w' => AddStill w w' B p wd most C es key d.ln (e.ac, e.xs) r := by
  obtain ⟨W2, hW2⟩ : ∃ W2, W2 = (w.alloc (.cells #[.pointer (some ⟨p, 0, none⟩)] 83)).alloc d.ec := ⟨_, rfl⟩
  obtain ⟨tb, htb⟩ : ∃ b, b = w.heap.size := ⟨_, rfl⟩
  obtain ⟨eb, heb⟩ : ∃ b, b = w.heap.size + 1 := ⟨_, rfl⟩
  have b2 : Below w.heap.size w W2 := by rw [hW2]; exact bl_alloc (bl_alloc (Below.refl _ _))
  have BX : Box2 tb eb p d W2 := by rw [hW2, htb, heb]; exact box2_new w p d _
  have HH : Hid (∀ q : BelowBy W2, Calls Tryz.prog 32 #[d.ev] q.to fun r w' => r = .returned (.agg #[.int .i64 d.ac, .slice d.a d.n d.c]) ∧ Below q.to.heap.size q.to w') := fun q => (shitOf_any d q.to).mono fun r w' h => ⟨h.1, h.2.below⟩
  have HX : Hid (∀ wx, Below W2.heap.size W2 wx → Calls Tryz.prog 95 #[.pointer (some ⟨p, 0, none⟩), .int .u64 (key : Int), .int .i64 d.ln, .agg #[.int .i64 d.ac, .slice d.a d.n d.c]] wx fun r w' => AddStill w w' B p wd most C es key d.ln (e.ac, e.xs) r) := fun wx hb => by
    have hbx : Below w.heap.size w wx := bl_step b2 hb
    exact (add_anyS (t.step hbx) hk.lt (hd.step hbx).says hl).mono fun r w' h => ⟨⟨h.1.1, h.1.2.after hbx⟩, fun h0 => bl_step hbx (h.2 h0)⟩
  obtain ⟨c0, e0, e1, e2, e3, e4, e5⟩ := BX
  have kc := (hk.step b2).c
  rw [hk.a, hk.n] at e0
  have HEV : Hid (d.ev = .agg #[.slice (some ⟨kg, ko, none⟩) 1 d.kc, .slice d.ma d.mn d.mc, .int .i64 d.ln, .int .i64 d.pr, .int .i64 d.ac, .slice d.a d.n d.c]) := by
    show EV d.ka d.kn d.kc d.ma d.mn d.mc d.ln d.pr d.ac d.a d.n d.c = _
    rw [hk.a, hk.n]
  rw [HEV.out] at HH
  have HEC : Hid (d.ec = .cells #[.slice (some ⟨kg, ko, none⟩) 1 d.kc, .slice d.ma d.mn d.mc, .int .i64 d.ln, .int .i64 d.pr, .int .i64 d.ac, .slice d.a d.n d.c] 38) := by
    show EC d.ka d.kn d.kc d.ma d.mn d.mc d.ln d.pr d.ac d.a d.n d.c = _
    rw [hk.a, hk.n]
  rw [HEC.out] at hW2
  rw [HEV.out]
  have htl : tb < W2.heap.size := World.block_lt_of_cell? _ _ c0
  have hel : eb < W2.heap.size := World.block_lt_of_cell? _ _ e0
  have hkl : kg < W2.heap.size := World.block_lt_of_cell? _ _ kc
  have c0' := cell_by c0
  have e0' := cell_by e0
  have e1' := cell_by e1
  have e2' := cell_by e2
  have e3' := cell_by e3
  have e4' := cell_by e4
  have e5' := cell_by e5
  have kc' := cell_by kc
  have EW := hid hW2
  have ET := hid htb
  have EE := hid heb
  clear hW2 htb heb b2 t hd hk HEV HEC
  haveI inhB : ∀ w : World, Inhabited (BelowBy w) := fun w => ⟨⟨w, Below.refl _ _⟩⟩
  go_enter Tryz.func110, Tryz.ntmps110
  go_upto_region 1 with fail
  rw [← EW.out, ← EE.out, ← ET.out]
  clear EW EE ET
  go_wp2_with fail
  refine wp_region_cutQ 10 (by kernel_rfl) (by kernel_rfl) ?_
  simp only [List.take_succ_cons, List.take_zero]
  repeat (go_big_quiet_step (first | (go_at_call 32; exact calls_below _ (HH.out _))))
  refine wpQuiet_nil ?_
  intro wq hw'
  obtain ⟨⟨_, hwq⟩, hw''⟩ := hw'
  subst hw''
  simp only [List.drop_succ_cons, List.drop_zero]
  have HA := hid (HX.out _ hwq)
  clear HX hwq c0 e0 e1 e2 e3 e4 e5 kc c0' e0' e1' e2' e3' e4' e5' kc' HH
  go_wp2_with fail
  refine HA.out.mono ?_
  rintro r w3 ⟨⟨rfl, h3⟩, h4⟩
  have HD : Hid (AddStill w w3 B p wd most C es key d.ln (e.ac, e.xs) (.returned (.int .i64 (addCode C es wd most key d.ln)))) := ⟨⟨rfl, h3⟩, h4⟩
  generalize addCode C es wd most key d.ln = code at *
  clear h3 h4 HA
  go_wp2
  go_ret
  exact HD.out
set_option maxHeartbeats 1000000 in
set_option maxRecDepth 20000 in
theorem bchg_any {w : World} {B : Nat → Prop} {p kg ko key : Nat} {wd most : Int} {C : Told2} {es : List (Nat × Nat)} {d : MD} {e : TE} (t : Tab w B p wd most C es) (hd : d.good w e) (hk : Key1 d e w kg ko key) :
    Calls Tryz.prog 111 #[boxV p, d.ev] w fun r w' => ChgStill w w' B p wd most C es key d.ln (e.ac, e.xs) r := by
  obtain ⟨W2, hW2⟩ : ∃ W2, W2 = (w.alloc (.cells #[.pointer (some ⟨p, 0, none⟩)] 83)).alloc d.ec := ⟨_, rfl⟩
  obtain ⟨tb, htb⟩ : ∃ b, b = w.heap.size := ⟨_, rfl⟩
  obtain ⟨eb, heb⟩ : ∃ b, b = w.heap.size + 1 := ⟨_, rfl⟩
  have b2 : Below w.heap.size w W2 := by rw [hW2]; exact bl_alloc (bl_alloc (Below.refl _ _))
  have BX : Box2 tb eb p d W2 := by rw [hW2, htb, heb]; exact box2_new w p d _
  have HH : Hid (∀ q : BelowBy W2, Calls Tryz.prog 32 #[d.ev] q.to fun r w' => r = .returned (.agg #[.int .i64 d.ac, .slice d.a d.n d.c]) ∧ Below q.to.heap.size q.to w') := fun q => (shitOf_any d q.to).mono fun r w' h => ⟨h.1, h.2.below⟩
  have HX : Hid (∀ wx, Below W2.heap.size W2 wx → Calls Tryz.prog 97 #[.pointer (some ⟨p, 0, none⟩), .int .u64 (key : Int), .int .i64 d.ln, .agg #[.int .i64 d.ac, .slice d.a d.n d.c]] wx fun r w' => ChgStill w w' B p wd most C es key d.ln (e.ac, e.xs) r) := fun wx hb => by
    have hbx : Below w.heap.size w wx := bl_step b2 hb
    exact (chg_anyS (t.step hbx) hk.lt (hd.step hbx).says).mono fun r w' h => ⟨⟨h.1.1, h.1.2.after hbx⟩, fun h0 => bl_step hbx (h.2 h0)⟩
  obtain ⟨c0, e0, e1, e2, e3, e4, e5⟩ := BX
  have kc := (hk.step b2).c
  rw [hk.a, hk.n] at e0
  have HEV : Hid (d.ev = .agg #[.slice (some ⟨kg, ko, none⟩) 1 d.kc, .slice d.ma d.mn d.mc, .int .i64 d.ln, .int .i64 d.pr, .int .i64 d.ac, .slice d.a d.n d.c]) := by
    show EV d.ka d.kn d.kc d.ma d.mn d.mc d.ln d.pr d.ac d.a d.n d.c = _
    rw [hk.a, hk.n]
  rw [HEV.out] at HH
  have HEC : Hid (d.ec = .cells #[.slice (some ⟨kg, ko, none⟩) 1 d.kc, .slice d.ma d.mn d.mc, .int .i64 d.ln, .int .i64 d.pr, .int .i64 d.ac, .slice d.a d.n d.c] 38) := by
    show EC d.ka d.kn d.kc d.ma d.mn d.mc d.ln d.pr d.ac d.a d.n d.c = _
    rw [hk.a, hk.n]
  rw [HEC.out] at hW2
  rw [HEV.out]
  have htl : tb < W2.heap.size := World.block_lt_of_cell? _ _ c0
  have hel : eb < W2.heap.size := World.block_lt_of_cell? _ _ e0
  have hkl : kg < W2.heap.size := World.block_lt_of_cell? _ _ kc
  have c0' := cell_by c0
  have e0' := cell_by e0
  have e1' := cell_by e1
  have e2' := cell_by e2
  have e3' := cell_by e3
  have e4' := cell_by e4
  have e5' := cell_by e5
  have kc' := cell_by kc
  have EW := hid hW2
  have ET := hid htb
  have EE := hid heb
  clear hW2 htb heb b2 t hd hk HEV HEC
  haveI inhB : ∀ w : World, Inhabited (BelowBy w) := fun w => ⟨⟨w, Below.refl _ _⟩⟩
  go_enter Tryz.func111, Tryz.ntmps111
  go_upto_region 1 with fail
  rw [← EW.out, ← EE.out, ← ET.out]
  clear EW EE ET
  go_wp2_with fail
  refine wp_region_cutQ 10 (by kernel_rfl) (by kernel_rfl) ?_
  simp only [List.take_succ_cons, List.take_zero]
  repeat (go_big_quiet_step (first | (go_at_call 32; exact calls_below _ (HH.out _))))
  refine wpQuiet_nil ?_
  intro wq hw'
  obtain ⟨⟨_, hwq⟩, hw''⟩ := hw'
  subst hw''
  simp only [List.drop_succ_cons, List.drop_zero]
  have HA := hid (HX.out _ hwq)
  clear HX hwq c0 e0 e1 e2 e3 e4 e5 kc c0' e0' e1' e2' e3' e4' e5' kc' HH
  go_wp2_with fail
  refine HA.out.mono ?_
  rintro r w3 ⟨⟨rfl, h3⟩, h4⟩
  have HD : Hid (ChgStill w w3 B p wd most C es key d.ln (e.ac, e.xs) (.returned (.int .i64 (hasCode C wd key d.ln)))) := ⟨⟨rfl, h3⟩, h4⟩
  generalize hasCode C wd key d.ln = code at *
  clear h3 h4 HA
  go_wp2
  go_ret
  exact HD.out
set_option maxHeartbeats 1000000 in
set_option maxRecDepth 20000 in
theorem bdrop_any {w : World} {B : Nat → Prop} {p kg ko key : Nat} {wd most : Int} {C : Told2} {es : List (Nat × Nat)} {d : MD} {e : TE} (t : Tab w B p wd most C es) (hk : Key1 d e w kg ko key) (hl : es.length ≤ 100000) :
    Calls Tryz.prog 112 #[boxV p, d.ev] w fun r w' => DropStill w w' B p wd most C es key d.ln r := by
  obtain ⟨W2, hW2⟩ : ∃ W2, W2 = (w.alloc (.cells #[.pointer (some ⟨p, 0, none⟩)] 83)).alloc d.ec := ⟨_, rfl⟩
  obtain ⟨tb, htb⟩ : ∃ b, b = w.heap.size := ⟨_, rfl⟩
  obtain ⟨eb, heb⟩ : ∃ b, b = w.heap.size + 1 := ⟨_, rfl⟩
  have b2 : Below w.heap.size w W2 := by rw [hW2]; exact bl_alloc (bl_alloc (Below.refl _ _))
  have BX : Box2 tb eb p d W2 := by rw [hW2, htb, heb]; exact box2_new w p d _
  have HH : Hid (∀ q : BelowBy W2, Calls Tryz.prog 32 #[d.ev] q.to fun r w' => r = .returned (.agg #[.int .i64 d.ac, .slice d.a d.n d.c]) ∧ Below q.to.heap.size q.to w') := fun q => (shitOf_any d q.to).mono fun r w' h => ⟨h.1, h.2.below⟩
  have HX : Hid (∀ wx, Below W2.heap.size W2 wx → Calls Tryz.prog 98 #[.pointer (some ⟨p, 0, none⟩), .int .u64 (key : Int), .int .i64 d.ln] wx fun r w' => DropStill w w' B p wd most C es key d.ln r) := fun wx hb => by
    have hbx : Below w.heap.size w wx := bl_step b2 hb
    exact (drop_anyS (t.step hbx) hk.lt hl).mono fun r w' h => ⟨⟨h.1.1, h.1.2.after hbx⟩, fun h0 => bl_step hbx (h.2 h0)⟩
  obtain ⟨c0, e0, e1, e2, e3, e4, e5⟩ := BX
  have kc := (hk.step b2).c
  rw [hk.a, hk.n] at e0
  have HEV : Hid (d.ev = .agg #[.slice (some ⟨kg, ko, none⟩) 1 d.kc, .slice d.ma d.mn d.mc, .int .i64 d.ln, .int .i64 d.pr, .int .i64 d.ac, .slice d.a d.n d.c]) := by
    show EV d.ka d.kn d.kc d.ma d.mn d.mc d.ln d.pr d.ac d.a d.n d.c = _
    rw [hk.a, hk.n]
  rw [HEV.out] at HH
  have HEC : Hid (d.ec = .cells #[.slice (some ⟨kg, ko, none⟩) 1 d.kc, .slice d.ma d.mn d.mc, .int .i64 d.ln, .int .i64 d.pr, .int .i64 d.ac, .slice d.a d.n d.c] 38) := by
    show EC d.ka d.kn d.kc d.ma d.mn d.mc d.ln d.pr d.ac d.a d.n d.c = _
    rw [hk.a, hk.n]
  rw [HEC.out] at hW2
  rw [HEV.out]
  have htl : tb < W2.heap.size := World.block_lt_of_cell? _ _ c0
  have hel : eb < W2.heap.size := World.block_lt_of_cell? _ _ e0
  have hkl : kg < W2.heap.size := World.block_lt_of_cell? _ _ kc
  have c0' := cell_by c0
  have e0' := cell_by e0
  have e1' := cell_by e1
  have e2' := cell_by e2
  have e3' := cell_by e3
  have e4' := cell_by e4
  have e5' := cell_by e5
  have kc' := cell_by kc
  have EW := hid hW2
  have ET := hid htb
  have EE := hid heb
  clear hW2 htb heb b2 t hk HEV HEC
  haveI inhB : ∀ w : World, Inhabited (BelowBy w) := fun w => ⟨⟨w, Below.refl _ _⟩⟩
  go_enter Tryz.func112, Tryz.ntmps112
  go_upto_region 1 with fail
  rw [← EW.out, ← EE.out, ← ET.out]
  clear EW EE ET
  go_wp2_with fail
  refine wp_region_cutQ 8 (by kernel_rfl) (by kernel_rfl) ?_
  simp only [List.take_succ_cons, List.take_zero]
  repeat (go_big_quiet_step (fail))
  refine wpQuiet_nil ?_
  intro wq hw'
  obtain ⟨⟨_, hwq⟩, hw''⟩ := hw'
  subst hw''
  simp only [List.drop_succ_cons, List.drop_zero]
  have HA := hid (HX.out _ hwq)
  clear HX hwq c0 e0 e1 e2 e3 e4 e5 kc c0' e0' e1' e2' e3' e4' e5' kc' HH
  go_wp2_with fail
  refine HA.out.mono ?_
  rintro r w3 ⟨⟨rfl, h3⟩, h4⟩
  have HD : Hid (DropStill w w3 B p wd most C es key d.ln (.returned (.int .i64 (hasCode C wd key d.ln)))) := ⟨⟨rfl, h3⟩, h4⟩
  generalize hasCode C wd key d.ln = code at *
  clear h3 h4 HA
  go_wp2
  go_ret
  exact HD.out
end Go.Proofs.YtffbnggdckjogaaGreat
