/- Texts of one chain, joined: SStore. -/
import Derived.Test.YtffbnggdckjogaaGreatG30
import Derived.Test.YtffbnggdckjogaaGreatG35
namespace Go.Proofs.YtffbnggdckjogaaGreat
open Go.RowKit Mth
theorem Mays.cov {w w' : World} {a : Option Addr} {n : Nat} {M : List (Int × List Int)} (h : Mays w a n M) (c : Cov w w') : Mays w' a n M := ⟨h.1, fun i x hx => by
  obtain ⟨g, pa, pn, pc, e, c0, c1, hh⟩ := h.2 i x hx
  exact ⟨g, pa, pn, pc, e, c.2 _ _ _ c0, c.2 _ _ _ c1, hh.cov c⟩⟩
theorem Rul.cov {w w' : World} {b o : Nat} {kind : Int} {ws : List Int} {M : List (Int × List Int)} (h : Rul w b o kind ws M) (c : Cov w w') : Rul w' b o kind ws M := by
  obtain ⟨wa, wn, wc, h1, h2⟩ := h.c1
  obtain ⟨ma, mn, mc, h3, h4⟩ := h.c2
  exact ⟨c.2 _ _ _ h.c0, ⟨wa, wn, wc, c.2 _ _ _ h1, h2.cov c⟩, ⟨ma, mn, mc, c.2 _ _ _ h3, h4.cov c⟩⟩
theorem Deft.cov {w w' : World} {s : Nat} {h : HitM} (hd : Deft w s h) (c : Cov w w') : Deft w' s h := by
  obtain ⟨a, n, cc, h1, h2, a', n', c', e, hn, hs, hh⟩ := hd
  exact ⟨a, n, cc, c.2 _ _ _ h1, c.2 _ _ _ h2, a', n', c', e, hn, hs, hh.cov c⟩
theorem Deft.step {w w' : World} {s : Nat} {h : HitM} (hd : Deft w s h) (hb : Below w.heap.size w w') : Deft w' s h := by
  obtain ⟨a, n, cc, h1, h2, hs⟩ := hd
  exact ⟨a, n, cc, cell_keep h1 hb, cell_keep h2 hb, hs.moved (moved_below hb)⟩
structure StAt (w : World) (s : Nat) (k : FK) (f : FSt) (ws : List Int) (Ms : List (Int × List Int)) (h : HitM) (N : Nat) (X : Nat → Prop) : Prop where
  sx : ¬ X s ∧ s < N
  ty : ∃ cs, w.heap[s]? = some (.cells cs 52 (0, 0))
  c0 : w.cell? ⟨s, 0, none⟩ = some (faceV k)
  c1 : w.cell? ⟨s, 1, none⟩ = some (.int .i64 k.kind)
  c2 : ∃ wa wn wc, w.cell? ⟨s, 2, none⟩ = some (.slice wa wn wc) ∧ Has .i64 (mask (fun j => X j ∨ N ≤ j ∨ j = s) (fun _ => Classical.propDecidable _) w) wa wn ws
  c3 : ∃ ma mn mc, w.cell? ⟨s, 3, none⟩ = some (.slice ma mn mc) ∧ Mays (mask (fun j => X j ∨ N ≤ j ∨ j = s) (fun _ => Classical.propDecidable _) w) ma mn Ms
  c4 : ∃ a n c, w.cell? ⟨s, 4, none⟩ = some (.int .i64 h.1) ∧ w.cell? ⟨s, 5, none⟩ = some (.slice a n c) ∧ Says (mask (fun j => X j ∨ N ≤ j ∨ j = s) (fun _ => Classical.propDecidable _) w) (.agg #[.int .i64 h.1, .slice a n c]) h
  face : FaceAt w k f
  few : Ms.length ≤ 100000
  one : k.kind = 2 → ws.length = 1
  inv : ∀ j, j < N → Own w k j → X j
  low : N ≤ w.heap.size
theorem StAt.cell {w : World} {s : Nat} {k : FK} {f : FSt} {ws : List Int} {Ms : List (Int × List Int)} {h : HitM} {N : Nat} {X : Nat → Prop} (t : StAt w s k f ws Ms h N X) : w.cell? ⟨s, 0, none⟩ = some (faceV k) := t.c0
theorem Says.cov {w w' : World} {v : Value} {h : HitM} (s : Says w v h) (c : Cov w w') : Says w' v h := by
  obtain ⟨a, n, cc, e, hn, hs, hh⟩ := s
  exact ⟨a, n, cc, e, hn, hs, hh.cov c⟩
theorem StAt.rules {w : World} {s : Nat} {k : FK} {f : FSt} {ws : List Int} {Ms : List (Int × List Int)} {h : HitM} {N : Nat} {X : Nat → Prop} (t : StAt w s k f ws Ms h N X) : Rul w s 1 k.kind ws Ms := by
  obtain ⟨wa, wn, wc, h1, h2⟩ := t.c2
  obtain ⟨ma, mn, mc, h3, h4⟩ := t.c3
  exact ⟨t.c1, ⟨wa, wn, wc, h1, h2.cov (cov_mask _ w)⟩, ⟨ma, mn, mc, h3, h4.cov (cov_mask _ w)⟩⟩
theorem StAt.says {w : World} {s : Nat} {k : FK} {f : FSt} {ws : List Int} {Ms : List (Int × List Int)} {h : HitM} {N : Nat} {X : Nat → Prop} (t : StAt w s k f ws Ms h N X) : Deft w s h := by
  obtain ⟨a, n, c, h1, h2, h3⟩ := t.c4
  exact ⟨a, n, c, h1, h2, h3.cov (cov_mask _ w)⟩
theorem StAt.keep {w w' : World} {s : Nat} {k : FK} {f f' : FSt} {ws : List Int} {Ms : List (Int × List Int)} {h : HitM} {N : Nat} {X : Nat → Prop} (t : StAt w s k f ws Ms h N X) (hs : w'.heap[s]? = w.heap[s]?)
    (mb : Below (mask (fun j => X j ∨ N ≤ j ∨ j = s) (fun _ => Classical.propDecidable _) w).heap.size (mask (fun j => X j ∨ N ≤ j ∨ j = s) (fun _ => Classical.propDecidable _) w) (mask (fun j => X j ∨ N ≤ j ∨ j = s) (fun _ => Classical.propDecidable _) w')) (hf : FaceAt w' k f') (hi : ∀ j, j < N → Own w' k j → X j) (hl : w.heap.size ≤ w'.heap.size) : StAt w' s k f' ws Ms h N X := by
  have ce : ∀ o, w'.cell? ⟨s, o, none⟩ = w.cell? ⟨s, o, none⟩ := fun o => World.cell?_of_block (w := w) (w' := w') (a := ⟨s, o, none⟩) hs
  obtain ⟨wa, wn, wc, h1, h2⟩ := t.c2
  obtain ⟨ma, mn, mc, h3, h4⟩ := t.c3
  obtain ⟨a, n, c, h5, h6, h7⟩ := t.c4
  obtain ⟨cs, ht⟩ := t.ty
  exact ⟨t.sx, ⟨cs, hs.trans ht⟩, (ce 0).trans t.c0, (ce 1).trans t.c1, ⟨wa, wn, wc, (ce 2).trans h1, h2.step mb⟩, ⟨ma, mn, mc, (ce 3).trans h3, h4.step mb⟩, ⟨a, n, c, (ce 4).trans h5, (ce 5).trans h6, h7.moved (moved_below mb)⟩, hf, t.few, t.one, hi, Nat.le_trans t.low hl⟩
theorem StAt.step {w w' : World} {s : Nat} {k : FK} {f : FSt} {ws : List Int} {Ms : List (Int × List Int)} {h : HitM} {N : Nat} {X : Nat → Prop} (t : StAt w s k f ws Ms h N X) (hb : Below w.heap.size w w') : StAt w' s k f ws Ms h N X :=
  t.keep (hb.block s (Nat.lt_of_lt_of_le t.sx.2 t.low)) (mask_step hb) (t.face.step hb) (fun j hj ho => t.inv j hj (own_same hb (Nat.lt_of_lt_of_le hj t.low) t.face.head ho)) hb.size
theorem StAt.turn {w w' : World} {s : Nat} {k : FK} {f : FSt} {ws : List Int} {Ms : List (Int × List Int)} {h : HitM} {N : Nat} {X : Nat → Prop} {x : Int × FSt} (t : StAt w s k f ws Ms h N X) (hx : FTo w w' k f x) : StAt w' s k x.2 ws Ms h N X := by
  have mb : Below (mask (fun j => X j ∨ N ≤ j ∨ j = s) (fun _ => Classical.propDecidable _) w).heap.size (mask (fun j => X j ∨ N ≤ j ∨ j = s) (fun _ => Classical.propDecidable _) w) (mask (fun j => X j ∨ N ≤ j ∨ j = s) (fun _ => Classical.propDecidable _) w') := mask_below hx.2.1.os hx.2.1.tape hx.2.1.output hx.2.2.2.1 (fun _ h => h) (fun j hj hn => ⟨hn, hx.2.2.2.2.1 j hj (fun ho => hn (by
    rcases Nat.lt_or_ge j N with hjn | hjn
    · exact .inl (t.inv j hjn ho)
    · exact .inr (.inl hjn)))⟩)
  refine t.keep (hx.2.2.2.2.1 s (Nat.lt_of_lt_of_le t.sx.2 t.low) (fun ho => t.sx.1 (t.inv s t.sx.2 ho))) mb hx.1 (fun j hj ho => ?_) hx.2.2.2.1
  rcases hx.2.2.2.2.2.1 j ho with h | h
  · exact t.inv j hj h
  · have := t.low
    omega
theorem faceV1 {k : FK} (h : k.kind = 1) : faceV k = .iface 79 (boxV k.p) := by unfold faceV; rw [if_pos h]
theorem faceV2 {k : FK} (h : k.kind = 2) : faceV k = .iface 83 (boxV k.p) := by unfold faceV; rw [if_neg (by omega), if_pos h]
theorem faceV3 {k : FK} (h : k.kind = 3) : faceV k = .iface 84 (.pointer (some ⟨k.p, 0, none⟩)) := by unfold faceV; rw [if_neg (by omega), if_neg (by omega)]
theorem FaceAt.kinds {w : World} {k : FK} {f : FSt} (h : FaceAt w k f) : k.kind = 1 ∨ k.kind = 2 ∨ k.kind = 3 := by
  rcases h with ⟨e, _⟩ | ⟨e, _⟩ | ⟨e, _⟩
  · exact .inl e
  · exact .inr (.inl e)
  · exact .inr (.inr e)
theorem place_len {kind : Int} {ws : List Int} {e : TE} {ln : Int} (h : placeC kind ws e ln = 0) : e.ks.length = ws.length := by
  unfold placeC at h
  split at h
  · cases h
  · rename_i h1
    rcases Nat.decEq e.ks.length ws.length with hn | hn
    · exact absurd (.inl hn) h1
    · exact hn
def stAdd (k : FK) (f : FSt) (ws : List Int) (Ms : List (Int × List Int)) (e : TE) (ln : Int) : Int × FSt := if entryC k.kind ws Ms e ln ≠ 0 then (entryC k.kind ws Ms e ln, f) else faceAdd k f e ln
def stChg (k : FK) (f : FSt) (ws : List Int) (Ms : List (Int × List Int)) (e : TE) (ln : Int) : Int × FSt := if entryC k.kind ws Ms e ln ≠ 0 then (entryC k.kind ws Ms e ln, f) else faceChg k f e ln
def stDrop (k : FK) (f : FSt) (ws : List Int) (e : TE) (ln : Int) : Int × FSt := if placeC k.kind ws e ln ≠ 0 then (placeC k.kind ws e ln, f) else faceDrop k f e ln
def StDone (w : World) (s : Nat) (k : FK) (f : FSt) (ws : List Int) (Ms : List (Int × List Int)) (h : HitM) (N : Nat) (X : Nat → Prop) (x : Int × FSt) (r : Ending) (w' : World) : Prop := r = .returned (.int .i64 x.1) ∧ StAt w' s k x.2 ws Ms h N X ∧ Below k.B w w' ∧ (x.1 ≠ 0 → x.2 = f ∧ Below w.heap.size w w') ∧ FKeep w w' k
theorem EntC.len {kind : Int} {ws : List Int} {Ms : List (Int × List Int)} {e : TE} {ln : Int} (h : entryC kind ws Ms e ln = 0) : e.ks.length = ws.length := by
  unfold entryC at h
  split at h
  · rename_i h0; exact absurd h h0
  · rename_i h0; exact place_len (by simpa using h0)
set_option maxHeartbeats 2000000 in
set_option maxRecDepth 20000 in
theorem st_add {w : World} {s : Nat} {k : FK} {f : FSt} {ws : List Int} {Ms : List (Int × List Int)} {h : HitM} {N : Nat} {X : Nat → Prop} {d : MD} {e : TE} (t : StAt w s k f ws Ms h N X) (hd : d.good w e) :
    Calls Tryz.prog 8 #[.pointer (some ⟨s, 0, none⟩), d.ev] w (StDone w s k f ws Ms h N X (stAdd k f ws Ms e d.ln)) := by
  obtain ⟨W1, hW1⟩ : ∃ W1, W1 = w.alloc d.ec := ⟨_, rfl⟩
  obtain ⟨eb, heb⟩ : ∃ b, b = w.heap.size := ⟨_, rfl⟩
  have b1 : Below w.heap.size w W1 := by rw [hW1]; exact bl_alloc (Below.refl _ _)
  have e0 : W1.cell? ⟨eb, 0, none⟩ = some (.slice d.ka d.kn d.kc) := by rw [hW1, heb]; simp
  have e1 : W1.cell? ⟨eb, 1, none⟩ = some (.slice d.ma d.mn d.mc) := by rw [hW1, heb]; simp
  have e2 : W1.cell? ⟨eb, 2, none⟩ = some (.int .i64 d.ln) := by rw [hW1, heb]; simp
  have e3 : W1.cell? ⟨eb, 3, none⟩ = some (.int .i64 d.pr) := by rw [hW1, heb]; simp
  have e4 : W1.cell? ⟨eb, 4, none⟩ = some (.int .i64 d.ac) := by rw [hW1, heb]; simp
  have e5 : W1.cell? ⟨eb, 5, none⟩ = some (.slice d.a d.n d.c) := by rw [hW1, heb]; simp
  have c0 := cell_keep t.cell b1
  have hsl : s < W1.heap.size := World.block_lt_of_cell? _ _ c0
  have hel : eb < W1.heap.size := World.block_lt_of_cell? _ _ e0
  have e0' := cell_by e0
  have e1' := cell_by e1
  have e2' := cell_by e2
  have e3' := cell_by e3
  have e4' := cell_by e4
  have e5' := cell_by e5
  have HW : Hid (∀ q : BelowBy W1, Calls Tryz.prog 18 #[.pointer (some ⟨s, 1, none⟩), d.ev] q.to fun r w' => r = .returned (.int .i64 (entryC k.kind ws Ms e d.ln)) ∧ Below q.to.heap.size q.to w') := fun q => wentry_any ((t.rules.step b1).step q.h) ((hd.step b1).step q.h) t.few
  have HB := hid b1
  have EW := hid hW1
  have EB := hid heb
  haveI inhB : ∀ w : World, Inhabited (BelowBy w) := fun w => ⟨⟨w, Below.refl _ _⟩⟩
  by_cases hc : entryC k.kind ws Ms e d.ln = 0
  · rw [hc] at HW
    have hlen := EntC.len hc
    have hst : stAdd k f ws Ms e d.ln = faceAdd k f e d.ln := by unfold stAdd; rw [if_neg (by rw [hc]; decide)]
    rw [hst]
    have HDN : Hid (∀ w4, FTo w w4 k f (faceAdd k f e d.ln) → StDone w s k f ws Ms h N X (faceAdd k f e d.ln) (.returned (.int .i64 (faceAdd k f e d.ln).1)) w4) := fun w4 h4 => ⟨rfl, t.turn h4, h4.2.1, h4.2.2.1, h4.2.2.2⟩
    have hone : k.kind = 2 → d.kn = 1 := fun h2 => by rw [← hd.ks.1, hlen]; exact t.one h2
    clear hW1 heb b1 hc hst hlen
    rcases t.face.kinds with hk | hk | hk
    · have HF := hid (fun w1 (hb : Below w.heap.size w w1) => face1_add hk (t.face.step hb) (hd.step hb))
      rw [faceV1 hk] at c0
      have c0' := cell_by c0
      have hmt := fun w' => meth1Add k.p w'
      clear hk
      go_enter Tryz.func8, Tryz.ntmps8
      go_upto_region 1 with fail
      rw [← EW.out, ← EB.out]
      clear EW EB
      go_wp2_with fail
      refine wp_region_quiet_below (by kernel_rfl) (by kernel_rfl) ?_
      repeat (go_big_quiet_step (first | (go_at_call 18; exact calls_below _ (HW.out _))))
      refine wpQuiet_nil ?_
      intro w2 hw'
      obtain ⟨⟨_, hw2⟩, hw''⟩ := hw'
      subst hw''
      have c0'' := cell_by (cell_keep c0 hw2)
      have e0'' := cell_by (cell_keep e0 hw2)
      have e1'' := cell_by (cell_keep e1 hw2)
      have e2'' := cell_by (cell_keep e2 hw2)
      have e3'' := cell_by (cell_keep e3 hw2)
      have e4'' := cell_by (cell_keep e4 hw2)
      have e5'' := cell_by (cell_keep e5 hw2)
      have hsl2 : s < w2.heap.size := Nat.lt_of_lt_of_le hsl hw2.size
      have hel2 : eb < w2.heap.size := Nat.lt_of_lt_of_le hel hw2.size
      have HB2 := hid (bl_step HB.out hw2)
      clear c0' e0' e1' e2' e3' e4' e5' c0 e0 e1 e2 e3 e4 e5 hw2 HW hsl hel
      go_wp2_with fail
      refine wp_region_cutQ 5 (by kernel_rfl) (by kernel_rfl) ?_
      simp only [List.take_succ_cons, List.take_zero]
      repeat (go_big_quiet_step (fail))
      refine wpQuiet_nil ?_
      intro w3 hw'
      obtain ⟨⟨_, hw3⟩, hw''⟩ := hw'
      subst hw''
      simp only [List.drop_succ_cons, List.drop_zero]
      have HF3 := hid (HF.out _ (bl_step HB2.out hw3))
      have HB3 := hid (bl_step HB2.out hw3)
      clear HF hw3 HB2 c0'' e0'' e1'' e2'' e3'' e4'' e5'' hsl2 hel2
      go_wp2_with fail
      refine HF3.out.mono ?_
      rintro r w4 ⟨rfl, h4⟩
      have HD := hid (HDN.out w4 (h4.after HB3.out t.face.small t.face.head))
      clear h4 HF3
      generalize (faceAdd k f e d.ln).1 = code at *
      go_wp2
      go_ret
      exact HD.out
    · have HF := hid (fun w1 (hb : Below w.heap.size w w1) => face2_add hk (t.face.step hb) (hd.step hb) (hone hk))
      rw [faceV2 hk] at c0
      have c0' := cell_by c0
      have hmt := fun w' => meth2Add k.p w'
      clear hk
      go_enter Tryz.func8, Tryz.ntmps8
      go_upto_region 1 with fail
      rw [← EW.out, ← EB.out]
      clear EW EB
      go_wp2_with fail
      refine wp_region_quiet_below (by kernel_rfl) (by kernel_rfl) ?_
      repeat (go_big_quiet_step (first | (go_at_call 18; exact calls_below _ (HW.out _))))
      refine wpQuiet_nil ?_
      intro w2 hw'
      obtain ⟨⟨_, hw2⟩, hw''⟩ := hw'
      subst hw''
      have c0'' := cell_by (cell_keep c0 hw2)
      have e0'' := cell_by (cell_keep e0 hw2)
      have e1'' := cell_by (cell_keep e1 hw2)
      have e2'' := cell_by (cell_keep e2 hw2)
      have e3'' := cell_by (cell_keep e3 hw2)
      have e4'' := cell_by (cell_keep e4 hw2)
      have e5'' := cell_by (cell_keep e5 hw2)
      have hsl2 : s < w2.heap.size := Nat.lt_of_lt_of_le hsl hw2.size
      have hel2 : eb < w2.heap.size := Nat.lt_of_lt_of_le hel hw2.size
      have HB2 := hid (bl_step HB.out hw2)
      clear c0' e0' e1' e2' e3' e4' e5' c0 e0 e1 e2 e3 e4 e5 hw2 HW hsl hel
      go_wp2_with fail
      refine wp_region_cutQ 5 (by kernel_rfl) (by kernel_rfl) ?_
      simp only [List.take_succ_cons, List.take_zero]
      repeat (go_big_quiet_step (fail))
      refine wpQuiet_nil ?_
      intro w3 hw'
      obtain ⟨⟨_, hw3⟩, hw''⟩ := hw'
      subst hw''
      simp only [List.drop_succ_cons, List.drop_zero]
      have HF3 := hid (HF.out _ (bl_step HB2.out hw3))
      have HB3 := hid (bl_step HB2.out hw3)
      clear HF hw3 HB2 c0'' e0'' e1'' e2'' e3'' e4'' e5'' hsl2 hel2
      go_wp2_with fail
      refine HF3.out.mono ?_
      rintro r w4 ⟨rfl, h4⟩
      have HD := hid (HDN.out w4 (h4.after HB3.out t.face.small t.face.head))
      clear h4 HF3
      generalize (faceAdd k f e d.ln).1 = code at *
      go_wp2
      go_ret
      exact HD.out
    · have HF := hid (fun w1 (hb : Below w.heap.size w w1) => face3_add hk (t.face.step hb) (hd.step hb))
      rw [faceV3 hk] at c0
      have c0' := cell_by c0
      have hmt := fun w' => meth3Add k.p w'
      clear hk
      go_enter Tryz.func8, Tryz.ntmps8
      go_upto_region 1 with fail
      rw [← EW.out, ← EB.out]
      clear EW EB
      go_wp2_with fail
      refine wp_region_quiet_below (by kernel_rfl) (by kernel_rfl) ?_
      repeat (go_big_quiet_step (first | (go_at_call 18; exact calls_below _ (HW.out _))))
      refine wpQuiet_nil ?_
      intro w2 hw'
      obtain ⟨⟨_, hw2⟩, hw''⟩ := hw'
      subst hw''
      have c0'' := cell_by (cell_keep c0 hw2)
      have e0'' := cell_by (cell_keep e0 hw2)
      have e1'' := cell_by (cell_keep e1 hw2)
      have e2'' := cell_by (cell_keep e2 hw2)
      have e3'' := cell_by (cell_keep e3 hw2)
      have e4'' := cell_by (cell_keep e4 hw2)
      have e5'' := cell_by (cell_keep e5 hw2)
      have hsl2 : s < w2.heap.size := Nat.lt_of_lt_of_le hsl hw2.size
      have hel2 : eb < w2.heap.size := Nat.lt_of_lt_of_le hel hw2.size
      have HB2 := hid (bl_step HB.out hw2)
      clear c0' e0' e1' e2' e3' e4' e5' c0 e0 e1 e2 e3 e4 e5 hw2 HW hsl hel
      go_wp2_with fail
      refine wp_region_cutQ 5 (by kernel_rfl) (by kernel_rfl) ?_
      simp only [List.take_succ_cons, List.take_zero]
      repeat (go_big_quiet_step (fail))
      refine wpQuiet_nil ?_
      intro w3 hw'
      obtain ⟨⟨_, hw3⟩, hw''⟩ := hw'
      subst hw''
      simp only [List.drop_succ_cons, List.drop_zero]
      have HF3 := hid (HF.out _ (bl_step HB2.out hw3))
      have HB3 := hid (bl_step HB2.out hw3)
      clear HF hw3 HB2 c0'' e0'' e1'' e2'' e3'' e4'' e5'' hsl2 hel2
      go_wp2_with fail
      refine HF3.out.mono ?_
      rintro r w4 ⟨rfl, h4⟩
      have HD := hid (HDN.out w4 (h4.after HB3.out t.face.small t.face.head))
      clear h4 HF3
      generalize (faceAdd k f e d.ln).1 = code at *
      go_wp2
      go_ret
      exact HD.out
  · have hst : stAdd k f ws Ms e d.ln = (entryC k.kind ws Ms e d.ln, f) := by unfold stAdd; rw [if_pos hc]
    rw [hst]
    have HDN : Hid (∀ w2, Below w.heap.size w w2 → StDone w s k f ws Ms h N X (entryC k.kind ws Ms e d.ln, f) (.returned (.int .i64 (entryC k.kind ws Ms e d.ln))) w2) := fun w2 hb => ⟨rfl, t.step hb, hb.mono t.face.small, fun _ => ⟨rfl, hb⟩, fkeep_below hb t.face.head⟩
    generalize entryC k.kind ws Ms e d.ln = code at *
    have hcb : (code != 0) = true := by simpa using hc
    clear hW1 heb b1 hst hd t
    go_enter Tryz.func8, Tryz.ntmps8
    go_upto_region 1 with fail
    rw [← EW.out, ← EB.out]
    clear EW EB
    go_wp2_with fail
    refine wp_region_quiet_below (by kernel_rfl) (by kernel_rfl) ?_
    repeat (go_big_quiet_step (first | (go_at_call 18; exact calls_below _ (HW.out _))))
    refine wpQuiet_nil ?_
    intro w2 hw'
    obtain ⟨⟨_, hw2⟩, hw''⟩ := hw'
    subst hw''
    have HD := hid (HDN.out w2 (bl_step HB.out hw2))
    clear hw2
    go_wp2
    go_ret
    exact HD.out
set_option maxHeartbeats 2000000 in
set_option maxRecDepth 20000 in
theorem st_chg {w : World} {s : Nat} {k : FK} {f : FSt} {ws : List Int} {Ms : List (Int × List Int)} {h : HitM} {N : Nat} {X : Nat → Prop} {d : MD} {e : TE} (t : StAt w s k f ws Ms h N X) (hd : d.good w e) :
    Calls Tryz.prog 9 #[.pointer (some ⟨s, 0, none⟩), d.ev] w (StDone w s k f ws Ms h N X (stChg k f ws Ms e d.ln)) := by
  obtain ⟨W1, hW1⟩ : ∃ W1, W1 = w.alloc d.ec := ⟨_, rfl⟩
  obtain ⟨eb, heb⟩ : ∃ b, b = w.heap.size := ⟨_, rfl⟩
  have b1 : Below w.heap.size w W1 := by rw [hW1]; exact bl_alloc (Below.refl _ _)
  have e0 : W1.cell? ⟨eb, 0, none⟩ = some (.slice d.ka d.kn d.kc) := by rw [hW1, heb]; simp
  have e1 : W1.cell? ⟨eb, 1, none⟩ = some (.slice d.ma d.mn d.mc) := by rw [hW1, heb]; simp
  have e2 : W1.cell? ⟨eb, 2, none⟩ = some (.int .i64 d.ln) := by rw [hW1, heb]; simp
  have e3 : W1.cell? ⟨eb, 3, none⟩ = some (.int .i64 d.pr) := by rw [hW1, heb]; simp
  have e4 : W1.cell? ⟨eb, 4, none⟩ = some (.int .i64 d.ac) := by rw [hW1, heb]; simp
  have e5 : W1.cell? ⟨eb, 5, none⟩ = some (.slice d.a d.n d.c) := by rw [hW1, heb]; simp
  have c0 := cell_keep t.cell b1
  have hsl : s < W1.heap.size := World.block_lt_of_cell? _ _ c0
  have hel : eb < W1.heap.size := World.block_lt_of_cell? _ _ e0
  have e0' := cell_by e0
  have e1' := cell_by e1
  have e2' := cell_by e2
  have e3' := cell_by e3
  have e4' := cell_by e4
  have e5' := cell_by e5
  have HW : Hid (∀ q : BelowBy W1, Calls Tryz.prog 18 #[.pointer (some ⟨s, 1, none⟩), d.ev] q.to fun r w' => r = .returned (.int .i64 (entryC k.kind ws Ms e d.ln)) ∧ Below q.to.heap.size q.to w') := fun q => wentry_any ((t.rules.step b1).step q.h) ((hd.step b1).step q.h) t.few
  have HB := hid b1
  have EW := hid hW1
  have EB := hid heb
  haveI inhB : ∀ w : World, Inhabited (BelowBy w) := fun w => ⟨⟨w, Below.refl _ _⟩⟩
  by_cases hc : entryC k.kind ws Ms e d.ln = 0
  · rw [hc] at HW
    have hlen := EntC.len hc
    have hst : stChg k f ws Ms e d.ln = faceChg k f e d.ln := by unfold stChg; rw [if_neg (by rw [hc]; decide)]
    rw [hst]
    have HDN : Hid (∀ w4, FTo w w4 k f (faceChg k f e d.ln) → StDone w s k f ws Ms h N X (faceChg k f e d.ln) (.returned (.int .i64 (faceChg k f e d.ln).1)) w4) := fun w4 h4 => ⟨rfl, t.turn h4, h4.2.1, h4.2.2.1, h4.2.2.2⟩
    have hone : k.kind = 2 → d.kn = 1 := fun h2 => by rw [← hd.ks.1, hlen]; exact t.one h2
    clear hW1 heb b1 hc hst hlen
    rcases t.face.kinds with hk | hk | hk
    · have HF := hid (fun w1 (hb : Below w.heap.size w w1) => face1_chg hk (t.face.step hb) (hd.step hb))
      rw [faceV1 hk] at c0
      have c0' := cell_by c0
      have hmt := fun w' => meth1Change k.p w'
      clear hk
      go_enter Tryz.func9, Tryz.ntmps9
      go_upto_region 1 with fail
      rw [← EW.out, ← EB.out]
      clear EW EB
      go_wp2_with fail
      refine wp_region_quiet_below (by kernel_rfl) (by kernel_rfl) ?_
      repeat (go_big_quiet_step (first | (go_at_call 18; exact calls_below _ (HW.out _))))
      refine wpQuiet_nil ?_
      intro w2 hw'
      obtain ⟨⟨_, hw2⟩, hw''⟩ := hw'
      subst hw''
      have c0'' := cell_by (cell_keep c0 hw2)
      have e0'' := cell_by (cell_keep e0 hw2)
      have e1'' := cell_by (cell_keep e1 hw2)
      have e2'' := cell_by (cell_keep e2 hw2)
      have e3'' := cell_by (cell_keep e3 hw2)
      have e4'' := cell_by (cell_keep e4 hw2)
      have e5'' := cell_by (cell_keep e5 hw2)
      have hsl2 : s < w2.heap.size := Nat.lt_of_lt_of_le hsl hw2.size
      have hel2 : eb < w2.heap.size := Nat.lt_of_lt_of_le hel hw2.size
      have HB2 := hid (bl_step HB.out hw2)
      clear c0' e0' e1' e2' e3' e4' e5' c0 e0 e1 e2 e3 e4 e5 hw2 HW hsl hel
      go_wp2_with fail
      refine wp_region_cutQ 5 (by kernel_rfl) (by kernel_rfl) ?_
      simp only [List.take_succ_cons, List.take_zero]
      repeat (go_big_quiet_step (fail))
      refine wpQuiet_nil ?_
      intro w3 hw'
      obtain ⟨⟨_, hw3⟩, hw''⟩ := hw'
      subst hw''
      simp only [List.drop_succ_cons, List.drop_zero]
      have HF3 := hid (HF.out _ (bl_step HB2.out hw3))
      have HB3 := hid (bl_step HB2.out hw3)
      clear HF hw3 HB2 c0'' e0'' e1'' e2'' e3'' e4'' e5'' hsl2 hel2
      go_wp2_with fail
      refine HF3.out.mono ?_
      rintro r w4 ⟨rfl, h4⟩
      have HD := hid (HDN.out w4 (h4.after HB3.out t.face.small t.face.head))
      clear h4 HF3
      generalize (faceChg k f e d.ln).1 = code at *
      go_wp2
      go_ret
      exact HD.out
    · have HF := hid (fun w1 (hb : Below w.heap.size w w1) => face2_chg hk (t.face.step hb) (hd.step hb) (hone hk))
      rw [faceV2 hk] at c0
      have c0' := cell_by c0
      have hmt := fun w' => meth2Change k.p w'
      clear hk
      go_enter Tryz.func9, Tryz.ntmps9
      go_upto_region 1 with fail
      rw [← EW.out, ← EB.out]
      clear EW EB
      go_wp2_with fail
      refine wp_region_quiet_below (by kernel_rfl) (by kernel_rfl) ?_
      repeat (go_big_quiet_step (first | (go_at_call 18; exact calls_below _ (HW.out _))))
      refine wpQuiet_nil ?_
      intro w2 hw'
      obtain ⟨⟨_, hw2⟩, hw''⟩ := hw'
      subst hw''
      have c0'' := cell_by (cell_keep c0 hw2)
      have e0'' := cell_by (cell_keep e0 hw2)
      have e1'' := cell_by (cell_keep e1 hw2)
      have e2'' := cell_by (cell_keep e2 hw2)
      have e3'' := cell_by (cell_keep e3 hw2)
      have e4'' := cell_by (cell_keep e4 hw2)
      have e5'' := cell_by (cell_keep e5 hw2)
      have hsl2 : s < w2.heap.size := Nat.lt_of_lt_of_le hsl hw2.size
      have hel2 : eb < w2.heap.size := Nat.lt_of_lt_of_le hel hw2.size
      have HB2 := hid (bl_step HB.out hw2)
      clear c0' e0' e1' e2' e3' e4' e5' c0 e0 e1 e2 e3 e4 e5 hw2 HW hsl hel
      go_wp2_with fail
      refine wp_region_cutQ 5 (by kernel_rfl) (by kernel_rfl) ?_
      simp only [List.take_succ_cons, List.take_zero]
      repeat (go_big_quiet_step (fail))
      refine wpQuiet_nil ?_
      intro w3 hw'
      obtain ⟨⟨_, hw3⟩, hw''⟩ := hw'
      subst hw''
      simp only [List.drop_succ_cons, List.drop_zero]
      have HF3 := hid (HF.out _ (bl_step HB2.out hw3))
      have HB3 := hid (bl_step HB2.out hw3)
      clear HF hw3 HB2 c0'' e0'' e1'' e2'' e3'' e4'' e5'' hsl2 hel2
      go_wp2_with fail
      refine HF3.out.mono ?_
      rintro r w4 ⟨rfl, h4⟩
      have HD := hid (HDN.out w4 (h4.after HB3.out t.face.small t.face.head))
      clear h4 HF3
      generalize (faceChg k f e d.ln).1 = code at *
      go_wp2
      go_ret
      exact HD.out
    · have HF := hid (fun w1 (hb : Below w.heap.size w w1) => face3_chg hk (t.face.step hb) (hd.step hb))
      rw [faceV3 hk] at c0
      have c0' := cell_by c0
      have hmt := fun w' => meth3Change k.p w'
      clear hk
      go_enter Tryz.func9, Tryz.ntmps9
      go_upto_region 1 with fail
      rw [← EW.out, ← EB.out]
      clear EW EB
      go_wp2_with fail
      refine wp_region_quiet_below (by kernel_rfl) (by kernel_rfl) ?_
      repeat (go_big_quiet_step (first | (go_at_call 18; exact calls_below _ (HW.out _))))
      refine wpQuiet_nil ?_
      intro w2 hw'
      obtain ⟨⟨_, hw2⟩, hw''⟩ := hw'
      subst hw''
      have c0'' := cell_by (cell_keep c0 hw2)
      have e0'' := cell_by (cell_keep e0 hw2)
      have e1'' := cell_by (cell_keep e1 hw2)
      have e2'' := cell_by (cell_keep e2 hw2)
      have e3'' := cell_by (cell_keep e3 hw2)
      have e4'' := cell_by (cell_keep e4 hw2)
      have e5'' := cell_by (cell_keep e5 hw2)
      have hsl2 : s < w2.heap.size := Nat.lt_of_lt_of_le hsl hw2.size
      have hel2 : eb < w2.heap.size := Nat.lt_of_lt_of_le hel hw2.size
      have HB2 := hid (bl_step HB.out hw2)
      clear c0' e0' e1' e2' e3' e4' e5' c0 e0 e1 e2 e3 e4 e5 hw2 HW hsl hel
      go_wp2_with fail
      refine wp_region_cutQ 5 (by kernel_rfl) (by kernel_rfl) ?_
      simp only [List.take_succ_cons, List.take_zero]
      repeat (go_big_quiet_step (fail))
      refine wpQuiet_nil ?_
      intro w3 hw'
      obtain ⟨⟨_, hw3⟩, hw''⟩ := hw'
      subst hw''
      simp only [List.drop_succ_cons, List.drop_zero]
      have HF3 := hid (HF.out _ (bl_step HB2.out hw3))
      have HB3 := hid (bl_step HB2.out hw3)
      clear HF hw3 HB2 c0'' e0'' e1'' e2'' e3'' e4'' e5'' hsl2 hel2
      go_wp2_with fail
      refine HF3.out.mono ?_
      rintro r w4 ⟨rfl, h4⟩
      have HD := hid (HDN.out w4 (h4.after HB3.out t.face.small t.face.head))
      clear h4 HF3
      generalize (faceChg k f e d.ln).1 = code at *
      go_wp2
      go_ret
      exact HD.out
  · have hst : stChg k f ws Ms e d.ln = (entryC k.kind ws Ms e d.ln, f) := by unfold stChg; rw [if_pos hc]
    rw [hst]
    have HDN : Hid (∀ w2, Below w.heap.size w w2 → StDone w s k f ws Ms h N X (entryC k.kind ws Ms e d.ln, f) (.returned (.int .i64 (entryC k.kind ws Ms e d.ln))) w2) := fun w2 hb => ⟨rfl, t.step hb, hb.mono t.face.small, fun _ => ⟨rfl, hb⟩, fkeep_below hb t.face.head⟩
    generalize entryC k.kind ws Ms e d.ln = code at *
    have hcb : (code != 0) = true := by simpa using hc
    clear hW1 heb b1 hst hd t
    go_enter Tryz.func9, Tryz.ntmps9
    go_upto_region 1 with fail
    rw [← EW.out, ← EB.out]
    clear EW EB
    go_wp2_with fail
    refine wp_region_quiet_below (by kernel_rfl) (by kernel_rfl) ?_
    repeat (go_big_quiet_step (first | (go_at_call 18; exact calls_below _ (HW.out _))))
    refine wpQuiet_nil ?_
    intro w2 hw'
    obtain ⟨⟨_, hw2⟩, hw''⟩ := hw'
    subst hw''
    have HD := hid (HDN.out w2 (bl_step HB.out hw2))
    clear hw2
    go_wp2
    go_ret
    exact HD.out
set_option maxHeartbeats 2000000 in
set_option maxRecDepth 20000 in
theorem st_drop {w : World} {s : Nat} {k : FK} {f : FSt} {ws : List Int} {Ms : List (Int × List Int)} {h : HitM} {N : Nat} {X : Nat → Prop} {d : MD} {e : TE} (t : StAt w s k f ws Ms h N X) (hd : d.good w e) :
    Calls Tryz.prog 10 #[.pointer (some ⟨s, 0, none⟩), d.ev] w (StDone w s k f ws Ms h N X (stDrop k f ws e d.ln)) := by
  obtain ⟨W1, hW1⟩ : ∃ W1, W1 = w.alloc d.ec := ⟨_, rfl⟩
  obtain ⟨eb, heb⟩ : ∃ b, b = w.heap.size := ⟨_, rfl⟩
  have b1 : Below w.heap.size w W1 := by rw [hW1]; exact bl_alloc (Below.refl _ _)
  have e0 : W1.cell? ⟨eb, 0, none⟩ = some (.slice d.ka d.kn d.kc) := by rw [hW1, heb]; simp
  have e1 : W1.cell? ⟨eb, 1, none⟩ = some (.slice d.ma d.mn d.mc) := by rw [hW1, heb]; simp
  have e2 : W1.cell? ⟨eb, 2, none⟩ = some (.int .i64 d.ln) := by rw [hW1, heb]; simp
  have e3 : W1.cell? ⟨eb, 3, none⟩ = some (.int .i64 d.pr) := by rw [hW1, heb]; simp
  have e4 : W1.cell? ⟨eb, 4, none⟩ = some (.int .i64 d.ac) := by rw [hW1, heb]; simp
  have e5 : W1.cell? ⟨eb, 5, none⟩ = some (.slice d.a d.n d.c) := by rw [hW1, heb]; simp
  have c0 := cell_keep t.cell b1
  have hsl : s < W1.heap.size := World.block_lt_of_cell? _ _ c0
  have hel : eb < W1.heap.size := World.block_lt_of_cell? _ _ e0
  have e0' := cell_by e0
  have e1' := cell_by e1
  have e2' := cell_by e2
  have e3' := cell_by e3
  have e4' := cell_by e4
  have e5' := cell_by e5
  have HW : Hid (∀ q : BelowBy W1, Calls Tryz.prog 19 #[.pointer (some ⟨s, 1, none⟩), d.ev] q.to fun r w' => r = .returned (.int .i64 (placeC k.kind ws e d.ln)) ∧ Below q.to.heap.size q.to w') := fun q => (wplace_any ((t.rules.step b1).step q.h) ((hd.step b1).step q.h)).mono fun r w' hx => ⟨hx.1, hx.2.below⟩
  have HB := hid b1
  have EW := hid hW1
  have EB := hid heb
  haveI inhB : ∀ w : World, Inhabited (BelowBy w) := fun w => ⟨⟨w, Below.refl _ _⟩⟩
  by_cases hc : placeC k.kind ws e d.ln = 0
  · rw [hc] at HW
    have hlen := place_len hc
    have hst : stDrop k f ws e d.ln = faceDrop k f e d.ln := by unfold stDrop; rw [if_neg (by rw [hc]; decide)]
    rw [hst]
    have HDN : Hid (∀ w4, FTo w w4 k f (faceDrop k f e d.ln) → StDone w s k f ws Ms h N X (faceDrop k f e d.ln) (.returned (.int .i64 (faceDrop k f e d.ln).1)) w4) := fun w4 h4 => ⟨rfl, t.turn h4, h4.2.1, h4.2.2.1, h4.2.2.2⟩
    have hone : k.kind = 2 → d.kn = 1 := fun h2 => by rw [← hd.ks.1, hlen]; exact t.one h2
    clear hW1 heb b1 hc hst hlen
    rcases t.face.kinds with hk | hk | hk
    · have HF := hid (fun w1 (hb : Below w.heap.size w w1) => face1_drop hk (t.face.step hb) (hd.step hb))
      rw [faceV1 hk] at c0
      have c0' := cell_by c0
      have hmt := fun w' => meth1Drop k.p w'
      clear hk
      go_enter Tryz.func10, Tryz.ntmps10
      go_upto_region 1 with fail
      rw [← EW.out, ← EB.out]
      clear EW EB
      go_wp2_with fail
      refine wp_region_quiet_below (by kernel_rfl) (by kernel_rfl) ?_
      repeat (go_big_quiet_step (first | (go_at_call 19; exact calls_below _ (HW.out _))))
      refine wpQuiet_nil ?_
      intro w2 hw'
      obtain ⟨⟨_, hw2⟩, hw''⟩ := hw'
      subst hw''
      have c0'' := cell_by (cell_keep c0 hw2)
      have e0'' := cell_by (cell_keep e0 hw2)
      have e1'' := cell_by (cell_keep e1 hw2)
      have e2'' := cell_by (cell_keep e2 hw2)
      have e3'' := cell_by (cell_keep e3 hw2)
      have e4'' := cell_by (cell_keep e4 hw2)
      have e5'' := cell_by (cell_keep e5 hw2)
      have hsl2 : s < w2.heap.size := Nat.lt_of_lt_of_le hsl hw2.size
      have hel2 : eb < w2.heap.size := Nat.lt_of_lt_of_le hel hw2.size
      have HB2 := hid (bl_step HB.out hw2)
      clear c0' e0' e1' e2' e3' e4' e5' c0 e0 e1 e2 e3 e4 e5 hw2 HW hsl hel
      go_wp2_with fail
      refine wp_region_cutQ 5 (by kernel_rfl) (by kernel_rfl) ?_
      simp only [List.take_succ_cons, List.take_zero]
      repeat (go_big_quiet_step (fail))
      refine wpQuiet_nil ?_
      intro w3 hw'
      obtain ⟨⟨_, hw3⟩, hw''⟩ := hw'
      subst hw''
      simp only [List.drop_succ_cons, List.drop_zero]
      have HF3 := hid (HF.out _ (bl_step HB2.out hw3))
      have HB3 := hid (bl_step HB2.out hw3)
      clear HF hw3 HB2 c0'' e0'' e1'' e2'' e3'' e4'' e5'' hsl2 hel2
      go_wp2_with fail
      refine HF3.out.mono ?_
      rintro r w4 ⟨rfl, h4⟩
      have HD := hid (HDN.out w4 (h4.after HB3.out t.face.small t.face.head))
      clear h4 HF3
      generalize (faceDrop k f e d.ln).1 = code at *
      go_wp2
      go_ret
      exact HD.out
    · have HF := hid (fun w1 (hb : Below w.heap.size w w1) => face2_drop hk (t.face.step hb) (hd.step hb) (hone hk))
      rw [faceV2 hk] at c0
      have c0' := cell_by c0
      have hmt := fun w' => meth2Drop k.p w'
      clear hk
      go_enter Tryz.func10, Tryz.ntmps10
      go_upto_region 1 with fail
      rw [← EW.out, ← EB.out]
      clear EW EB
      go_wp2_with fail
      refine wp_region_quiet_below (by kernel_rfl) (by kernel_rfl) ?_
      repeat (go_big_quiet_step (first | (go_at_call 19; exact calls_below _ (HW.out _))))
      refine wpQuiet_nil ?_
      intro w2 hw'
      obtain ⟨⟨_, hw2⟩, hw''⟩ := hw'
      subst hw''
      have c0'' := cell_by (cell_keep c0 hw2)
      have e0'' := cell_by (cell_keep e0 hw2)
      have e1'' := cell_by (cell_keep e1 hw2)
      have e2'' := cell_by (cell_keep e2 hw2)
      have e3'' := cell_by (cell_keep e3 hw2)
      have e4'' := cell_by (cell_keep e4 hw2)
      have e5'' := cell_by (cell_keep e5 hw2)
      have hsl2 : s < w2.heap.size := Nat.lt_of_lt_of_le hsl hw2.size
      have hel2 : eb < w2.heap.size := Nat.lt_of_lt_of_le hel hw2.size
      have HB2 := hid (bl_step HB.out hw2)
      clear c0' e0' e1' e2' e3' e4' e5' c0 e0 e1 e2 e3 e4 e5 hw2 HW hsl hel
      go_wp2_with fail
      refine wp_region_cutQ 5 (by kernel_rfl) (by kernel_rfl) ?_
      simp only [List.take_succ_cons, List.take_zero]
      repeat (go_big_quiet_step (fail))
      refine wpQuiet_nil ?_
      intro w3 hw'
      obtain ⟨⟨_, hw3⟩, hw''⟩ := hw'
      subst hw''
      simp only [List.drop_succ_cons, List.drop_zero]
      have HF3 := hid (HF.out _ (bl_step HB2.out hw3))
      have HB3 := hid (bl_step HB2.out hw3)
      clear HF hw3 HB2 c0'' e0'' e1'' e2'' e3'' e4'' e5'' hsl2 hel2
      go_wp2_with fail
      refine HF3.out.mono ?_
      rintro r w4 ⟨rfl, h4⟩
      have HD := hid (HDN.out w4 (h4.after HB3.out t.face.small t.face.head))
      clear h4 HF3
      generalize (faceDrop k f e d.ln).1 = code at *
      go_wp2
      go_ret
      exact HD.out
    · have HF := hid (fun w1 (hb : Below w.heap.size w w1) => face3_drop hk (t.face.step hb) (hd.step hb))
      rw [faceV3 hk] at c0
      have c0' := cell_by c0
      have hmt := fun w' => meth3Drop k.p w'
      clear hk
      go_enter Tryz.func10, Tryz.ntmps10
      go_upto_region 1 with fail
      rw [← EW.out, ← EB.out]
      clear EW EB
      go_wp2_with fail
      refine wp_region_quiet_below (by kernel_rfl) (by kernel_rfl) ?_
      repeat (go_big_quiet_step (first | (go_at_call 19; exact calls_below _ (HW.out _))))
      refine wpQuiet_nil ?_
      intro w2 hw'
      obtain ⟨⟨_, hw2⟩, hw''⟩ := hw'
      subst hw''
      have c0'' := cell_by (cell_keep c0 hw2)
      have e0'' := cell_by (cell_keep e0 hw2)
      have e1'' := cell_by (cell_keep e1 hw2)
      have e2'' := cell_by (cell_keep e2 hw2)
      have e3'' := cell_by (cell_keep e3 hw2)
      have e4'' := cell_by (cell_keep e4 hw2)
      have e5'' := cell_by (cell_keep e5 hw2)
      have hsl2 : s < w2.heap.size := Nat.lt_of_lt_of_le hsl hw2.size
      have hel2 : eb < w2.heap.size := Nat.lt_of_lt_of_le hel hw2.size
      have HB2 := hid (bl_step HB.out hw2)
      clear c0' e0' e1' e2' e3' e4' e5' c0 e0 e1 e2 e3 e4 e5 hw2 HW hsl hel
      go_wp2_with fail
      refine wp_region_cutQ 5 (by kernel_rfl) (by kernel_rfl) ?_
      simp only [List.take_succ_cons, List.take_zero]
      repeat (go_big_quiet_step (fail))
      refine wpQuiet_nil ?_
      intro w3 hw'
      obtain ⟨⟨_, hw3⟩, hw''⟩ := hw'
      subst hw''
      simp only [List.drop_succ_cons, List.drop_zero]
      have HF3 := hid (HF.out _ (bl_step HB2.out hw3))
      have HB3 := hid (bl_step HB2.out hw3)
      clear HF hw3 HB2 c0'' e0'' e1'' e2'' e3'' e4'' e5'' hsl2 hel2
      go_wp2_with fail
      refine HF3.out.mono ?_
      rintro r w4 ⟨rfl, h4⟩
      have HD := hid (HDN.out w4 (h4.after HB3.out t.face.small t.face.head))
      clear h4 HF3
      generalize (faceDrop k f e d.ln).1 = code at *
      go_wp2
      go_ret
      exact HD.out
  · have hst : stDrop k f ws e d.ln = (placeC k.kind ws e d.ln, f) := by unfold stDrop; rw [if_pos hc]
    rw [hst]
    have HDN : Hid (∀ w2, Below w.heap.size w w2 → StDone w s k f ws Ms h N X (placeC k.kind ws e d.ln, f) (.returned (.int .i64 (placeC k.kind ws e d.ln))) w2) := fun w2 hb => ⟨rfl, t.step hb, hb.mono t.face.small, fun _ => ⟨rfl, hb⟩, fkeep_below hb t.face.head⟩
    generalize placeC k.kind ws e d.ln = code at *
    have hcb : (code != 0) = true := by simpa using hc
    clear hW1 heb b1 hst hd t
    go_enter Tryz.func10, Tryz.ntmps10
    go_upto_region 1 with fail
    rw [← EW.out, ← EB.out]
    clear EW EB
    go_wp2_with fail
    refine wp_region_quiet_below (by kernel_rfl) (by kernel_rfl) ?_
    repeat (go_big_quiet_step (first | (go_at_call 19; exact calls_below _ (HW.out _))))
    refine wpQuiet_nil ?_
    intro w2 hw'
    obtain ⟨⟨_, hw2⟩, hw''⟩ := hw'
    subst hw''
    have HD := hid (HDN.out w2 (bl_step HB.out hw2))
    clear hw2
    go_wp2
    go_ret
    exact HD.out
end Go.Proofs.YtffbnggdckjogaaGreat
