/- What Add of a table by masks does where there is a place. -/
import Derived.Test.YtlnkfgdepddmlacMAdd
namespace Go.Proofs.Ytlnkfgdepddmlac
open Go.RowKit Mth

theorem rowAt_alloc (w : World) (cs : Array Value) : RowAt (w.alloc (.cells cs 33)) w.heap.size cs.toList := by
  unfold RowAt
  rw [Array.toArray_toList]
  exact heap_alloc_new w _

/-- the head may be written -/
theorem mstore_ok {wA w6 : World} {B p : Nat} {keys most : Int} {T : List TE} {la : Option Addr} {cap : Nat} (t : MTab wA B p keys most T) (h2 : wA.cell? ⟨p, 2, none⟩ = some (.slice la T.length cap)) (hg : wA.grownBy w6 (Value.slice la T.length cap).ownBlock) : w6.cell? ⟨p, 2, none⟩ = some (.slice la T.length cap) ∧ w6.frozen? ⟨p, 2, none⟩ = false := by
  obtain ⟨la', cap'', h2', hr⟩ := t.lst
  rw [h2] at h2'
  simp only [Option.some.injEq, Value.slice.injEq, true_and] at h2'
  obtain ⟨rfl, rfl⟩ := h2'
  have hpp : w6.heap[p]? = wA.heap[p]? := by
    refine hg.block p (World.block_lt_of_cell? wA _ t.c0) (fun e => ?_)
    cases la with
    | none => cases e
    | some ad =>
      have ha : ad = ⟨ad.block, 0, none⟩ := by
        obtain ⟨⟨ds, -, -, ho', -⟩, -⟩ := hr
        rcases ho'.2 with ⟨e1, -⟩ | ⟨g', _, _, e1, -⟩
        · simp at e1
        · simp only [Value.slice.injEq, Option.some.injEq] at e1; rw [e1.1]
      obtain ⟨a', m', c', hc'⟩ := hr.2 ad.block (by rw [← ha])
      have : p = ad.block := by simpa [Value.ownBlock] using e
      rw [← this, t.c0] at hc'
      cases hc'
  exact ⟨(World.cell?_of_block (w := wA) (w' := w6) (a := ⟨p, 2, none⟩) hpp).trans h2, (World.frozen?_of_block (w := wA) (w' := w6) (a := ⟨p, 2, none⟩) hpp).trans t.f2⟩

set_option maxHeartbeats 8000000 in
set_option maxRecDepth 20000 in
theorem madd_good {w : World} {B p : Nat} {keys most : Int} {T : List TE} {f : MD} {e : TE} (t : MTab w B p keys most T) (hf : f.good w e) (hg : GoodM keys e) (hn : T.length ≤ 100000) (hns : ¬ ∃ x ∈ T, SameP x e) (hnc : ¬ ClashM T e) (hfl : (T.length : Int) < most) :
    Calls Try.prog 29 #[.pointer (some ⟨p, 0, none⟩), f.ev] w fun r w' => MAddDone w w' B p keys most T e r := by
  have hb0 := bl_alloc (o := f.ec) (Below.refl w.heap.size w)
  have HI := hid (isEntry_any (t.step hb0).c0 (hf.step hb0))
  have SX : Hid (Six (w.alloc f.ec) w.heap.size (.slice f.ka f.kn f.kc) (.slice f.ma f.mn f.mc) (.int .i64 f.ln) (.int .i64 f.pr) (.int .i64 f.ac) (.slice f.a f.n f.c)) := six_new w _ _ _ _ _ _ _
  obtain ⟨k0, k1, k2, k3, k4, k5, -, -, -, -, -, -⟩ := SX.out
  have HT := hid t
  have HG := hid hg
  have HF := hid hf
  have HB0 := hid hb0
  have HNS := hid hns
  have HNC := hid hnc
  clear t hf hg hb0 hns hnc
  go_enter Try.func29, Try.ntmps29
  go_wp2_with fail
  refine HI.out.mono ?_
  rintro r w1 ⟨b, rfl, hb, hg1⟩
  have eb : b = true := hb.2 HG.out
  subst eb
  have B1 := hid (bl_step HB0.out hg1.below)
  have S1 := hid (SX.out.step hg1.below)
  have HP := hid (mplace_any (HT.out.step B1.out) (HF.out.step B1.out) HG.out hn)
  clear hb hg1 HI k0 k1 k2 k3 k4 k5 SX HB0
  obtain ⟨k0, k1, k2, k3, k4, k5, -, -, -, -, -, -⟩ := S1.out
  go_wp2_with fail
  refine HP.out.mono ?_
  rintro r w2 ⟨i, fb, rfl, hcut, hfo, hg2⟩
  have hfo' := hfo.trans (cut_found HT.out.ok.srt hcut)
  have efb : fb = false := by
    cases fb with
    | false => rfl
    | true => exact absurd (hfo'.1 rfl) HNS.out
  subst efb
  have HCUT := hid hcut
  have B2 := hid (bl_step B1.out hg2.below)
  have S2 := hid (S1.out.step hg2.below)
  clear hcut hfo hfo' hg2 HP k0 k1 k2 k3 k4 k5 S1 B1
  have HC := hid (clashes_any (HT.out.step B2.out) (HF.out.step B2.out) HG.out hn)
  obtain ⟨k0, k1, k2, k3, k4, k5, -, -, -, -, -, -⟩ := S2.out
  go_wp2_with fail
  refine HC.out.mono ?_
  rintro r w3 ⟨b, rfl, hb, hg3⟩
  have eb : b = false := by
    cases b with
    | false => rfl
    | true => exact absurd (hb.1 rfl) HNC.out
  subst eb
  have B3 := hid (bl_step B2.out hg3.below)
  have S3 := hid (S2.out.step hg3.below)
  obtain ⟨la, cap, p2, -⟩ := (HT.out.step B3.out).lst
  have p1 := (HT.out.step B3.out).c1
  have hfd : ¬ most ≤ (T.length : Int) := by omega
  clear hb hg3 HC k0 k1 k2 k3 k4 k5 S2 B2
  go_wp2_with fail
  go_quiet (fail)
  go_wp2_with fail
  have B4 := hid (below_drewN B3.out nq)
  have S4 : Hid (Six (w3.drewN nq) w.heap.size (.slice f.ka f.kn f.kc) (.slice f.ma f.mn f.mc) (.int .i64 f.ln) (.int .i64 f.pr) (.int .i64 f.ac) (.slice f.a f.n f.c)) := S3.out.step (below_drewN (Below.refl w3.heap.size w3) nq)
  clear p1 p2 S3 B3
  generalize w3.drewN nq = w4 at *
  have T4 := hid (HT.out.step B4.out)
  obtain ⟨la', cap', p2, hrow⟩ := T4.out.lst
  obtain ⟨k0, k1, k2, k3, k4, k5, -, -, -, -, -, -⟩ := S4.out
  have hpl : p < w4.heap.size := World.block_lt_of_cell? w4 _ T4.out.c0
  have f2 := T4.out.f2
  have hpw : p < w.heap.size := World.block_lt_of_cell? w _ HT.out.c0
  have h2w : Hid (w.cell? ⟨p, 2, none⟩ = some (.slice la' T.length cap')) := by
    show w.cell? ⟨p, 2, none⟩ = _
    rw [← B4.out.cell (p := ⟨p, 2, none⟩) hpw]; exact p2
  have hbd : Below w4.heap.size w4 w4.drew := (Below.refl _ _).drew
  have HCP := hid (mcopied_any ((HF.out.step B4.out).step hbd))
  have HROW := hid hrow
  obtain ⟨⟨ds, dl, -, dow, dgd⟩, -⟩ := hrow
  have DOW := hid dow
  have DG := hid dgd
  have hlaB := hid (fun g (e : la' = some ⟨g, 0, none⟩) => (HROW.out.lt g e).2)
  have hbw : B ≤ w4.heap.size := Nat.le_trans HT.out.small B4.out.size
  have hile := HCUT.out.le
  have hiw : w.heap.size < w4.heap.size := World.block_lt_of_cell? w4 _ k0
  clear dow dgd
  go_region_law (first
    | (go_simp; go_at_call 55; refine HCP.out.mono ?_; rintro r w5 ⟨d, rfl, hgd, hnew, hln, hb5⟩; have HLN := hid hln; clear hln; have q2 : w5.cell? ⟨p, 2, none⟩ = some (.slice la' T.length cap') := ((bl_step hbd hb5).cell (p := ⟨p, 2, none⟩) hpl).trans p2; have hpl5 : p < w5.heap.size := World.block_lt_of_cell? w5 _ q2)
    | (go_simp; go_at_call 54; refine (ins_any (B := B) ((owns_below DOW.out (bl_step hbd hb5)).alloc _) (mflat_one ds) (rowAt_alloc w5 _) (by rfl) (mcells_one d) (fun g e => by have := hlaB.out g e; have := hb5.size; have := hbd.size; omega) hn hile (by have := hb5.size; have := hbd.size; simp; omega)).mono ?_; rintro r w6 ⟨g6, c6, rfl, ho6, hg6, hf6⟩; have HF6 := hid hf6; clear hf6; obtain ⟨q6, qf⟩ := mstore_ok (((T4.out.step hbd).step hb5).step (bl_alloc (Below.refl _ _))) ((bl_alloc (Below.refl w5.heap.size w5)).cell (p := ⟨p, 2, none⟩) hpl5 |>.trans q2) hg6))
  all_goals
    have hal : Below w5.heap.size w5 (w5.alloc (.cells #[.slice d.ka d.kn d.kc, .slice d.ma d.mn d.mc, .int .i64 d.ln, .int .i64 d.pr, .int .i64 d.ac, .slice d.a d.n d.c] 33)) := bl_alloc (Below.refl _ _)
    have HEND := hid (madd_end HT.out (bl_step (bl_step (bl_step B4.out hbd) hb5) hal) h2w.out dl (fun j d e hd he => ⟨(((DG.out j d e hd he).1.step hbd).step hb5).step hal, (DG.out j d e hd he).2⟩) (hgd.step hal) (hnew.mono (Nat.zero_le _)) HLN.out HCUT.out HG.out HNS.out HNC.out hfl hg6 ho6 (HF6.out.imp id (fun h => Nat.le_trans (Nat.le_trans B4.out.size (Nat.le_trans hbd.size hb5.size)) (Nat.le_trans (bl_alloc (Below.refl w5.heap.size w5)).size h))))
    clear ho6 hg6 hgd hnew hb5 HCP
    go_wp2
    go_ret
    exact HEND.out

theorem madd_any {w : World} {B p : Nat} {keys most : Int} {T : List TE} {f : MD} {e : TE} (t : MTab w B p keys most T) (hf : f.good w e) (hn : T.length ≤ 100000) :
    Calls Try.prog 29 #[.pointer (some ⟨p, 0, none⟩), f.ev] w fun r w' => MAddDone w w' B p keys most T e r := by
  by_cases hg : GoodM keys e
  · by_cases hs : ∃ x ∈ T, SameP x e
    · exact madd_no t hf hg hn (.inl hs)
    · by_cases hc : ClashM T e
      · exact madd_no t hf hg hn (.inr (.inl hc))
      · by_cases hl : most ≤ (T.length : Int)
        · exact madd_no t hf hg hn (.inr (.inr hl))
        · exact madd_good t hf hg hn hs hc (by omega)
  · exact madd_bad t hf hg
end Go.Proofs.Ytlnkfgdepddmlac
