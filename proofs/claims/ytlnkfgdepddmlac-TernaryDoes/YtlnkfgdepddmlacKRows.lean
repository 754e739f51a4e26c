/- The document's own table by masks, as it lies; what at, fits and kept of it do. -/
import Derived.Test.YtlnkfgdepddmlacKSmall
import Derived.Test.YtlnkfgdepddmlacMCopy
import Derived.Deep.CutRange
namespace Go.Proofs.Ytlnkfgdepddmlac
open Go.RowKit Mth

/-- the document's own table by masks -/
structure KRws (w : World) (B r : Nat) (keys most : Int) (E : List TE) : Prop where
  hd : KHead w r keys most
  f4 : w.frozen? ⟨r, 4, none⟩ = false
  base : B ≤ r
  lst : ∃ la cap, w.cell? ⟨r, 4, none⟩ = some (.slice la E.length cap) ∧ MRow w B la E.length cap E
  good : ∀ x ∈ E, GoodM keys x

theorem KRws.step {w w' : World} {B r : Nat} {keys most : Int} {E : List TE} (t : KRws w B r keys most E) (hb : Below w.heap.size w w') : KRws w' B r keys most E := by
  have hr := World.block_lt_of_cell? w _ t.hd.c0
  obtain ⟨la, cap, h4, hrow⟩ := t.lst
  exact ⟨t.hd.step hb, (hb.frozen (p := ⟨r, 4, none⟩) hr).trans t.f4, t.base, ⟨la, cap, (hb.cell (p := ⟨r, 4, none⟩) hr).trans h4, hrow.step hb⟩, t.good⟩

theorem ask_dec {w w' : World} {P : Prop} [Decidable P] {q : Ending} (h : AskDone w w' P q) : q = .returned (.bool (decide P)) ∧ Grew w w' := by
  obtain ⟨b, rfl, hb, hg⟩ := h
  refine ⟨?_, hg⟩
  by_cases hp : P
  · rw [decide_eq_true hp, hb.2 hp]
  · rw [decide_eq_false hp]
    cases b with
    | false => rfl
    | true => exact absurd (hb.1 rfl) hp

/-- where an entry of that place stands; -1: nowhere -/
def KAtDone (w w' : World) (E : List TE) (e : TE) (q : Ending) : Prop :=
  ∃ v : Int, q = .returned (.int .i64 v) ∧ Grew w w' ∧ ((v = -1 ∧ ∀ x ∈ E, ¬ SameP x e) ∨ ∃ (j : Nat) (x : TE), v = (j : Int) ∧ E[j]? = some x ∧ SameP x e)

set_option maxHeartbeats 4000000 in
set_option maxRecDepth 20000 in
theorem kat_any {w : World} {B r : Nat} {keys most : Int} {E : List TE} {f : MD} {e : TE} (t : KRws w B r keys most E) (hf : f.good w e) (hg : GoodM keys e) (hn : E.length ≤ 100000) :
    Calls Try.prog 41 #[.pointer (some ⟨r, 0, none⟩), f.ev] w fun q w' => KAtDone w w' E e q := by
  have hb0 := bl_alloc (o := f.ec) (Below.refl w.heap.size w)
  have HT := hid (t.step hb0)
  have HF := hid (hf.step hb0)
  have SX : Hid (Six (w.alloc f.ec) w.heap.size (.slice f.ka f.kn f.kc) (.slice f.ma f.mn f.mc) (.int .i64 f.ln) (.int .i64 f.pr) (.int .i64 f.ac) (.slice f.a f.n f.c)) := six_new w _ _ _ _ _ _ _
  have HG0 := hid (show Grew w (w.alloc f.ec) from grew_alloc w f.ec 0)
  have HLE : Hid (∀ x ∈ E, x.ks.length = f.kn ∧ x.ms.length = f.mn) := fun x hx => by
    have h1 := t.good x hx
    have := h1.1; have := h1.2.1; have := hg.1; have := hg.2.1; have := hf.ks.1; have := hf.ms.1
    omega
  clear t hf hg hb0
  go_enter Try.func41, Try.ntmps41
  go_wp2_with fail
  generalize w.alloc f.ec = w0 at *
  go_loopw [5] (fun q wr => ∃ i : Nat, i ≤ E.length ∧ q = .int .i64 i ∧ Hid (∀ t x, t < i → E[t]? = some x → ¬ SameP x e) ∧ Hid (Grew w0 wr)) (fun q _ => E.length - (intOf q).toNat)
  case atStart => exact ⟨0, Nat.zero_le _, rfl, fun t x ht => absurd ht (Nat.not_lt_zero _), grew_refl _⟩
  case round =>
    obtain ⟨i, hi, rfl, hz, hgr⟩ := hrel
    obtain ⟨la, cap, r4, hrow⟩ := (HT.out.step hgr.out.below).lst
    by_cases hlt : i < E.length
    · obtain ⟨g, d, y, rfl, hy, hat, hgd, -, -⟩ := hrow.at i hlt
      have hgl : g < wr.heap.size := World.block_lt_of_cell? wr _ hat.c0
      have hrl : r < wr.heap.size := World.block_lt_of_cell? wr _ r4
      have hxl := HLE.out y (List.mem_of_getElem? hy)
      have S1 := SX.out.step hgr.out.below
      have hwl : w.heap.size < wr.heap.size := World.block_lt_of_cell? wr _ S1.k0
      have R4 := cell_grown (a := ⟨r, 4, none⟩) hrl r4
      have E0 := cell_grown (a := ⟨g, i * 6, none⟩) hgl hat.c0
      have E1 := cell_grown (a := ⟨g, i * 6 + 1, none⟩) hgl hat.c1
      have E2 := cell_grown (a := ⟨g, i * 6 + 2, none⟩) hgl hat.c2
      have E3 := cell_grown (a := ⟨g, i * 6 + 3, none⟩) hgl hat.c3
      have E4 := cell_grown (a := ⟨g, i * 6 + 4, none⟩) hgl hat.c4
      have E5 := cell_grown (a := ⟨g, i * 6 + 5, none⟩) hgl hat.c5
      have O0 := cell_grown (a := ⟨w.heap.size, 0, none⟩) hwl S1.k0
      have O1 := cell_grown (a := ⟨w.heap.size, 1, none⟩) hwl S1.k1
      have O2 := cell_grown (a := ⟨w.heap.size, 2, none⟩) hwl S1.k2
      have O3 := cell_grown (a := ⟨w.heap.size, 3, none⟩) hwl S1.k3
      have O4 := cell_grown (a := ⟨w.heap.size, 4, none⟩) hwl S1.k4
      have O5 := cell_grown (a := ⟨w.heap.size, 5, none⟩) hwl S1.k5
      have HC := fun q os => (kone_any (w := Sort.grow (wr.drewN q) os) (d := d) (f := f) (((HT.out.step hgr.out.below).step (below_grow wr q os)).hd) (hgd.step (below_grow wr q os)) ((HF.out.step hgr.out.below).step (below_grow wr q os)) (by rw [← hxl.1, hgd.ks.1]) (by rw [← hxl.2, hgd.ms.1])).mono (fun _ _ h => ask_dec h)
      have HY := hid hy
      have hin : (i : Int) < (E.length : Int) := by omega
      clear hat hgd S1 hy hrow
      by_cases hs : SameP y e
      · have HE : Hid (∃ (j : Nat) (x : TE), (i : Int) = (j : Int) ∧ E[j]? = some x ∧ SameP x e) := ⟨i, y, rfl, HY.out, hs⟩
        rw [decide_eq_true hs] at HC
        have HC := hid HC
        clear hs
        go_wp2_with fail
        refine wp_region_quiet_grown (by kernel_rfl) (by kernel_rfl) ?_
        repeat (go_big_quiet_step ((go_at_call 65; exact Calls.grown_of (HC.out _ _))))
        refine wpQuiet_nil ?_
        intro _ hw'
        obtain ⟨⟨nq, osq⟩, hw''⟩ := hw'
        subst hw''
        have HGR := hid (HG0.out.trans (hgr.out.trans ⟨nq, osq, rfl⟩))
        clear HC R4 E0 E1 E2 E3 E4 E5 O0 O1 O2 O3 O4 O5
        go_wp2
        go_ret
        exact ⟨i, rfl, HGR.out, .inr HE.out⟩
      · have HZ : Hid (∀ t x, t < i + 1 → E[t]? = some x → ¬ SameP x e) := fun t x ht hx => by
          by_cases et : t = i
          · subst et; rw [HY.out] at hx; cases hx; exact hs
          · exact hz.out t x (by omega) hx
        rw [decide_eq_false hs] at HC
        have HC := hid HC
        clear hs
        go_wp2_with fail
        refine wp_region_quiet_grown (by kernel_rfl) (by kernel_rfl) ?_
        repeat (go_big_quiet_step ((go_at_call 65; exact Calls.grown_of (HC.out _ _))))
        refine wpQuiet_nil ?_
        intro _ hw'
        obtain ⟨⟨nq, osq⟩, hw''⟩ := hw'
        subst hw''
        have HGR := hid (hgr.out.trans ⟨nq, osq, rfl⟩)
        clear HC R4 E0 E1 E2 E3 E4 E5 O0 O1 O2 O3 O4 O5
        go_wp2
        go_roundw
        case rel => exact ⟨i + 1, by omega, by go_num, HZ.out, HGR.out⟩
        case measure => simp [intOf]; omega
    · have ei : i = E.length := by omega
      subst ei
      have HE : Hid (∀ x ∈ E, ¬ SameP x e) := fun x hx => by
        obtain ⟨t, ht, rfl⟩ := List.getElem_of_mem hx
        exact hz.out t _ ht (List.getElem?_eq_getElem ht)
      clear hrow
      go_wp2
      go_ret
      exact ⟨-1, rfl, HG0.out.trans hgr.out, .inl ⟨rfl, HE.out⟩⟩

set_option maxHeartbeats 4000000 in
set_option maxRecDepth 20000 in
theorem kfits_any {w : World} {r : Nat} {keys most : Int} {d : MD} {x : TE} {ka : Option Addr} {kc : Nat} {k : List Int} (hh : KHead w r keys most) (hd : d.good w x) (h2 : d.mn = d.kn) (hk : Has .u64 w ka d.kn k) :
    Calls Try.prog 46 #[.pointer (some ⟨r, 0, none⟩), d.ev, .slice ka d.kn kc] w fun r w' => AskDone w w' (FitsE x k) r := by
  have hrl : r < w.heap.size := World.block_lt_of_cell? w _ hh.c0
  obtain ⟨dka, dkn, dkc, dma, dmn, dmc, dln, dpr, dac, da, dn, dc⟩ := d
  obtain ⟨-, h4, hks, -, -, hms, -, -, -, -, -⟩ := hd
  simp only at *
  subst h2
  have hb0 := bl_alloc (o := EC dka dmn dkc dma dmn dmc dln dpr dac da dn dc) (Below.refl w.heap.size w)
  have c0 := (hh.step hb0).c0
  have hne : ¬ w.heap.size = r := by omega
  have HK := hid (hks.step hb0)
  have HM := hid (hms.step hb0)
  have GK := hid (hk.step hb0)
  have hxl := hks.1
  have T1 := six_new w (.slice dka dmn dkc) (.slice dma dmn dmc) (.int .i64 dln) (.int .i64 dpr) (.int .i64 dac) (.slice da dn dc) 33
  have HGR := hid (fun s => grew_alloc w (EC dka dmn dkc dma dmn dmc dln dpr dac da dn dc) s)
  clear hks hms hk hb0 hh hrl
  go_enter Try.func46, Try.ntmps46
  go_wp2_with fail
  generalize w.alloc (EC dka dmn dkc dma dmn dmc dln dpr dac da dn dc) = w0 at *
  obtain ⟨k0, k1, -, -, -, -, -, -, -, -, -, -⟩ := T1
  go_loopw [8] (fun q wr => ∃ i : Nat, i ≤ dmn ∧ q = .int .i64 i ∧ Hid (∀ t, t < i → nz k t &&& nz x.ms t = nz x.ks t) ∧ Hid (∃ s, wr = w0.drewN s)) (fun q _ => dmn - (intOf q).toNat)
  case atStart => exact ⟨0, Nat.zero_le _, rfl, fun t ht => absurd ht (Nat.not_lt_zero _), 0, rfl⟩
  case round =>
    obtain ⟨i, hi, rfl, hz, hwr⟩ := hrel
    by_cases hlt : i < dmn
    · obtain ⟨p1, o1, rfl, -, hc1⟩ := HK.out.some (by omega)
      obtain ⟨p2, o2, rfl, -, hc2⟩ := GK.out.some (by omega)
      obtain ⟨p3, o3, rfl, -, hc3⟩ := HM.out.some (by omega)
      have e1 := mfit_nums (n64_at GK.out i) (n64_at HM.out i)
      have hn1 := (n64_at HK.out i).1
      obtain ⟨s, rfl⟩ := hwr
      have q1 : (w0.drewN s).cell? ⟨p1, o1 + i, none⟩ = _ := hc1 i hlt
      have q2 : (w0.drewN s).cell? ⟨p2, o2 + i, none⟩ = _ := hc2 i hlt
      have q3 : (w0.drewN s).cell? ⟨p3, o3 + i, none⟩ = _ := hc3 i hlt
      have b0 : (w0.drewN s).cell? ⟨w.heap.size, 0, none⟩ = _ := k0
      have b1 : (w0.drewN s).cell? ⟨w.heap.size, 1, none⟩ = _ := k1
      have E4 : Hid ((((k.getD i 0).toNat &&& (x.ms.getD i 0).toNat : Nat) : Int) = x.ks.getD i 0 ↔ nz k i &&& nz x.ms i = nz x.ks i) := by
        unfold nz
        constructor
        · intro h; omega
        · intro h; omega
      have HD : Hid (∀ s', ∃ s'', (w0.drewN s).drewN s' = w0.drewN s'') := fun s' => ⟨_, World.drewN_drewN _ _ _⟩
      generalize (((k.getD i 0).toNat &&& (x.ms.getD i 0).toNat : Nat) : Int) = a3 at *
      generalize x.ks.getD i 0 = v1 at *
      generalize k.getD i 0 = v2 at *
      generalize x.ms.getD i 0 = v3 at *
      have hin : (i : Int) < (dmn : Int) := by omega
      clear hc1 hc2 hc3 hn1
      generalize w0.drewN s = w1 at *
      by_cases h0 : a3 = v1
      · have HN : Hid (∀ t, t < i + 1 → nz k t &&& nz x.ms t = nz x.ks t) := fun t ht => by
          by_cases et : t = i
          · subst et; exact E4.out.1 h0
          · exact hz.out t (by omega)
        have hd : (a3 != v1) = false := by simpa using h0
        clear h0
        go_wp2_with fail
        go_quiet (fail)
        go_wp2
        go_roundw
        case rel => exact ⟨i + 1, by omega, by go_num, HN.out, HD.out _⟩
        case measure => simp [intOf]; omega
      · have HN : Hid (¬ FitsE x k) := fun hm => h0 (E4.out.2 (hm i (by omega)))
        have hd : (a3 != v1) = true := by simpa using h0
        clear h0
        go_wp2_with fail
        go_quiet (fail)
        go_wp2
        go_ret
        exact ⟨false, rfl, ⟨fun h => (by cases h), fun h => absurd h HN.out⟩, by obtain ⟨s'', e⟩ := HD.out nq; rw [e]; exact HGR.out _⟩
    · have ei : i = dmn := by omega
      subst ei
      have HN : Hid (FitsE x k) := fun t ht => hz.out t (by omega)
      go_wp2
      go_ret
      exact ⟨true, rfl, ⟨fun _ => HN.out, fun _ => rfl⟩, by obtain ⟨s'', e⟩ := hwr; rw [e]; exact HGR.out _⟩

theorem kfar_six (w : World) {s r : Nat} (h : s ≠ r) (o : Nat) (v0 v1 v2 v3 v4 v5 : Value) : ((((((w.setCell ⟨s, 0, none⟩ v0).setCell ⟨s, 1, none⟩ v1).setCell ⟨s, 2, none⟩ v2).setCell ⟨s, 3, none⟩ v3).setCell ⟨s, 4, none⟩ v4).setCell ⟨s, 5, none⟩ v5).cell? ⟨r, o, none⟩ = w.cell? ⟨r, o, none⟩ := by
  have hn : ∀ i, (⟨s, i, none⟩ : Addr) ≠ ⟨r, o, none⟩ := fun i e => h (congrArg Addr.block e)
  rw [World.cell?_setCell_other _ _ _ _ (hn _), World.cell?_setCell_other _ _ _ _ (hn _), World.cell?_setCell_other _ _ _ _ (hn _), World.cell?_setCell_other _ _ _ _ (hn _), World.cell?_setCell_other _ _ _ _ (hn _), World.cell?_setCell_other _ _ _ _ (hn _)]

theorem six_len {w : World} {s : Nat} {x0 x1 x2 x3 x4 x5 : Value} (t : Six w s x0 x1 x2 x3 x4 x5) (v2 : Value) : Six (w.setCell ⟨s, 2, none⟩ v2) s x0 x1 v2 x3 x4 x5 := by
  have k0 := t.k0
  have k1 := t.k1
  have k2 := t.k2
  have k3 := t.k3
  have k4 := t.k4
  have k5 := t.k5
  have f0 := t.f0
  have f1 := t.f1
  have f2 := t.f2
  have f3 := t.f3
  have f4 := t.f4
  have f5 := t.f5
  refine ⟨?_, ?_, ?_, ?_, ?_, ?_, by simpa using f0, by simpa using f1, by simpa using f2, by simpa using f3, by simpa using f4, by simpa using f5⟩ <;> simp [go_sem, k0, k1, k2, k3, k4, k5]

set_option maxHeartbeats 4000000 in
set_option maxRecDepth 20000 in
/-- kept, of an entry with masks: all but its length -/
theorem kkept_any {w : World} {r : Nat} {keys most : Int} {f : MD} {e : TE} (hh : KHead w r keys most) (hf : f.good w e) :
    Calls Try.prog 42 #[.pointer (some ⟨r, 0, none⟩), f.ev] w fun q w' => CopyDone w w' e q := by
  have hrl : r < w.heap.size := World.block_lt_of_cell? w _ hh.c0
  have hb0 : Below w.heap.size w ((w.alloc f.ec).alloc E0) := bl_alloc (bl_alloc (Below.refl _ _))
  have HF := hid (hf.step hb0)
  have HO := hid (own_any (kc := f.kc) (mc := f.mc) (c := f.c) (ln := f.ln) (pr := f.pr) (ac := f.ac) HF.out.kn0 HF.out.ks HF.out.ks3 HF.out.mn0 HF.out.ms HF.out.ms3 HF.out.n0 HF.out.xs HF.out.xs3)
  have HDD := hid (hh.step hb0)
  have HT : Hid (Six ((w.alloc f.ec).alloc E0) w.heap.size (.slice f.ka f.kn f.kc) (.slice f.ma f.mn f.mc) (.int .i64 f.ln) (.int .i64 f.pr) (.int .i64 f.ac) (.slice f.a f.n f.c)) := Six.step (six_new w _ _ _ _ _ _ _) (bl_alloc (Below.refl _ _))
  have hR := six_new (w.alloc f.ec) (.slice none 0 0) (.slice none 0 0) (.int .i64 0) (.int .i64 0) (.int .i64 0) (.slice none 0 0) 33
  rw [show (w.alloc f.ec).heap.size = w.heap.size + 1 from by simp] at hR
  have HB0 := hid hb0
  have HR : Hid (Six ((w.alloc f.ec).alloc E0) (w.heap.size + 1) (.slice none 0 0) (.slice none 0 0) (.int .i64 0) (.int .i64 0) (.int .i64 0) (.slice none 0 0)) := hR
  obtain ⟨t0, t1, t2, t3, t4, t5, -, -, -, -, -, -⟩ := HT.out
  have hne : ¬ w.heap.size = r := by omega
  have hne2 : ¬ r = w.heap.size := by omega
  clear hh hf hb0 hR
  go_enter Try.func42, Try.ntmps42
  go_wp2_with fail
  refine HO.out.mono ?_
  rintro q w2 ⟨ak, ck, am, cm, aa, ca, rfl, lk, lm, la, hb2⟩
  have hsz : ((w.alloc f.ec).alloc E0).heap.size = w.heap.size + 2 := by simp
  rw [hsz] at lk lm la
  have hT2 := HT.out.step hb2
  have TS := hid (six_set hT2 (.slice ak f.kn ck) (.slice am f.mn cm) (.int .i64 f.ln) (.int .i64 f.pr) (.int .i64 f.ac) (.slice aa f.n ca))
  have RS := hid (((((((HR.out.step hb2).far (s := w.heap.size) (o := 0) (by omega) (.slice ak f.kn ck)).far (s := w.heap.size) (o := 1) (by omega) (.slice am f.mn cm)).far (s := w.heap.size) (o := 2) (by omega) (.int .i64 f.ln)).far (s := w.heap.size) (o := 3) (by omega) (.int .i64 f.pr)).far (s := w.heap.size) (o := 4) (by omega) (.int .i64 f.ac)).far (s := w.heap.size) (o := 5) (by omega) (.slice aa f.n ca))
  have LK := hid (lk.set6 (r := w.heap.size) (B' := w.heap.size + 2) (by omega) (.slice ak f.kn ck) (.slice am f.mn cm) (.int .i64 f.ln) (.int .i64 f.pr) (.int .i64 f.ac) (.slice aa f.n ca) (Nat.le_refl _))
  have LM := hid (lm.set6 (r := w.heap.size) (B' := w.heap.size + 2) (by omega) (.slice ak f.kn ck) (.slice am f.mn cm) (.int .i64 f.ln) (.int .i64 f.pr) (.int .i64 f.ac) (.slice aa f.n ca) (Nat.le_refl _))
  have LA := hid (la.set6 (r := w.heap.size) (B' := w.heap.size + 2) (by omega) (.slice ak f.kn ck) (.slice am f.mn cm) (.int .i64 f.ln) (.int .i64 f.pr) (.int .i64 f.ac) (.slice aa f.n ca) (Nat.le_refl _))
  have BS := hid (below_six (bl_step HB0.out hb2) (Nat.le_refl _) (.slice ak f.kn ck) (.slice am f.mn cm) (.int .i64 f.ln) (.int .i64 f.pr) (.int .i64 f.ac) (.slice aa f.n ca))
  have hr0 : (((((((w2.setCell ⟨w.heap.size, 0, none⟩ (.slice ak f.kn ck)).setCell ⟨w.heap.size, 1, none⟩ (.slice am f.mn cm)).setCell ⟨w.heap.size, 2, none⟩ (.int .i64 f.ln)).setCell ⟨w.heap.size, 3, none⟩ (.int .i64 f.pr)).setCell ⟨w.heap.size, 4, none⟩ (.int .i64 f.ac)).setCell ⟨w.heap.size, 5, none⟩ (.slice aa f.n ca))).cell? ⟨r, 0, none⟩ = some (.int .i64 3) := (kfar_six w2 (by omega : w.heap.size ≠ r) 0 _ _ _ _ _ _).trans (HDD.out.step hb2).c0
  obtain ⟨k0, k1, k2, k3, k4, k5, f0, f1, f2, f3, f4, f5⟩ := hT2
  clear lk lm la hb2 HO HR HT HB0 t0 t1 t2 t3 t4 t5
  go_upto_region 2 with fail
  generalize ((((((w2.setCell ⟨w.heap.size, 0, none⟩ (.slice ak f.kn ck)).setCell ⟨w.heap.size, 1, none⟩ (.slice am f.mn cm)).setCell ⟨w.heap.size, 2, none⟩ (.int .i64 f.ln)).setCell ⟨w.heap.size, 3, none⟩ (.int .i64 f.pr)).setCell ⟨w.heap.size, 4, none⟩ (.int .i64 f.ac)).setCell ⟨w.heap.size, 5, none⟩ (.slice aa f.n ca)) = wc at *
  clear k0 k1 k2 k3 k4 k5 f0 f1 f2 f3 f4 f5 hsz
  obtain ⟨k0, k1, k2, k3, k4, k5, f0, f1, f2, f3, f4, f5⟩ := TS.out
  go_upto_region 6 with fail
  have TD := hid (six_len TS.out (.int .i64 0))
  have RD := hid (RS.out.far (s := w.heap.size) (o := 2) (by omega) (.int .i64 0))
  have LKD := hid (LK.out.far (r := w.heap.size) (o := 2) (by omega) (.int .i64 0))
  have LMD := hid (LM.out.far (r := w.heap.size) (o := 2) (by omega) (.int .i64 0))
  have LAD := hid (LA.out.far (r := w.heap.size) (o := 2) (by omega) (.int .i64 0))
  have BD := hid (BS.out.setCell (p := ⟨w.heap.size, 2, none⟩) (Nat.le_refl _) (.int .i64 0))
  generalize wc.setCell ⟨w.heap.size, 2, none⟩ (.int .i64 0) = wd' at *
  clear k0 k1 k2 k3 k4 k5 f0 f1 f2 f3 f4 f5 hr0
  obtain ⟨k0, k1, k2, k3, k4, k5, _, _, _, _, _, _⟩ := TD.out
  obtain ⟨r0, r1, r2, r3, r4, r5, g0, g1, g2, g3, g4, g5⟩ := RD.out
  have hS := six_set RD.out (.slice ak f.kn ck) (.slice am f.mn cm) (.int .i64 0) (.int .i64 f.pr) (.int .i64 f.ac) (.slice aa f.n ca)
  have l1 := LKD.out.set6 (r := w.heap.size + 1) (B' := w.heap.size) (by omega) (.slice ak f.kn ck) (.slice am f.mn cm) (.int .i64 0) (.int .i64 f.pr) (.int .i64 f.ac) (.slice aa f.n ca) (by omega)
  have l2 := LMD.out.set6 (r := w.heap.size + 1) (B' := w.heap.size) (by omega) (.slice ak f.kn ck) (.slice am f.mn cm) (.int .i64 0) (.int .i64 f.pr) (.int .i64 f.ac) (.slice aa f.n ca) (by omega)
  have l3 := LAD.out.set6 (r := w.heap.size + 1) (B' := w.heap.size) (by omega) (.slice ak f.kn ck) (.slice am f.mn cm) (.int .i64 0) (.int .i64 f.pr) (.int .i64 f.ac) (.slice aa f.n ca) (by omega)
  have hB6 := below_six BD.out (r := w.heap.size + 1) (by omega) (.slice ak f.kn ck) (.slice am f.mn cm) (.int .i64 0) (.int .i64 f.pr) (.int .i64 f.ac) (.slice aa f.n ca)
  have HE : Hid (CopyDone w _ e (.returned (EV ak f.kn ck am f.mn cm 0 f.pr f.ac aa f.n ca))) := ⟨⟨ak, f.kn, ck, am, f.mn, cm, 0, f.pr, f.ac, aa, f.n, ca⟩, rfl, ⟨l1.1, HF.out.ks3, l1.2.2.1, l2.1, HF.out.ms3, l2.2.2.1, HF.out.pr, HF.out.ac, l3.1, HF.out.xs3, l3.2.2.1⟩, ⟨l1.2.2.2, l2.2.2.2, l3.2.2.2⟩, rfl, hB6⟩
  obtain ⟨s0, s1, s2, s3, s4, s5, _, _, _, _, _, _⟩ := hS
  clear l1 l2 l3 hB6 TD RD LKD LMD LAD BD TS RS LK LM LA BS
  go_wp2
  exact bodyPost_ret (v := EV ak f.kn ck am f.mn cm 0 f.pr f.ac aa f.n ca) (by simp [results, Try.results42, go_sem, s0, s1, s2, s3, s4, s5]) rfl HE.out
end Go.Proofs.Ytlnkfgdepddmlac
