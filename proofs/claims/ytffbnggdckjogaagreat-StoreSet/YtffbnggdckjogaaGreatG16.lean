/- Texts of one chain, joined: MPlace. -/
import Derived.Test.YtffbnggdckjogaaGreatG15
import Derived.Deep.RegionHeld3
namespace Go.Proofs.YtffbnggdckjogaaGreat
open Go.RowKit Mth
structure MTab (w : World) (B p : Nat) (keys most : Int) (T : List TE) : Prop where
  c0 : w.cell? ⟨p, 0, none⟩ = some (.int .i64 keys)
  c1 : w.cell? ⟨p, 1, none⟩ = some (.int .i64 most)
  f2 : w.frozen? ⟨p, 2, none⟩ = false
  base : B ≤ p
  lst : ∃ la cap, w.cell? ⟨p, 2, none⟩ = some (.slice la T.length cap) ∧ MRow w B la T.length cap T
  ok : OkM keys most T
theorem MTab.step {w w' : World} {B p : Nat} {keys most : Int} {T : List TE} (t : MTab w B p keys most T) (hb : Below w.heap.size w w') : MTab w' B p keys most T := by
  have hp := World.block_lt_of_cell? w _ t.c0
  have cs : ∀ i, w'.cell? ⟨p, i, none⟩ = w.cell? ⟨p, i, none⟩ := fun i => hb.cell (p := ⟨p, i, none⟩) hp
  obtain ⟨la, cap, h2, hr⟩ := t.lst
  exact ⟨(cs 0).trans t.c0, (cs 1).trans t.c1, (hb.frozen (p := ⟨p, 2, none⟩) hp).trans t.f2, t.base, ⟨la, cap, (cs 2).trans h2, hr.step hb⟩, t.ok⟩
theorem ok_lens {keys most : Int} {T : List TE} {e : TE} (h : OkM keys most T) (hg : GoodM keys e) : ∀ x ∈ T, x.ks.length = e.ks.length ∧ x.ms.length = e.ks.length := fun x hx => by
  have := h.good x hx
  have := this.1; have := (h.good x hx).2.1; have := hg.1
  omega
theorem keepB {w w' : World} {s p : Nat} {x0 x1 x2 x3 x4 x5 y : Value} (h : w.cell? ⟨s, 0, none⟩ = some x0 ∧ w.cell? ⟨s, 1, none⟩ = some x1 ∧ w.cell? ⟨s, 2, none⟩ = some x2 ∧ w.cell? ⟨s, 3, none⟩ = some x3 ∧ w.cell? ⟨s, 4, none⟩ = some x4 ∧ w.cell? ⟨s, 5, none⟩ = some x5 ∧ w.cell? ⟨p, 2, none⟩ = some y) (hb : Below w.heap.size w w') :
    w'.cell? ⟨s, 0, none⟩ = some x0 ∧ w'.cell? ⟨s, 1, none⟩ = some x1 ∧ w'.cell? ⟨s, 2, none⟩ = some x2 ∧ w'.cell? ⟨s, 3, none⟩ = some x3 ∧ w'.cell? ⟨s, 4, none⟩ = some x4 ∧ w'.cell? ⟨s, 5, none⟩ = some x5 ∧ w'.cell? ⟨p, 2, none⟩ = some y := by
  have hs := World.block_lt_of_cell? w _ h.1
  have hp := World.block_lt_of_cell? w _ h.2.2.2.2.2.2
  have cs : ∀ i, w'.cell? ⟨s, i, none⟩ = w.cell? ⟨s, i, none⟩ := fun i => hb.cell (p := ⟨s, i, none⟩) hs
  rw [cs, cs, cs, cs, cs, cs, hb.cell (p := ⟨p, 2, none⟩) hp]
  exact h
set_option maxHeartbeats 4000000 in
set_option maxRecDepth 20000 in
theorem mplace_any {w : World} {B p : Nat} {keys most : Int} {T : List TE} {f : MD} {e : TE} (t : MTab w B p keys most T) (hf : f.good w e) (hg : GoodM keys e) (hn : T.length ≤ 100000) :
    Calls Tryz.prog 121 #[.pointer (some ⟨p, 0, none⟩), f.ev] w fun r w' => SearchDone w w' T e r := by
  have hb0 := bl_alloc (o := f.ec) (Below.refl w.heap.size w)
  obtain ⟨la, cap, p2, hr⟩ := (t.step hb0).lst
  have hb1 : Below (w.alloc f.ec).heap.size (w.alloc f.ec) (w.alloc f.ec).drew := (Below.refl _ _).drew
  have HC := hid (bs_any (hr.step hb1) ((hf.step hb0).step hb1) t.ok.srt (fun x hx => by
    have := ok_lens t.ok hg x hx
    have h1 := hf.ks.1
    have h2 := hf.ms.1
    have := hg.1; have := hg.2.1
    omega) hn)
  have SX : Six (w.alloc f.ec) w.heap.size (.slice f.ka f.kn f.kc) (.slice f.ma f.mn f.mc) (.int .i64 f.ln) (.int .i64 f.pr) (.int .i64 f.ac) (.slice f.a f.n f.c) := six_new w _ _ _ _ _ _ _
  obtain ⟨k0, k1, k2, k3, k4, k5, -, -, -, -, -, -⟩ := SX
  have HGR := hid (grew_alloc w f.ec 1)
  have hpl : p < w.heap.size := World.block_lt_of_cell? w _ t.c0
  have hne : ¬ w.heap.size = p := by omega
  clear t hf hg hb0 hb1 hr
  go_enter Tryz.func121, Tryz.ntmps121
  go_wp2_with fail
  have HGR' : Hid (Grew w (w.alloc f.ec).drew) := HGR.out
  generalize w.alloc f.ec = w0 at *
  generalize w.heap.size = b at *
  go_region_held3 (fun w' => w'.cell? ⟨b, 0, none⟩ = some (.slice f.ka f.kn f.kc) ∧ w'.cell? ⟨b, 1, none⟩ = some (.slice f.ma f.mn f.mc) ∧ w'.cell? ⟨b, 2, none⟩ = some (.int .i64 f.ln) ∧ w'.cell? ⟨b, 3, none⟩ = some (.int .i64 f.pr) ∧ w'.cell? ⟨b, 4, none⟩ = some (.int .i64 f.ac) ∧ w'.cell? ⟨b, 5, none⟩ = some (.slice f.a f.n f.c) ∧ w'.cell? ⟨p, 2, none⟩ = some (.slice la T.length cap))
    (first
      | go_keep
      | (go_split_ands
         first
         | exact keepB ⟨by assumption, by assumption, by assumption, by assumption, by assumption, by assumption, by assumption⟩ hg1.below))
    (first
      | (go_at_call 133; refine HC.out.mono ?_; rintro r w1 ⟨i, fb, rfl, hcut, hfo, hg1⟩))
  all_goals
    have HE : Hid (SearchDone w w1 T e (.returned (.tuple #[.int .i64 i, .bool fb]))) := ⟨i, fb, rfl, hcut, hfo, HGR'.out.trans hg1⟩
    clear hcut hfo hg1
    go_wp2
    exact bodyPost_ret (v := .tuple #[.int .i64 i, .bool fb]) (by simp [results, Tryz.results121, go_sem]) rfl HE.out
set_option maxHeartbeats 1000000 in
set_option maxRecDepth 20000 in
theorem clash1_any {w : World} {d : MD} {x : TE} {pr : Int} (hd : d.good w x) :
    Calls Tryz.prog 138 #[d.ev, .int .i64 pr] w fun r w' => CmpDone w w' (ord x.pr pr) r := by
  have SX : Six (w.alloc d.ec) w.heap.size (.slice d.ka d.kn d.kc) (.slice d.ma d.mn d.mc) (.int .i64 d.ln) (.int .i64 d.pr) (.int .i64 d.ac) (.slice d.a d.n d.c) := six_new w _ _ _ _ _ _ _
  obtain ⟨-, -, -, k3, -, -, -, -, -, -, -, -⟩ := SX
  have HPR := hid hd.pr
  have HGR := hid (grew_alloc w d.ec 0)
  clear hd
  go_enter Tryz.func138, Tryz.ntmps138
  go_wp2_with fail
  refine (cmpI_any _ _ _).mono ?_
  rintro r w1 ⟨rfl, rfl⟩
  have HO := hid (show ord d.pr pr = ord x.pr pr by rw [HPR.out])
  generalize ord d.pr pr = o at *
  go_wp2
  go_ret
  exact ⟨by rw [← HO.out]; rfl, HGR.out⟩
structure SrchP (T : List TE) (pr : Int) (i j : Nat) : Prop where
  le : i ≤ j
  jn : j ≤ T.length
  lo : ∀ t x, t < i → T[t]? = some x → x.pr < pr
  hi : ∀ t x, j ≤ t → T[t]? = some x → ¬ x.pr < pr
theorem srchP_zero (T : List TE) (pr : Int) : SrchP T pr 0 T.length := ⟨Nat.zero_le _, Nat.le_refl _, fun t x h => absurd h (Nat.not_lt_zero _), fun t x h hx => by
  rw [List.getElem?_eq_none h] at hx; cases hx⟩
theorem sorted_pr {T : List TE} (h : SortedM T) {i j : Nat} {x y : TE} (hij : i ≤ j) (hx : T[i]? = some x) (hy : T[j]? = some y) : x.pr ≤ y.pr := by
  by_cases e' : i = j
  · subst e'; rw [hx] at hy; cases hy; exact Int.le_refl _
  · exact cmpE_pr (sorted_at h (by omega) hx hy)
theorem srchP_up {T : List TE} {pr : Int} {i j m : Nat} {y : TE} (s : SortedM T) (h : SrchP T pr i j) (h2 : m < j) (hy : T[m]? = some y) (hc : y.pr < pr) : SrchP T pr (m + 1) j :=
  ⟨h2, h.jn, fun t x ht hx => by have := sorted_pr s (show t ≤ m by omega) hx hy; omega, h.hi⟩
theorem srchP_down {T : List TE} {pr : Int} {i j m : Nat} {y : TE} (s : SortedM T) (h : SrchP T pr i j) (h1 : i ≤ m) (h2 : m < j) (hy : T[m]? = some y) (hc : ¬ y.pr < pr) : SrchP T pr i m :=
  ⟨h1, by have := h.jn; omega, h.lo, fun t x ht hx hcx => by have := sorted_pr s ht hy hx; omega⟩
def SearchP (w w' : World) (T : List TE) (pr : Int) (r : Ending) : Prop :=
  ∃ (i : Nat) (f : Bool), r = .returned (.tuple #[.int .i64 i, .bool f]) ∧ SrchP T pr i i ∧ Grew w w'
set_option maxHeartbeats 4000000 in
set_option maxRecDepth 20000 in
theorem bsp_any {w : World} {B : Nat} {la : Option Addr} {n cap : Nat} {T : List TE} {pr : Int} (hr : MRow w B la n cap T) (hs : SortedM T) (hn : n ≤ 100000) :
    Calls Tryz.prog 137 #[.slice la n cap, .int .i64 pr, .func (.func 138) #[] #[]] w fun r w' => SearchP w w' T pr r := by
  have HR := hid hr
  have HS := hid hs
  have hlen := hr.len
  clear hr hs
  go_enter Tryz.func137, Tryz.ntmps137
  go_wp2_with fail
  go_loopw [9, 10] (fun p q wr => ∃ i j : Nat, p = .int .i64 i ∧ q = .int .i64 j ∧ Hid (SrchP T pr i j) ∧ Hid (Grew w wr)) (fun p q _ => (intOf q).toNat - (intOf p).toNat)
  case atStart => exact ⟨0, n, rfl, rfl, by rw [← hlen]; exact srchP_zero T pr, grew_refl _⟩
  case round =>
    obtain ⟨i, j, rfl, rfl, hsr, hgr⟩ := hrel
    have hij := hsr.out.le
    have hjn := hsr.out.jn
    by_cases hlt : i < j
    · have hlti : (i : Int) < (j : Int) := by omega
      obtain ⟨m, hm⟩ : ∃ m, m = (i + j) / 2 := ⟨_, rfl⟩
      have hm1 : i ≤ m := by omega
      have hm2 : m < j := by omega
      have hmi : ((i : Int) + (j : Int)) / 2 = (m : Int) := by omega
      obtain ⟨g, d, y, rfl, hy, hat, hgd, -, -⟩ := (HR.out.step hgr.out.below).at m (by omega)
      obtain ⟨c0, c1, c2, c3, c4, c5⟩ := hat
      have HC := hid (clash1_any (pr := pr) hgd)
      have HY := hid hy
      have hmn : (m : Int) < (n : Int) := by omega
      have hm0 : (0 : Int) ≤ (m : Int) := by omega
      clear hgd hy hm
      go_wp2_with fail
      refine HC.out.mono ?_
      rintro r w1 ⟨rfl, hg1⟩
      have HG1 := hid (hgr.out.trans hg1)
      by_cases hc : y.pr < pr
      · have HN := hid (srchP_up HS.out hsr.out hm2 HY.out hc)
        have hcd : ord y.pr pr < 0 := (ord_lt _ _).2 hc
        generalize ord y.pr pr = cv at *
        clear HC hg1 hc
        go_wp2
        go_roundw
        case rel => exact ⟨m + 1, j, by go_num, rfl, HN.out, HG1.out⟩
        case measure => simp [intOf]; omega
      · have HN := hid (srchP_down HS.out hsr.out hm1 hm2 HY.out hc)
        have hcd : ¬ ord y.pr pr < 0 := fun h => hc ((ord_lt _ _).1 h)
        generalize ord y.pr pr = cv at *
        clear HC hg1 hc
        go_wp2
        go_roundw
        case rel => exact ⟨i, m, rfl, rfl, HN.out, HG1.out⟩
        case measure => simp [intOf]; omega
    · have ej : j = i := by omega
      subst ej
      by_cases hin : j < n
      · obtain ⟨g, d, y, rfl, hy, hat, hgd, -, -⟩ := (HR.out.step hgr.out.below).at j hin
        obtain ⟨c0, c1, c2, c3, c4, c5⟩ := hat
        have HC := hid (clash1_any (pr := pr) hgd)
        have hji : (j : Int) < (n : Int) := by omega
        clear hgd hy
        go_wp2_with fail
        refine HC.out.mono ?_
        rintro r w1 ⟨rfl, hg1⟩
        have HG1 := hid (hgr.out.trans hg1)
        generalize ord y.pr pr = cv at *
        clear HC hg1
        by_cases h0 : cv = 0
        · have hd : (cv == 0) = true := by simpa using h0
          clear h0
          go_wp2
          exact bodyPost_ret (v := .tuple #[.int .i64 j, .bool true]) (by simp [results, Tryz.results137, go_sem]) rfl ⟨j, true, rfl, hsr.out, HG1.out⟩
        · have hd : (cv == 0) = false := by simpa using h0
          clear h0
          go_wp2
          exact bodyPost_ret (v := .tuple #[.int .i64 j, .bool false]) (by simp [results, Tryz.results137, go_sem]) rfl ⟨j, false, rfl, hsr.out, HG1.out⟩
      · have hjd : ¬ (j : Int) < (n : Int) := by omega
        go_wp2
        exact bodyPost_ret (v := .tuple #[.int .i64 j, .bool false]) (by simp [results, Tryz.results137, go_sem]) rfl ⟨j, false, rfl, hsr.out, hgr.out⟩
abbrev ClashM (T : List TE) (e : TE) : Prop := ∃ x ∈ T, x.pr = e.pr ∧ Meets x e
theorem clash_none {T : List TE} {e : TE} {i j : Nat} (s : SortedM T) (h : SrchP T e.pr i i) (hz : ∀ t x, i ≤ t → t < i + j → T[t]? = some x → ¬ Meets x e) {y : TE} (hy : T[i + j]? = some y) (hp : ¬ y.pr = e.pr) : ¬ ClashM T e := by
  rintro ⟨x, hx, hxp, hm⟩
  obtain ⟨t, ht, rfl⟩ := List.getElem_of_mem hx
  have hxt : T[t]? = some T[t] := List.getElem?_eq_getElem ht
  by_cases h1 : t < i
  · have := h.lo t _ h1 hxt; omega
  · by_cases h2 : t < i + j
    · exact hz t _ (by omega) h2 hxt hm
    · have h3 := sorted_pr s (show i + j ≤ t by omega) hy hxt
      have h4 := h.hi (i + j) y (by omega) hy
      omega
theorem clash_end {T : List TE} {e : TE} {i : Nat} (h : SrchP T e.pr i i) (hz : ∀ t x, i ≤ t → T[t]? = some x → ¬ Meets x e) : ¬ ClashM T e := by
  rintro ⟨x, hx, hxp, hm⟩
  obtain ⟨t, ht, rfl⟩ := List.getElem_of_mem hx
  have hxt : T[t]? = some T[t] := List.getElem?_eq_getElem ht
  by_cases h1 : t < i
  · have := h.lo t _ h1 hxt; omega
  · exact hz t _ (by omega) hxt hm
set_option maxHeartbeats 8000000 in
set_option maxRecDepth 20000 in
theorem clashes_any {w : World} {B p : Nat} {keys most : Int} {T : List TE} {f : MD} {e : TE} (t : MTab w B p keys most T) (hf : f.good w e) (hg : GoodM keys e) (hn : T.length ≤ 100000) :
    Calls Tryz.prog 122 #[.pointer (some ⟨p, 0, none⟩), f.ev] w fun r w' => AskDone w w' (ClashM T e) r := by
  have hb0 := bl_alloc (o := f.ec) (Below.refl w.heap.size w)
  obtain ⟨la, cap, p2, hr⟩ := (t.step hb0).lst
  have hb1 : Below (w.alloc f.ec).heap.size (w.alloc f.ec) (w.alloc f.ec).drew := (Below.refl _ _).drew
  have HC := hid (bsp_any (pr := f.pr) (hr.step hb1) t.ok.srt hn)
  have HR := hid (hr.step hb1)
  have HS := hid t.ok.srt
  have HF := hid ((hf.step hb0).step hb1)
  have hkl := hf.ks.1
  have hml := hf.ms.1
  have HL := hid (ok_lens t.ok hg)
  have hkm : e.ms.length = e.ks.length := by have := hg.1; have := hg.2.1; omega
  have HPR := hid hf.pr
  have SX0 : Six (w.alloc f.ec) w.heap.size (.slice f.ka f.kn f.kc) (.slice f.ma f.mn f.mc) (.int .i64 f.ln) (.int .i64 f.pr) (.int .i64 f.ac) (.slice f.a f.n f.c) := six_new w _ _ _ _ _ _ _
  have SX := hid SX0
  obtain ⟨k0, k1, k2, k3, k4, k5, -, -, -, -, -, -⟩ := SX0
  have HGR' : Hid (Grew w (w.alloc f.ec).drew) := grew_alloc w f.ec 1
  have hpl : p < w.heap.size := World.block_lt_of_cell? w _ t.c0
  have hne : ¬ w.heap.size = p := by omega
  have hcap : T.length ≤ cap := by
    obtain ⟨⟨ds, -, -, ho, -⟩, -⟩ := hr
    rcases ho.2 with ⟨_, e⟩ | ⟨_, _, _, h, _, _, h', _⟩
    · omega
    · simp only [Value.slice.injEq] at h; omega
  clear t hf hg hb0 hb1 hr
  go_enter Tryz.func122, Tryz.ntmps122
  go_wp2_with fail
  generalize w.alloc f.ec = w0 at *
  generalize w.heap.size = b at *
  go_region_held3 (fun w' => w'.cell? ⟨b, 0, none⟩ = some (.slice f.ka f.kn f.kc) ∧ w'.cell? ⟨b, 1, none⟩ = some (.slice f.ma f.mn f.mc) ∧ w'.cell? ⟨b, 2, none⟩ = some (.int .i64 f.ln) ∧ w'.cell? ⟨b, 3, none⟩ = some (.int .i64 f.pr) ∧ w'.cell? ⟨b, 4, none⟩ = some (.int .i64 f.ac) ∧ w'.cell? ⟨b, 5, none⟩ = some (.slice f.a f.n f.c) ∧ w'.cell? ⟨p, 2, none⟩ = some (.slice la T.length cap))
    (first
      | go_keep
      | (go_split_ands
         first
         | exact keepB ⟨by assumption, by assumption, by assumption, by assumption, by assumption, by assumption, by assumption⟩ hg1.below))
    (first
      | (go_at_call 137; refine HC.out.mono ?_; rintro r w1 ⟨i, fb, rfl, hcut, hg1⟩))
  all_goals
    clear k0 k1 k2 k3 k4 k5 p2
    rename_i hHeld
    obtain ⟨k0, k1, k2, k3, k4, k5, p2⟩ := hHeld
    have HCUT := hid (by rw [HPR.out] at hcut; exact hcut : SrchP T e.pr i i)
    have HW1 := hid (HGR'.out.trans hg1)
    have HR1 := hid (HR.out.step hg1.below)
    have HF1 := hid (HF.out.step hg1.below)
    have SX1 : Hid (Six w1 b (.slice f.ka f.kn f.kc) (.slice f.ma f.mn f.mc) (.int .i64 f.ln) (.int .i64 f.pr) (.int .i64 f.ac) (.slice f.a f.n f.c)) := (SX.out.step (Below.refl w0.heap.size w0).drew).step hg1.below
    have hiT := hcut.jn
    clear hcut hg1 HC HR HF SX HGR'
    by_cases hin : i < T.length
    · obtain ⟨g, ela, -, -⟩ := HR1.out.some (by omega)
      subst ela
      obtain ⟨m, hm⟩ : ∃ m, T.length - i = m := ⟨_, rfl⟩
      have hci : ¬ cap = i := by omega
      have hi1 : (i : Int) ≤ (T.length : Int) := by omega
      have hi2 : (T.length : Int) ≤ (cap : Int) := by omega
      have hi0 : (0 : Int) ≤ (i : Int) := by omega
      go_wp2_with fail
      go_loopw [26] (fun q wr => ∃ j : Nat, j ≤ m ∧ q = .int .i64 j ∧ Hid (∀ t x, i ≤ t → t < i + j → T[t]? = some x → ¬ Meets x e) ∧ Hid (Grew w1 wr)) (fun q _ => m - (intOf q).toNat)
      case atStart => exact ⟨0, Nat.zero_le _, rfl, fun t x h1 h2 => absurd h2 (by omega), grew_refl _⟩
      case round =>
        obtain ⟨j, hj, rfl, hz, hgr⟩ := hrel
        by_cases hlt : j < m
        · obtain ⟨g', d, y, eg, hy, hat, hgd, -, -⟩ := (HR1.out.step hgr.out.below).at (i + j) (by omega)
          have eg' : g = g' := by simpa using eg
          subst eg'
          have hxl := HL.out y (List.mem_of_getElem? hy)
          obtain ⟨c0, c1, c2, c3, c4, c5⟩ := hat
          rw [Nat.add_mul] at c0 c1 c2 c3 c4 c5
          have hbl : b < wr.heap.size := World.block_lt_of_cell? wr _ (SX1.out.step hgr.out.below).k0
          have hal : Below wr.heap.size wr (wr.alloc d.ec) := bl_alloc (Below.refl _ _)
          have HMT := hid (meet_any (hgd.step hal) ((HF1.out.step hgr.out.below).step hal) (by rw [← hkl, ← hxl.1, hgd.ks.1]) (by rw [← hgd.ks.1, ← hgd.ms.1]; omega) (by rw [← hml, ← hgd.ks.1]; omega))
          obtain ⟨b0, b1, b2, b3, b4, b5, -, -, -, -, -, -⟩ := (SX1.out.step hgr.out.below).step hal
          have SN : Six (wr.alloc d.ec) wr.heap.size (.slice d.ka d.kn d.kc) (.slice d.ma d.mn d.mc) (.int .i64 d.ln) (.int .i64 d.pr) (.int .i64 d.ac) (.slice d.a d.n d.c) := six_new wr _ _ _ _ _ _ _
          obtain ⟨n0, n1, n2, n3, n4, n5, -, -, -, -, -, -⟩ := SN
          have HG2 := hid ((HW1.out.trans hgr.out).trans (show Grew wr (wr.alloc d.ec) from grew_alloc wr d.ec 0))
          have HG3 := hid (hgr.out.trans (show Grew wr (wr.alloc d.ec) from grew_alloc wr d.ec 0))
          have HY := hid hy
          have HDP := hid hgd.pr
          have hjm : (j : Int) < (m : Int) := by omega
          clear hgd hy hxl eg hal
          by_cases hp : d.pr = f.pr
          · have hpd : (d.pr != f.pr) = false := by simpa using hp
            have HEP := hid (show y.pr = e.pr by rw [← HDP.out, ← HPR.out]; exact hp)
            clear hp
            go_wp2_with fail
            refine HMT.out.mono ?_
            rintro r w2 ⟨bv, rfl, hbv, hg2⟩
            have HGA := hid (HG2.out.trans hg2)
            have HGB := hid (HG3.out.trans hg2)
            cases bv with
            | true =>
              have HE : Hid (AskDone w w2 (ClashM T e) (.returned (.bool true))) := ⟨true, rfl, ⟨fun _ => ⟨y, List.mem_of_getElem? HY.out, HEP.out, hbv.1 rfl⟩, fun _ => rfl⟩, HGA.out⟩
              clear hbv hg2 HMT n0 n1 n2 n3 n4 n5 b0 b1 b2 b3 b4 b5 c0 c1 c2 c3 c4 c5
              go_wp2
              go_ret
              exact HE.out
            | false =>
              have HZ : Hid (∀ t x, i ≤ t → t < i + (j + 1) → T[t]? = some x → ¬ Meets x e) := fun t x h1 h2 hx => by
                by_cases et : t = i + j
                · subst et
                  rw [HY.out] at hx
                  cases hx
                  intro hm'
                  have := hbv.2 hm'
                  cases this
                · exact hz.out t x h1 (by omega) hx
              clear hbv hg2 HMT n0 n1 n2 n3 n4 n5 b0 b1 b2 b3 b4 b5 c0 c1 c2 c3 c4 c5
              go_wp2
              go_roundw
              case rel => exact ⟨j + 1, by omega, by go_num, HZ.out, HGB.out⟩
              case measure => simp [intOf]; omega
          · have hpd : (d.pr != f.pr) = true := by simpa using hp
            have HE : Hid (AskDone w (wr.alloc d.ec) (ClashM T e) (.returned (.bool false))) := ⟨false, rfl, ⟨fun h => (by cases h), fun h => absurd h (clash_none HS.out HCUT.out hz.out HY.out (by rw [← HDP.out, ← HPR.out]; exact hp))⟩, HG2.out⟩
            clear hp HMT
            go_wp2
            go_ret
            exact HE.out
        · have HE : Hid (AskDone w wr (ClashM T e) (.returned (.bool false))) := ⟨false, rfl, ⟨fun h => (by cases h), fun h => absurd h (clash_end HCUT.out (fun t x h1 hx => hz.out t x h1 (by have := (List.getElem?_eq_some_iff.1 hx).1; omega) hx))⟩, HW1.out.trans hgr.out⟩
          go_wp2
          go_ret
          exact HE.out
    · have ei : i = T.length := by omega
      have HE : Hid (AskDone w w1 (ClashM T e) (.returned (.bool false))) := ⟨false, rfl, ⟨fun h => (by cases h), fun h => absurd h (clash_end HCUT.out (fun t x h1 hx => by have := (List.getElem?_eq_some_iff.1 hx).1; omega))⟩, HW1.out⟩
      subst ei
      have hi2 : (T.length : Int) ≤ (cap : Int) := by omega
      have hca : la = none → cap = 0 ∧ T.length = 0 := fun h => by
        obtain ⟨⟨ds, -, -, ho, -⟩, -⟩ := HR1.out
        rcases ho.2 with ⟨e1, e2⟩ | ⟨_, _, _, h', _⟩
        · simp only [Value.slice.injEq] at e1; exact ⟨e1.2.2, e2⟩
        · rw [h] at h'; simp at h'
      cases la with
      | none =>
        obtain ⟨rfl, hT0⟩ := hca rfl
        rw [hT0] at p2 hi2 ⊢
        clear HR1 hca
        go_wp2_with fail
        go_loopw [26] (fun q wr => q = .int .i64 0 ∧ wr = w1) (fun _ _ => 0)
        case atStart => exact ⟨rfl, rfl⟩
        case round =>
          obtain ⟨rfl, rfl⟩ := hrel
          go_wp2
          go_ret
          exact HE.out
      | some ad =>
        obtain ⟨g, off, il⟩ := ad
        have hgz : off = 0 ∧ il = none := by
          obtain ⟨⟨ds, -, -, ho, -⟩, -⟩ := HR1.out
          rcases ho.2 with ⟨e1, e2⟩ | ⟨_, _, _, h', _⟩
          · simp at e1
          · simp only [Value.slice.injEq, Option.some.injEq, Addr.mk.injEq] at h'; exact ⟨h'.1.2.1, h'.1.2.2⟩
        obtain ⟨rfl, rfl⟩ := hgz
        clear HR1 hca
        generalize hnn : T.length = n at *
        by_cases hcn : cap = n
        · go_wp2_with fail
          go_loopw [26] (fun q wr => q = .int .i64 0 ∧ wr = w1) (fun _ _ => 0)
          case atStart => exact ⟨rfl, rfl⟩
          case round =>
            obtain ⟨rfl, rfl⟩ := hrel
            go_wp2
            go_ret
            exact HE.out
        · go_wp2_with fail
          go_loopw [26] (fun q wr => q = .int .i64 0 ∧ wr = w1) (fun _ _ => 0)
          case atStart => exact ⟨rfl, rfl⟩
          case round =>
            obtain ⟨rfl, rfl⟩ := hrel
            go_wp2
            go_ret
            exact HE.out
end Go.Proofs.YtffbnggdckjogaaGreat
