/- Texts of one chain, joined: SSmall2, SSmall3, SRules. -/
import Derived.Test.YtffbnggdckjogaaGreatG0
import Derived.Test.YtffbnggdckjogaaGreatG21
import Derived.Test.YtffbnggdckjogaaGreatG17
namespace Go.Proofs.YtffbnggdckjogaaGreat
open Go.RowKit Mth
abbrev Narrow (l ws : List Int) : Prop := ∀ i, i < l.length → blen (l.getD i 0) ≤ ws.getD i 0
theorem grew_drew {w w1 : World} (h : Grew w w1) (s : Nat) : Grew w (w1.drewN s) := h.trans ⟨s, #[], by rw [Sort.grow_empty]⟩
set_option maxHeartbeats 2000000 in
set_option maxRecDepth 20000 in
theorem narrow_any {w : World} {a b : Option Addr} {n m : Nat} {l ws : List Int} (c d : Nat) (hnm : n ≤ m) (hn : n ≤ 100000) (ha : Has .u64 w a n l) (hb : Has .i64 w b m ws) :
    Calls Tryz.prog 33 #[.slice a n c, .slice b m d] w fun q w' => AskDone w w' (Narrow l ws) q := by
  have hl := ha.1
  have HA := hid ha
  have HB := hid hb
  clear ha hb
  go_enter Tryz.func33, Tryz.ntmps33
  go_wp2
  go_loopw [9] (fun q wr => ∃ i : Nat, i ≤ n ∧ q = .int .i64 i ∧ Hid (∀ t, t < i → blen (l.getD t 0) ≤ ws.getD t 0) ∧ Hid (Grew w wr)) (fun q _ => n - (intOf q).toNat)
  case atStart => exact ⟨0, Nat.zero_le _, rfl, fun t ht => absurd ht (Nat.not_lt_zero _), grew_refl w⟩
  case round =>
    obtain ⟨i, hi, rfl, hz, hwr⟩ := hrel
    by_cases hlt : i < n
    · obtain ⟨p1, o1, rfl, hp1, hc1⟩ := (HA.out.step hwr.out.below).some (by omega)
      obtain ⟨p2, o2, rfl, hp2, hc2⟩ := (HB.out.step hwr.out.below).some (by omega)
      have q1 := hc1 i hlt
      have q2 := hc2 i (by omega)
      have hr := n64_at HA.out i
      have HC := hid (fun q os => len64_any (l.getD i 0) (Sort.grow (wr.drewN q) os) hr.1 hr.2)
      have E4 : Hid (blen (l.getD i 0) ≤ ws.getD i 0 ↔ blen (l.getD i 0) ≤ ws.getD i 0) := Iff.rfl
      have Q2 := cell_grown (a := ⟨p2, o2 + i, none⟩) hp2 q2
      generalize hv2 : ws.getD i 0 = v2 at *
      generalize hv1 : l.getD i 0 = v1 at *
      generalize hbl : blen v1 = bl at *
      have HV := hid hv1
      have HV2 := hid hv2
      have HBL := hid hbl
      have hin : (i : Int) < (n : Int) := by omega
      have him : (i : Int) < (m : Int) := by omega
      clear hc1 hc2 hr hv1 hv2 hbl E4
      by_cases h0 : bl ≤ v2
      · have hd : decide (v2 < bl) = false := by simpa using h0
        have HN : Hid (∀ t, t < i + 1 → blen (l.getD t 0) ≤ ws.getD t 0) := fun t ht => by
          by_cases et : t = i
          · subst et; rw [HV.out, HV2.out, HBL.out]; exact h0
          · exact hz.out t (by omega)
        clear h0
        go_wp2_with fail
        refine wp_region_quiet_grown (by kernel_rfl) (by kernel_rfl) ?_
        repeat (go_big_quiet_step ((go_at_call 36; exact Calls.grown_of ((HC.out _ _).mono fun _ _ ⟨h1, h2⟩ => ⟨h1, 0, #[], by rw [h2, Sort.grow_empty]; rfl⟩))))
        refine wpQuiet_nil ?_
        intro _ hw'
        obtain ⟨⟨nq, osq⟩, hw''⟩ := hw'
        subst hw''
        have HG : Hid (Grew w (Sort.grow (wr.drewN nq) osq)) := hwr.out.trans ⟨nq, osq, rfl⟩
        clear HC Q2
        go_wp2
        go_roundw
        case rel => exact ⟨i + 1, by omega, by go_num, HN, HG⟩
        case measure => simp [intOf]; omega
      · have hd : decide (v2 < bl) = true := by simpa using h0
        have HN : Hid (¬ Narrow l ws) := fun h => by have := h i (by omega); rw [HV.out, HV2.out, HBL.out] at this; exact h0 this
        clear h0
        go_wp2_with fail
        refine wp_region_quiet_grown (by kernel_rfl) (by kernel_rfl) ?_
        repeat (go_big_quiet_step ((go_at_call 36; exact Calls.grown_of ((HC.out _ _).mono fun _ _ ⟨h1, h2⟩ => ⟨h1, 0, #[], by rw [h2, Sort.grow_empty]; rfl⟩))))
        refine wpQuiet_nil ?_
        intro _ hw'
        obtain ⟨⟨nq, osq⟩, hw''⟩ := hw'
        subst hw''
        have HE : Hid (AskDone w (Sort.grow (wr.drewN nq) osq) (Narrow l ws) (.returned (.bool false))) := ⟨false, rfl, ⟨fun h => (by cases h), fun h => absurd h HN.out⟩, hwr.out.trans ⟨nq, osq, rfl⟩⟩
        clear HC Q2 HN
        go_wp2
        go_ret
        exact HE.out
    · have ei : i = n := by omega
      subst ei
      have HE : Hid (AskDone w wr (Narrow l ws) (.returned (.bool true))) := ⟨true, rfl, ⟨fun _ t ht => hz.out t (by omega), fun _ => rfl⟩, hwr.out⟩
      clear hz hwr
      go_wp2
      go_ret
      exact HE.out
end Go.Proofs.YtffbnggdckjogaaGreat

namespace Go.Proofs.YtffbnggdckjogaaGreat
open Go.RowKit Mth
set_option maxHeartbeats 400000 in
set_option maxRecDepth 20000 in
theorem shitOf_any (d : MD) (w : World) :
    Calls Tryz.prog 32 #[d.ev] w fun e w' => e = .returned (.agg #[.int .i64 d.ac, .slice d.a d.n d.c]) ∧ Grew w w' := by
  go_enter Tryz.func32, Tryz.ntmps32
  go_wp2
  exact bodyPost_ret (v := .agg #[.int .i64 d.ac, .slice d.a d.n d.c]) (by simp [results, Tryz.results32, go_sem]) rfl ⟨rfl, grew_alloc2 _ _ _ 0⟩
theorem stwo_cells {w w1 : World} {x y : Int} {a d : Option Addr} {n c m e : Nat} (hb : Below ((w.alloc (HC x a n c)).alloc (HC y d m e)).drew.heap.size ((w.alloc (HC x a n c)).alloc (HC y d m e)).drew w1) :
    w1.cell? ⟨w.heap.size, 0, none⟩ = some (.int .i64 x) ∧ w1.cell? ⟨w.heap.size, 1, none⟩ = some (.slice a n c) ∧ w1.cell? ⟨w.heap.size + 1, 0, none⟩ = some (.int .i64 y) ∧ w1.cell? ⟨w.heap.size + 1, 1, none⟩ = some (.slice d m e) ∧
    w1.frozen? ⟨w.heap.size + 1, 0, none⟩ = false ∧ w1.frozen? ⟨w.heap.size + 1, 1, none⟩ = false :=
  ⟨(hb.cell (p := ⟨w.heap.size, 0, none⟩) (by simp; omega)).trans (by simp), (hb.cell (p := ⟨w.heap.size, 1, none⟩) (by simp; omega)).trans (by simp),
   (hb.cell (p := ⟨w.heap.size + 1, 0, none⟩) (by simp)).trans (by simp), (hb.cell (p := ⟨w.heap.size + 1, 1, none⟩) (by simp)).trans (by simp),
   (hb.frozen (p := ⟨w.heap.size + 1, 0, none⟩) (by simp)).trans (by simp), (hb.frozen (p := ⟨w.heap.size + 1, 1, none⟩) (by simp)).trans (by simp)⟩
theorem send_copied {w w1 : World} {x y : Int} {a d a1 : Option Addr} {n c m e cp : Nat} {zs : List Int} (hb : Below ((w.alloc (HC x a n c)).alloc (HC y d m e)).drew.heap.size ((w.alloc (HC x a n c)).alloc (HC y d m e)).drew w1)
    (ho : w1.ownsRow ((w.alloc (HC x a n c)).alloc (HC y d m e)).drew.heap.size 63 1 (.slice a1 n cp) n (UU zs)) (hn : a1 = none → n = 0 ∧ cp = 0) (hs : n ≤ 1000) (hz : ∀ n ∈ zs, 0 ≤ n ∧ n < 18446744073709551616) (z : Int) (u v : Value) :
    Says ((w1.setCell ⟨w.heap.size + 1, 0, none⟩ u).setCell ⟨w.heap.size + 1, 1, none⟩ v) (.agg #[.int .i64 z, .slice a1 n cp]) (z, zs) ∧ Below w.heap.size w ((w1.setCell ⟨w.heap.size + 1, 0, none⟩ u).setCell ⟨w.heap.size + 1, 1, none⟩ v) := by
  refine ⟨⟨a1, n, cp, rfl, hn, hs, has_own64 (ownsRow_setCell_below (ownsRow_setCell_below ho (a := ⟨w.heap.size + 1, 0, none⟩) (by simp) u) (a := ⟨w.heap.size + 1, 1, none⟩) (by simp) v) hz⟩, ?_⟩
  exact (((bl_alloc (bl_alloc (Below.refl w.heap.size w))).drew.trans (hb.mono (by simp; omega))).setCell (by simp) _).setCell (by simp) _
set_option maxHeartbeats 400000 in
set_option maxRecDepth 20000 in
theorem scopied_any {w : World} {v : Value} {h : HitM} (hs : Says w v h) :
    Calls Tryz.prog 17 #[v] w fun e w' => ∃ a n c, e = .returned (.agg #[.int .i64 h.1, .slice a n c]) ∧ From w.heap.size a n ∧ Says w' (.agg #[.int .i64 h.1, .slice a n c]) h ∧ Below w.heap.size w w' := by
  obtain ⟨a, n, c, rfl, hn, hsm, hz⟩ := hs
  have HZ := hid hz
  have HN := hid hn
  clear hz hn
  go_enter Tryz.func17, Tryz.ntmps17
  go_wp2
  go_region_law (refine step64 rfl _ _ rfl n c h.2 a (by simp [Act.eval]) (by simp [Act.eval]) HN.out HZ.out.alloc.alloc.drew (by omega) ?_; intro v1 w1 hown1 hb1; obtain ⟨a1, cp1, rfl, hc1, hn1⟩ := own_is hown1; obtain ⟨c0, c1, c2, c3, f2, f3⟩ := stwo_cells hb1)
  all_goals
    have hE := send_copied hb1 hown1 hn1 hsm HZ.out.nums h.1 (.int .i64 h.1) (.slice a1 n cp1)
    go_wp2
    exact bodyPost_ret (v := .agg #[.int .i64 h.1, .slice a1 n cp1]) (by simp [results, Tryz.results17, go_sem, c2, c3]) rfl ⟨a1, n, cp1, rfl, (own_from hown1).mono (by simp; omega), hE.1, hE.2⟩
end Go.Proofs.YtffbnggdckjogaaGreat

namespace Go.Proofs.YtffbnggdckjogaaGreat
open Go.RowKit Mth
def Mays (w : World) (a : Option Addr) (n : Nat) (M : List (Int × List Int)) : Prop :=
  M.length = n ∧ ∀ (i : Nat) (x : Int × List Int), M[i]? = some x → ∃ g pa pn pc, a = some ⟨g, 0, none⟩ ∧ w.cell? ⟨g, i * 2, none⟩ = some (.int .i64 x.1) ∧ w.cell? ⟨g, i * 2 + 1, none⟩ = some (.slice pa pn pc) ∧ Has .i64 w pa pn x.2
theorem Mays.step {w w' : World} {a : Option Addr} {n : Nat} {M : List (Int × List Int)} (h : Mays w a n M) (hb : Below w.heap.size w w') : Mays w' a n M := by
  refine ⟨h.1, fun i x hx => ?_⟩
  obtain ⟨g, pa, pn, pc, e, c0, c1, hh⟩ := h.2 i x hx
  have hg : g < w.heap.size := World.block_lt_of_cell? w _ c0
  exact ⟨g, pa, pn, pc, e, (hb.cell (p := ⟨g, i * 2, none⟩) hg).trans c0, (hb.cell (p := ⟨g, i * 2 + 1, none⟩) hg).trans c1, hh.step hb⟩
structure Rul (w : World) (b o : Nat) (kind : Int) (ws : List Int) (M : List (Int × List Int)) : Prop where
  c0 : w.cell? ⟨b, o, none⟩ = some (.int .i64 kind)
  c1 : ∃ wa wn wc, w.cell? ⟨b, o + 1, none⟩ = some (.slice wa wn wc) ∧ Has .i64 w wa wn ws
  c2 : ∃ ma mn mc, w.cell? ⟨b, o + 2, none⟩ = some (.slice ma mn mc) ∧ Mays w ma mn M
theorem Rul.step {w w' : World} {b o : Nat} {kind : Int} {ws : List Int} {M : List (Int × List Int)} (h : Rul w b o kind ws M) (hb : Below w.heap.size w w') : Rul w' b o kind ws M := by
  have hl : b < w.heap.size := World.block_lt_of_cell? w _ h.c0
  have cs : ∀ i, w'.cell? ⟨b, i, none⟩ = w.cell? ⟨b, i, none⟩ := fun i => hb.cell (p := ⟨b, i, none⟩) hl
  obtain ⟨wa, wn, wc, h1, h2⟩ := h.c1
  obtain ⟨ma, mn, mc, h3, h4⟩ := h.c2
  exact ⟨(cs _).trans h.c0, ⟨wa, wn, wc, (cs _).trans h1, h2.step hb⟩, ⟨ma, mn, mc, (cs _).trans h3, h4.step hb⟩⟩
set_option maxHeartbeats 400000 in
set_option maxRecDepth 20000 in
theorem whit1_any {w : World} {hb : Nat} {act x : Int} {pa : Option Addr} {pn pc : Nat} (h : w.cell? ⟨hb, 0, none⟩ = some (.int .i64 act)) :
    Calls Tryz.prog 35 #[.agg #[.int .i64 x, .slice pa pn pc], .pointer (some ⟨hb, 0, none⟩)] w fun q w' => AskDone w w' (x = act) q := by
  have hl : hb < w.heap.size := World.block_lt_of_cell? w _ h
  have hne : ¬ w.heap.size = hb := by omega
  have q0 := ((bl_alloc (o := .cells #[.int .i64 x, .slice pa pn pc] 87) (Below.refl w.heap.size w)).cell (p := ⟨hb, 0, none⟩) hl).trans h
  have HGR := hid (grew_alloc w (.cells #[.int .i64 x, .slice pa pn pc] 87) 0)
  clear h
  go_enter Tryz.func35, Tryz.ntmps35
  go_wp2
  go_ret
  exact ⟨_, rfl, by simp, HGR.out⟩
def At1 (M : List (Int × List Int)) (act : Int) (f : Nat) (x : Int × List Int) : Prop := M[f]? = some x ∧ x.1 = act ∧ ∀ t y, t < f → M[t]? = some y → y.1 ≠ act
def MayIdx (w w' : World) (M : List (Int × List Int)) (act : Int) (r : Ending) : Prop :=
  ∃ v : Int, r = .returned (.int .i64 v) ∧ Grew w w' ∧ ((v = -1 ∧ ∀ x ∈ M, x.1 ≠ act) ∨ ∃ (f : Nat) (x : Int × List Int), v = (f : Int) ∧ At1 M act f x)
set_option maxHeartbeats 2000000 in
set_option maxRecDepth 20000 in
theorem mayidx_any {w : World} {a : Option Addr} {n c : Nat} {M : List (Int × List Int)} {hb : Nat} {act : Int} (hm : Mays w a n M) (hn : n ≤ 100000) (h : w.cell? ⟨hb, 0, none⟩ = some (.int .i64 act)) :
    Calls Tryz.prog 34 #[.slice a n c, .func (.func 35) #[] #[.pointer (some ⟨hb, 0, none⟩)]] w fun r w' => MayIdx w w' M act r := by
  have HM := hid hm
  have HB := hid h
  have hlen := hm.1
  clear hm h
  go_enter Tryz.func34, Tryz.ntmps34
  go_wp2
  go_loopw [8] (fun q wr => ∃ i : Nat, i ≤ n ∧ q = .int .i64 i ∧ Hid (∀ t y, t < i → M[t]? = some y → y.1 ≠ act) ∧ Hid (Grew w wr)) (fun q _ => n - (intOf q).toNat)
  case atStart => exact ⟨0, Nat.zero_le _, rfl, fun t y ht => absurd ht (Nat.not_lt_zero _), grew_refl _⟩
  case round =>
    obtain ⟨i, hi, rfl, hz, hgr⟩ := hrel
    by_cases hlt : i < n
    · have hy : M[i]? = some (M[i]'(by omega)) := List.getElem?_eq_getElem _
      obtain ⟨g, pa, pn, pc, rfl, c0, c1, -⟩ := (HM.out.step hgr.out.below).2 i _ hy
      have q0 := (hgr.out.below.cell (p := ⟨hb, 0, none⟩) (show hb < w.heap.size from World.block_lt_of_cell? w _ HB.out)).trans HB.out
      have HC := hid (whit1_any (x := (M[i]'(by omega)).1) (pa := pa) (pn := pn) (pc := pc) q0)
      have hin : (i : Int) < (n : Int) := by omega
      generalize M[i]'(by omega) = y at *
      have HY := hid hy
      clear q0 hy
      go_wp2_with fail
      refine HC.out.mono ?_
      rintro r w1 ⟨b, rfl, hb1, hg1⟩
      have HG1 := hid (hgr.out.trans hg1)
      cases b with
      | true =>
        have HF : Hid (At1 M act i y) := ⟨HY.out, hb1.1 rfl, fun t z ht hz' => hz.out t z ht hz'⟩
        clear hg1 hb1 HC
        go_wp2
        go_ret
        exact ⟨i, rfl, HG1.out, .inr ⟨i, y, rfl, HF.out⟩⟩
      | false =>
        have HF : Hid (∀ t z, t < i + 1 → M[t]? = some z → z.1 ≠ act) := fun t z ht hz' => by
          by_cases et : t = i
          · subst et
            rw [HY.out] at hz'
            cases hz'
            intro hf
            have := hb1.2 hf
            cases this
          · exact hz.out t z (by omega) hz'
        clear hg1 hb1 HC
        go_wp2
        go_roundw
        case rel => exact ⟨i + 1, by omega, by go_num, HF.out, HG1.out⟩
        case measure => simp [intOf]; omega
    · have ei : i = n := by omega
      subst ei
      have HF : Hid (∀ x ∈ M, x.1 ≠ act) := fun x hx => by
        obtain ⟨t, ht, rfl⟩ := List.getElem_of_mem hx
        exact hz.out t _ (by omega) (List.getElem?_eq_getElem ht)
      go_wp2
      go_ret
      exact ⟨-1, rfl, hgr.out, .inl ⟨rfl, HF.out⟩⟩
end Go.Proofs.YtffbnggdckjogaaGreat
