/- Texts of one chain, joined: SNew. -/
import Derived.Test.YtffbnggdckjogaaGreatG50
import Derived.Deep.RegionHeld3
namespace Go.Proofs.YtffbnggdckjogaaGreat
open Go.RowKit Mth
def NewDone (t : TabD) (wl : List Int) (al : List ActD) (w : World) (r : Ending) (w' : World) : Prop :=
  Below w.heap.size w w' ∧ ((storeC t.p wl (al.map ActD.p) ≠ 0 ∧ r = .returned (.tuple #[.pointer none, .agg #[.int .i64 (storeC t.p wl (al.map ActD.p)), .int .i64 (-1)]])) ∨
    (storeC t.p wl (al.map ActD.p) = 0 ∧ ∃ s k N X, r = .returned (.tuple #[.pointer (some ⟨s, 0, none⟩), .agg #[.int .i64 0, .int .i64 0]]) ∧ StAt w' s k FSt.none wl (sayL al t.al) (t.dflt, t.zs) N X ∧ NewFace t wl k.B k ∧ w.heap.size ≤ k.B ∧ w.heap.size ≤ s ∧ N = w'.heap.size ∧ (∀ j, j < k.B → X j) ∧ k.Z = zoneN w' k.p))
theorem nws_keep {t : TabD} {tb fb : Nat} {w w' : World} (h : w.cell? ⟨tb, 0, none⟩ = some (.int .i64 t.kind) ∧ w.cell? ⟨tb, 1, none⟩ = some (.slice t.keys.a t.keys.n t.keys.c) ∧ w.cell? ⟨tb, 2, none⟩ = some (.slice t.acts.a t.acts.n t.acts.c) ∧ w.cell? ⟨tb, 3, none⟩ = some (.int .i64 t.cap) ∧ w.cell? ⟨tb, 4, none⟩ = some (.int .i64 t.dflt) ∧ w.cell? ⟨tb, 5, none⟩ = some (.slice t.args.a t.args.n t.args.c) ∧ w.cell? ⟨fb, 0, none⟩ = some (.int .i64 0) ∧ w.cell? ⟨fb, 1, none⟩ = some (.int .i64 0) ∧ w.frozen? ⟨fb, 0, none⟩ = false ∧ w.frozen? ⟨fb, 1, none⟩ = false) (hb : Below w.heap.size w w') : w'.cell? ⟨tb, 0, none⟩ = some (.int .i64 t.kind) ∧ w'.cell? ⟨tb, 1, none⟩ = some (.slice t.keys.a t.keys.n t.keys.c) ∧ w'.cell? ⟨tb, 2, none⟩ = some (.slice t.acts.a t.acts.n t.acts.c) ∧ w'.cell? ⟨tb, 3, none⟩ = some (.int .i64 t.cap) ∧ w'.cell? ⟨tb, 4, none⟩ = some (.int .i64 t.dflt) ∧ w'.cell? ⟨tb, 5, none⟩ = some (.slice t.args.a t.args.n t.args.c) ∧ w'.cell? ⟨fb, 0, none⟩ = some (.int .i64 0) ∧ w'.cell? ⟨fb, 1, none⟩ = some (.int .i64 0) ∧ w'.frozen? ⟨fb, 0, none⟩ = false ∧ w'.frozen? ⟨fb, 1, none⟩ = false := by
  obtain ⟨h0, h1, h2, h3, h4, h5, h6, h7, h8, h9⟩ := h
  have hf : fb < w.heap.size := World.block_lt_of_cell? _ _ h6
  exact ⟨cell_keep h0 hb, cell_keep h1 hb, cell_keep h2 hb, cell_keep h3 hb, cell_keep h4 hb, cell_keep h5 hb, cell_keep h6 hb, cell_keep h7 hb, (hb.frozen (p := ⟨fb, 0, none⟩) hf).trans h8, (hb.frozen (p := ⟨fb, 1, none⟩) hf).trans h9⟩
theorem sput_below {w : World} {p : Addr} {v : Value} (h : w.cell? p = some v) : Below w.heap.size w (w.setCell p v) := by
  refine ⟨rfl, rfl, rfl, by simp [World.setCell], fun k _ => ?_⟩
  by_cases e : k = p.block
  · subst e
    unfold World.cell? at h
    cases hb : w.heap[p.block]? with
    | none => simp [World.setCell, Array.getElem?_modify, hb]
    | some o =>
      rw [hb] at h
      cases o with
      | cells c t z =>
        simp only at h
        split at h
        · cases h
        · rename_i hs
          have hl : p.off < c.size := by
            rcases Nat.lt_or_ge p.off c.size with g | g
            · exact g
            · rw [Array.getElem?_eq_none g] at h; cases h
          have hv : c[p.off] = v := by rw [Array.getElem?_eq_getElem hl] at h; exact Option.some.inj h
          have hset : c.setIfInBounds p.off v = c := by
            apply Array.ext
            · simp
            · intro i h1 h2
              rw [Array.getElem_setIfInBounds]
              split
              · rename_i e; subst e; exact hv.symm
              · rfl
          simp [World.setCell, Array.getElem?_modify, hb, hs, hset]
      | _ => simp at h
  · exact Below.heap_setCell _ _ _ _ e
theorem sput_same {w : World} {p : Addr} {v : Value} (h : w.cell? p = some v) : w.setCell p v = w := by
  have hb := sput_below h
  have hs : (w.setCell p v).heap.size = w.heap.size := by simp [World.setCell]
  have e : (w.setCell p v).heap = w.heap := by
    apply Array.ext_getElem?
    intro k
    rcases Nat.lt_or_ge k w.heap.size with hk | hk
    · exact hb.block k hk
    · rw [Array.getElem?_eq_none hk, Array.getElem?_eq_none (by omega)]
  cases w
  simp only [World.setCell] at e ⊢
  rw [e]
theorem nws_put {t : TabD} {tb fb : Nat} {w : World} (h : w.cell? ⟨tb, 0, none⟩ = some (.int .i64 t.kind) ∧ w.cell? ⟨tb, 1, none⟩ = some (.slice t.keys.a t.keys.n t.keys.c) ∧ w.cell? ⟨tb, 2, none⟩ = some (.slice t.acts.a t.acts.n t.acts.c) ∧ w.cell? ⟨tb, 3, none⟩ = some (.int .i64 t.cap) ∧ w.cell? ⟨tb, 4, none⟩ = some (.int .i64 t.dflt) ∧ w.cell? ⟨tb, 5, none⟩ = some (.slice t.args.a t.args.n t.args.c) ∧ w.cell? ⟨fb, 0, none⟩ = some (.int .i64 0) ∧ w.cell? ⟨fb, 1, none⟩ = some (.int .i64 0) ∧ w.frozen? ⟨fb, 0, none⟩ = false ∧ w.frozen? ⟨fb, 1, none⟩ = false) : ((w.setCell ⟨fb, 0, none⟩ (.int .i64 0)).setCell ⟨fb, 1, none⟩ (.int .i64 0)).cell? ⟨tb, 0, none⟩ = some (.int .i64 t.kind) ∧ ((w.setCell ⟨fb, 0, none⟩ (.int .i64 0)).setCell ⟨fb, 1, none⟩ (.int .i64 0)).cell? ⟨tb, 1, none⟩ = some (.slice t.keys.a t.keys.n t.keys.c) ∧ ((w.setCell ⟨fb, 0, none⟩ (.int .i64 0)).setCell ⟨fb, 1, none⟩ (.int .i64 0)).cell? ⟨tb, 2, none⟩ = some (.slice t.acts.a t.acts.n t.acts.c) ∧ ((w.setCell ⟨fb, 0, none⟩ (.int .i64 0)).setCell ⟨fb, 1, none⟩ (.int .i64 0)).cell? ⟨tb, 3, none⟩ = some (.int .i64 t.cap) ∧ ((w.setCell ⟨fb, 0, none⟩ (.int .i64 0)).setCell ⟨fb, 1, none⟩ (.int .i64 0)).cell? ⟨tb, 4, none⟩ = some (.int .i64 t.dflt) ∧ ((w.setCell ⟨fb, 0, none⟩ (.int .i64 0)).setCell ⟨fb, 1, none⟩ (.int .i64 0)).cell? ⟨tb, 5, none⟩ = some (.slice t.args.a t.args.n t.args.c) ∧ ((w.setCell ⟨fb, 0, none⟩ (.int .i64 0)).setCell ⟨fb, 1, none⟩ (.int .i64 0)).cell? ⟨fb, 0, none⟩ = some (.int .i64 0) ∧ ((w.setCell ⟨fb, 0, none⟩ (.int .i64 0)).setCell ⟨fb, 1, none⟩ (.int .i64 0)).cell? ⟨fb, 1, none⟩ = some (.int .i64 0) ∧ ((w.setCell ⟨fb, 0, none⟩ (.int .i64 0)).setCell ⟨fb, 1, none⟩ (.int .i64 0)).frozen? ⟨fb, 0, none⟩ = false ∧ ((w.setCell ⟨fb, 0, none⟩ (.int .i64 0)).setCell ⟨fb, 1, none⟩ (.int .i64 0)).frozen? ⟨fb, 1, none⟩ = false := by
  have e : (w.setCell ⟨fb, 0, none⟩ (.int .i64 0)).setCell ⟨fb, 1, none⟩ (.int .i64 0) = w := by
    rw [sput_same h.2.2.2.2.2.2.1, sput_same h.2.2.2.2.2.2.2.1]
  rw [e]
  exact h
theorem store_ok {t : PTab} {wl : List Int} {al : List PAct} (h : storeC t wl al = 0) : (t.kind = 1 ∨ t.kind = 2 ∨ t.kind = 3) ∧ 1 ≤ wl.length ∧ wl.length ≤ 3 ∧ (t.kind = 2 → wl.length = 1) ∧ 0 ≤ t.cap ∧ t.cap ≤ 16 ∧ InC 0 ((al.length : Int) - 1) t.al = true ∧ t.al.length ≤ 4 := by
  unfold storeC at h
  split at h
  · cases h
  rename_i h1
  split at h
  · cases h
  rename_i h2
  split at h
  · cases h
  rename_i h3
  split at h
  · cases h
  split at h
  · cases h
  rename_i h5
  have hk : t.kind = 1 ∨ t.kind = 2 ∨ t.kind = 3 := by
    have : isK t.kind = true := by cases hq : isK t.kind with | true => rfl | false => exact absurd hq h1
    simpa [isK] using this
  have hw : InC 1 (mostK t.kind) [(wl.length : Int)] = true := by cases hq : InC 1 (mostK t.kind) [(wl.length : Int)] with | true => rfl | false => exact absurd (.inl hq) h2
  have ha : InC 1 4 [(t.al.length : Int)] = true := by cases hq : InC 1 4 [(t.al.length : Int)] with | true => rfl | false => exact absurd (.inr hq) h2
  have hc : InC 0 16 [t.cap] = true := by cases hq : InC 0 16 [t.cap] with | true => rfl | false => exact absurd hq h3
  have hi : InC 0 ((al.length : Int) - 1) t.al = true := by cases hq : InC 0 ((al.length : Int) - 1) t.al with | true => rfl | false => exact absurd hq h5
  simp only [InC, List.all_cons, List.all_nil, Bool.and_true, decide_eq_true_eq] at hw ha hc
  have hm : mostK t.kind ≤ 3 ∧ (t.kind = 2 → mostK t.kind = 1) := by unfold mostK; split <;> omega
  exact ⟨hk, by omega, by omega, fun e => by have := hm.2 e; omega, by omega, by omega, hi, by omega⟩
set_option maxHeartbeats 4000000 in
set_option maxRecDepth 20000 in
theorem snew1 (t : TabD) (wq : QSl) (wl : List Int) (aq : QSl) (al : List ActD) (w : World) (hw : Has .i64 w wq.a wq.n wl) (hwn : wq.nil0) (hws : wq.n ≤ 1000) (hcap : (Lit.int .i64 t.cap).wf = true) (ht : Has .i64 w t.acts.a t.acts.n t.al) (htn : t.acts.n ≤ 10000) (hz : Has .u64 w t.args.a t.args.n t.zs) (hz0 : t.args.nil0) (hzn : t.args.n ≤ 1000) (ha : QRow 2 ActD.lie w aq al) (haq : aq.n ≤ 100000) (hpar : ∀ x ∈ al, x.w.n ≤ 100000) (hk : t.kind = 1) (h0 : storeC t.p wl (al.map ActD.p) = 0) :
    Calls Tryz.prog 7 #[t.v', .slice wq.a wq.n wq.c, .slice aq.a aq.n aq.c] w (NewDone t wl al w) := by
  obtain ⟨hkk, hl1, hl3, hone, hc0, hc16, hin, hal⟩ := store_ok h0
  obtain ⟨W2, hW⟩ : ∃ W2, W2 = (w.alloc t.box').alloc (.cells #[.int .i64 0, .int .i64 0] 34) := ⟨_, rfl⟩
  obtain ⟨tb, etb⟩ : ∃ b, b = w.heap.size := ⟨_, rfl⟩
  obtain ⟨fb, efb⟩ : ∃ b, b = w.heap.size + 1 := ⟨_, rfl⟩
  have b2 : Below w.heap.size w W2 := by rw [hW]; exact bl_alloc (bl_alloc (Below.refl _ _))
  have hs2 : W2.cell? ⟨tb, 0, none⟩ = some (.int .i64 t.kind) ∧ W2.cell? ⟨tb, 1, none⟩ = some (.slice t.keys.a t.keys.n t.keys.c) ∧ W2.cell? ⟨tb, 2, none⟩ = some (.slice t.acts.a t.acts.n t.acts.c) ∧ W2.cell? ⟨tb, 3, none⟩ = some (.int .i64 t.cap) ∧ W2.cell? ⟨tb, 4, none⟩ = some (.int .i64 t.dflt) ∧ W2.cell? ⟨tb, 5, none⟩ = some (.slice t.args.a t.args.n t.args.c) ∧ W2.cell? ⟨fb, 0, none⟩ = some (.int .i64 0) ∧ W2.cell? ⟨fb, 1, none⟩ = some (.int .i64 0) ∧ W2.frozen? ⟨fb, 0, none⟩ = false ∧ W2.frozen? ⟨fb, 1, none⟩ = false := by
    rw [hW, etb, efb]
    refine ⟨?_, ?_, ?_, ?_, ?_, ?_, ?_, ?_, World.frozen?_alloc_at _ _ _ _ (by simp), World.frozen?_alloc_at _ _ _ _ (by simp)⟩
    · exact (World.cell?_alloc_past _ _ _ (by simp)).trans ((World.cell?_alloc_at _ _ _ _ rfl).trans rfl)
    · exact (World.cell?_alloc_past _ _ _ (by simp)).trans ((World.cell?_alloc_at _ _ _ _ rfl).trans rfl)
    · exact (World.cell?_alloc_past _ _ _ (by simp)).trans ((World.cell?_alloc_at _ _ _ _ rfl).trans rfl)
    · exact (World.cell?_alloc_past _ _ _ (by simp)).trans ((World.cell?_alloc_at _ _ _ _ rfl).trans rfl)
    · exact (World.cell?_alloc_past _ _ _ (by simp)).trans ((World.cell?_alloc_at _ _ _ _ rfl).trans rfl)
    · exact (World.cell?_alloc_past _ _ _ (by simp)).trans ((World.cell?_alloc_at _ _ _ _ rfl).trans rfl)
    · exact (World.cell?_alloc_at _ _ _ _ (by simp)).trans rfl
    · exact (World.cell?_alloc_at _ _ _ _ (by simp)).trans rfl
  have HCK := hid (check_store t wq wl aq al W2 (hw.step b2) hwn (by omega) hcap (ht.step b2) htn (hz.step b2) (by omega) (ha.step ActD.keeps b2) haq hpar)
  rw [h0] at HCK
  have hwl := hw.1
  have HTO : Hid (∀ w', Below w.heap.size w w' → Calls Tryz.prog 15 #[t.v', .slice wq.a wq.n wq.c] w' fun r w'' => ∃ k, r = .returned (.iface 79 (boxV k.p)) ∧ NewFace t wl w'.heap.size k ∧ NewAt w'' k ∧ Below w'.heap.size w' w'') := fun w' hb => (stableOf t wq wl w' (hw.step hb) hkk (by omega) hws ⟨hc0, by show t.cap ≤ 100000; have : t.p.cap = t.cap := rfl; omega⟩).mono fun r w'' ⟨k, he, hn, hr⟩ => ⟨k, by rw [he, faceV1 (by rw [hn.kind]; exact hk)], hn, hr⟩
  have HRU : Hid (∀ w', Below w.heap.size w w' → Calls Tryz.prog 16 #[t.v', .slice wq.a wq.n wq.c, .slice aq.a aq.n aq.c] w' (RulesDone t.kind wl al t.al w')) := fun w' hb => rulesOf_any t wq wl aq al w' (hw.step hb) hwn (by omega) (ht.step hb) htn (ha.step ActD.keeps hb) (fun i hi => by
    have := List.all_eq_true.1 hin i hi
    simp only [decide_eq_true_eq, List.length_map] at this
    rw [ha.1] at this
    omega) hpar
  have HCO : Hid (∀ w', Below w.heap.size w w' → Calls Tryz.prog 17 #[.agg #[.int .i64 t.dflt, .slice t.args.a t.args.n t.args.c]] w' fun e w'' => ∃ a n c, e = .returned (.agg #[.int .i64 t.dflt, .slice a n c]) ∧ From w'.heap.size a n ∧ Says w'' (.agg #[.int .i64 t.dflt, .slice a n c]) (t.dflt, t.zs) ∧ Below w'.heap.size w' w'') := fun w' hb => scopied_any (h := (t.dflt, t.zs)) ⟨_, _, _, rfl, hz0, hzn, hz.step hb⟩
  have HH : Hid ((t.kind = 2 → wl.length = 1) ∧ t.al.length ≤ 100000 ∧ t.kind = 1) := ⟨hone, by show t.p.al.length ≤ 100000; omega, hk⟩
  have HC0 := hid h0
  have HB2 := hid b2
  have HS2 := hid hs2
  have EW := hid hW
  have ET := hid etb
  have EF := hid efb
  clear hkk hl1 hl3 hone hc0 hc16 hin hal hW etb efb b2 hs2 hw hwn hws hcap ht htn hz hz0 hzn ha haq hpar hk h0 hwl
  go_enter Tryz.func7, Tryz.ntmps7
  go_upto_region 1 with fail
  rw [← EW.out, ← EF.out, ← ET.out]
  clear EW ET EF
  obtain ⟨z0, z1, z2, z3, z4, z5, z6, z7, z8, z9⟩ := HS2.out
  go_wp2_with fail
  refine HCK.out.mono ?_
  rintro e w3 ⟨rfl, hb3⟩
  clear HCK z0 z1 z2 z3 z4 z5 z6 z7 z8 z9
  have HZ := hid (nws_keep HS2.out hb3)
  obtain ⟨z0, z1, z2, z3, z4, z5, z6, z7, z8, z9⟩ := HZ.out
  have HB3 := hid (bl_step HB2.out hb3)
  have HBD : Hid (Below w.heap.size w w3.drew) := (bl_step HB2.out hb3).drew
  have HLT : Hid (tb < w3.heap.size ∧ fb < w3.heap.size) := ⟨World.block_lt_of_cell? _ _ z0, World.block_lt_of_cell? _ _ z6⟩
  clear HS2 HB2 hb3
  go_upto_region 4 with fail
  go_region_held3 (fun w' => w'.cell? ⟨tb, 0, none⟩ = some (.int .i64 t.kind) ∧ w'.cell? ⟨tb, 1, none⟩ = some (.slice t.keys.a t.keys.n t.keys.c) ∧ w'.cell? ⟨tb, 2, none⟩ = some (.slice t.acts.a t.acts.n t.acts.c) ∧ w'.cell? ⟨tb, 3, none⟩ = some (.int .i64 t.cap) ∧ w'.cell? ⟨tb, 4, none⟩ = some (.int .i64 t.dflt) ∧ w'.cell? ⟨tb, 5, none⟩ = some (.slice t.args.a t.args.n t.args.c) ∧ w'.cell? ⟨fb, 0, none⟩ = some (.int .i64 0) ∧ w'.cell? ⟨fb, 1, none⟩ = some (.int .i64 0) ∧ w'.frozen? ⟨fb, 0, none⟩ = false ∧ w'.frozen? ⟨fb, 1, none⟩ = false)
    (first
      | (go_split_ands
         first
           | exact ⟨by assumption, by assumption, by assumption, by assumption, by assumption, by assumption, by assumption, by assumption, by assumption, by assumption⟩
           | exact nws_keep ⟨by assumption, by assumption, by assumption, by assumption, by assumption, by assumption, by assumption, by assumption, by assumption, by assumption⟩ hb6
           | exact nws_keep ⟨by assumption, by assumption, by assumption, by assumption, by assumption, by assumption, by assumption, by assumption, by assumption, by assumption⟩ hb5
           | exact nws_keep ⟨by assumption, by assumption, by assumption, by assumption, by assumption, by assumption, by assumption, by assumption, by assumption, by assumption⟩ hb4
           | exact nws_keep ⟨by assumption, by assumption, by assumption, by assumption, by assumption, by assumption, by assumption, by assumption, by assumption, by assumption⟩ (bl_alloc (Below.refl _ _))
           | exact nws_put ⟨by assumption, by assumption, by assumption, by assumption, by assumption, by assumption, by assumption, by assumption, by assumption, by assumption⟩)
      | go_keep)
    (first
      | (go_at_call 15; refine (HTO.out _ HBD.out).mono ?_; rintro e w4 ⟨k, rfl, hnf, hfa, hb4⟩; have B4 := hid (bl_step HBD.out hb4); have D4 := hid (bl_step ((Below.refl w3.heap.size w3).drew) hb4); have HNF := hid hnf; have HFA := hid hfa)
      | (go_at_call 16; refine (HRU.out _ B4.out).mono ?_; rintro e w5 ⟨wa, wc, m, S, rfl, hw5, hr5, hm5, hb5, ho5, hq5, hg5⟩; have B5 := hid (bl_step B4.out hb5); have D5 := hid (bl_step D4.out hb5); have H5 := hid (And.intro hw5 (And.intro hr5 (And.intro hm5 (And.intro ho5 (And.intro hq5 hg5))))); have HB5 := hid hb5)
      | (go_at_call 17; refine (HCO.out _ B5.out).mono ?_; rintro e w6 ⟨a6, n6, c6, rfl, hf6, hs6, hb6⟩; have B6 := hid (bl_step B5.out hb6); have D6 := hid (bl_step D5.out hb6); have H6 := hid (And.intro hf6 (And.intro hs6 hb6))))
  all_goals
    obtain ⟨_, _, _, _, _, _, q0, q1, _, _⟩ := nws_keep (t := t) (tb := tb) (fb := fb) HZ.out (bl_alloc (o := .cells #[.iface 79 (boxV k.p), .int .i64 t.kind, .slice wa wl.length wc, .slice m.a m.n m.c, .int .i64 t.dflt, .slice a6 n6 c6] 52) D6.out)
    rw [sput_same q0, sput_same q1]
    have HE : Hid (NewDone t wl al w (.returned (.tuple #[.pointer (some ⟨w6.heap.size, 0, none⟩), .agg #[.int .i64 0, .int .i64 0]])) (w6.alloc (.cells #[.iface 79 (boxV k.p), .int .i64 t.kind, .slice wa wl.length wc, .slice m.a m.n m.c, .int .i64 t.dflt, .slice a6 n6 c6] 52))) := by
      obtain ⟨hw5, hr5, hm5, ho5, hq5, hg5⟩ := H5.out
      obtain ⟨hf6, hs6, hb6'⟩ := H6.out
      have st := st_new (al := al) (h := (t.dflt, t.zs)) HFA.out HNF.out HB5.out hb6' hw5 hm5 ho5 hq5 hr5 hg5 hf6 hs6 HH.out.1 HH.out.2.1 rfl
      have eb : stBox k t.kind wa wl.length wc m (t.dflt, t.zs) a6 n6 c6 = .cells #[.iface 79 (boxV k.p), .int .i64 t.kind, .slice wa wl.length wc, .slice m.a m.n m.c, .int .i64 t.dflt, .slice a6 n6 c6] 52 := by unfold stBox; rw [faceV1 (by rw [HNF.out.kind]; exact HH.out.2.2)]
      rw [eb] at st
      refine ⟨bl_alloc B6.out, .inr ⟨HC0.out, _, k.at _, _, _, rfl, st, ?_, ?_, B6.out.size, rfl, fun j hj => .inr hj, rfl⟩⟩
      · have := HNF.out
        rw [← this.B] at this
        exact ⟨this.kind, this.B, this.K, this.wd, this.keys⟩
      · show w.heap.size ≤ k.B
        rw [HNF.out.B]
        exact HBD.out.size
    clear H5 H6 HFA HNF HB5 B4 B5 B6 D4 D5 D6 HZ HTO HRU HCO HH HC0
    go_wp2
    exact bodyPost_ret (v := .tuple #[.pointer (some ⟨w6.heap.size, 0, none⟩), .agg #[.int .i64 0, .int .i64 0]]) (by simp [results, Tryz.results7, go_sem, q0, q1]) rfl HE.out
set_option maxHeartbeats 4000000 in
set_option maxRecDepth 20000 in
theorem snew2 (t : TabD) (wq : QSl) (wl : List Int) (aq : QSl) (al : List ActD) (w : World) (hw : Has .i64 w wq.a wq.n wl) (hwn : wq.nil0) (hws : wq.n ≤ 1000) (hcap : (Lit.int .i64 t.cap).wf = true) (ht : Has .i64 w t.acts.a t.acts.n t.al) (htn : t.acts.n ≤ 10000) (hz : Has .u64 w t.args.a t.args.n t.zs) (hz0 : t.args.nil0) (hzn : t.args.n ≤ 1000) (ha : QRow 2 ActD.lie w aq al) (haq : aq.n ≤ 100000) (hpar : ∀ x ∈ al, x.w.n ≤ 100000) (hk : t.kind = 2) (h0 : storeC t.p wl (al.map ActD.p) = 0) :
    Calls Tryz.prog 7 #[t.v', .slice wq.a wq.n wq.c, .slice aq.a aq.n aq.c] w (NewDone t wl al w) := by
  obtain ⟨hkk, hl1, hl3, hone, hc0, hc16, hin, hal⟩ := store_ok h0
  obtain ⟨W2, hW⟩ : ∃ W2, W2 = (w.alloc t.box').alloc (.cells #[.int .i64 0, .int .i64 0] 34) := ⟨_, rfl⟩
  obtain ⟨tb, etb⟩ : ∃ b, b = w.heap.size := ⟨_, rfl⟩
  obtain ⟨fb, efb⟩ : ∃ b, b = w.heap.size + 1 := ⟨_, rfl⟩
  have b2 : Below w.heap.size w W2 := by rw [hW]; exact bl_alloc (bl_alloc (Below.refl _ _))
  have hs2 : W2.cell? ⟨tb, 0, none⟩ = some (.int .i64 t.kind) ∧ W2.cell? ⟨tb, 1, none⟩ = some (.slice t.keys.a t.keys.n t.keys.c) ∧ W2.cell? ⟨tb, 2, none⟩ = some (.slice t.acts.a t.acts.n t.acts.c) ∧ W2.cell? ⟨tb, 3, none⟩ = some (.int .i64 t.cap) ∧ W2.cell? ⟨tb, 4, none⟩ = some (.int .i64 t.dflt) ∧ W2.cell? ⟨tb, 5, none⟩ = some (.slice t.args.a t.args.n t.args.c) ∧ W2.cell? ⟨fb, 0, none⟩ = some (.int .i64 0) ∧ W2.cell? ⟨fb, 1, none⟩ = some (.int .i64 0) ∧ W2.frozen? ⟨fb, 0, none⟩ = false ∧ W2.frozen? ⟨fb, 1, none⟩ = false := by
    rw [hW, etb, efb]
    refine ⟨?_, ?_, ?_, ?_, ?_, ?_, ?_, ?_, World.frozen?_alloc_at _ _ _ _ (by simp), World.frozen?_alloc_at _ _ _ _ (by simp)⟩
    · exact (World.cell?_alloc_past _ _ _ (by simp)).trans ((World.cell?_alloc_at _ _ _ _ rfl).trans rfl)
    · exact (World.cell?_alloc_past _ _ _ (by simp)).trans ((World.cell?_alloc_at _ _ _ _ rfl).trans rfl)
    · exact (World.cell?_alloc_past _ _ _ (by simp)).trans ((World.cell?_alloc_at _ _ _ _ rfl).trans rfl)
    · exact (World.cell?_alloc_past _ _ _ (by simp)).trans ((World.cell?_alloc_at _ _ _ _ rfl).trans rfl)
    · exact (World.cell?_alloc_past _ _ _ (by simp)).trans ((World.cell?_alloc_at _ _ _ _ rfl).trans rfl)
    · exact (World.cell?_alloc_past _ _ _ (by simp)).trans ((World.cell?_alloc_at _ _ _ _ rfl).trans rfl)
    · exact (World.cell?_alloc_at _ _ _ _ (by simp)).trans rfl
    · exact (World.cell?_alloc_at _ _ _ _ (by simp)).trans rfl
  have HCK := hid (check_store t wq wl aq al W2 (hw.step b2) hwn (by omega) hcap (ht.step b2) htn (hz.step b2) (by omega) (ha.step ActD.keeps b2) haq hpar)
  rw [h0] at HCK
  have hwl := hw.1
  have HTO : Hid (∀ w', Below w.heap.size w w' → Calls Tryz.prog 15 #[t.v', .slice wq.a wq.n wq.c] w' fun r w'' => ∃ k, r = .returned (.iface 83 (boxV k.p)) ∧ NewFace t wl w'.heap.size k ∧ NewAt w'' k ∧ Below w'.heap.size w' w'') := fun w' hb => (stableOf t wq wl w' (hw.step hb) hkk (by omega) hws ⟨hc0, by show t.cap ≤ 100000; have : t.p.cap = t.cap := rfl; omega⟩).mono fun r w'' ⟨k, he, hn, hr⟩ => ⟨k, by rw [he, faceV2 (by rw [hn.kind]; exact hk)], hn, hr⟩
  have HRU : Hid (∀ w', Below w.heap.size w w' → Calls Tryz.prog 16 #[t.v', .slice wq.a wq.n wq.c, .slice aq.a aq.n aq.c] w' (RulesDone t.kind wl al t.al w')) := fun w' hb => rulesOf_any t wq wl aq al w' (hw.step hb) hwn (by omega) (ht.step hb) htn (ha.step ActD.keeps hb) (fun i hi => by
    have := List.all_eq_true.1 hin i hi
    simp only [decide_eq_true_eq, List.length_map] at this
    rw [ha.1] at this
    omega) hpar
  have HCO : Hid (∀ w', Below w.heap.size w w' → Calls Tryz.prog 17 #[.agg #[.int .i64 t.dflt, .slice t.args.a t.args.n t.args.c]] w' fun e w'' => ∃ a n c, e = .returned (.agg #[.int .i64 t.dflt, .slice a n c]) ∧ From w'.heap.size a n ∧ Says w'' (.agg #[.int .i64 t.dflt, .slice a n c]) (t.dflt, t.zs) ∧ Below w'.heap.size w' w'') := fun w' hb => scopied_any (h := (t.dflt, t.zs)) ⟨_, _, _, rfl, hz0, hzn, hz.step hb⟩
  have HH : Hid ((t.kind = 2 → wl.length = 1) ∧ t.al.length ≤ 100000 ∧ t.kind = 2) := ⟨hone, by show t.p.al.length ≤ 100000; omega, hk⟩
  have HC0 := hid h0
  have HB2 := hid b2
  have HS2 := hid hs2
  have EW := hid hW
  have ET := hid etb
  have EF := hid efb
  clear hkk hl1 hl3 hone hc0 hc16 hin hal hW etb efb b2 hs2 hw hwn hws hcap ht htn hz hz0 hzn ha haq hpar hk h0 hwl
  go_enter Tryz.func7, Tryz.ntmps7
  go_upto_region 1 with fail
  rw [← EW.out, ← EF.out, ← ET.out]
  clear EW ET EF
  obtain ⟨z0, z1, z2, z3, z4, z5, z6, z7, z8, z9⟩ := HS2.out
  go_wp2_with fail
  refine HCK.out.mono ?_
  rintro e w3 ⟨rfl, hb3⟩
  clear HCK z0 z1 z2 z3 z4 z5 z6 z7 z8 z9
  have HZ := hid (nws_keep HS2.out hb3)
  obtain ⟨z0, z1, z2, z3, z4, z5, z6, z7, z8, z9⟩ := HZ.out
  have HB3 := hid (bl_step HB2.out hb3)
  have HBD : Hid (Below w.heap.size w w3.drew) := (bl_step HB2.out hb3).drew
  have HLT : Hid (tb < w3.heap.size ∧ fb < w3.heap.size) := ⟨World.block_lt_of_cell? _ _ z0, World.block_lt_of_cell? _ _ z6⟩
  clear HS2 HB2 hb3
  go_upto_region 4 with fail
  go_region_held3 (fun w' => w'.cell? ⟨tb, 0, none⟩ = some (.int .i64 t.kind) ∧ w'.cell? ⟨tb, 1, none⟩ = some (.slice t.keys.a t.keys.n t.keys.c) ∧ w'.cell? ⟨tb, 2, none⟩ = some (.slice t.acts.a t.acts.n t.acts.c) ∧ w'.cell? ⟨tb, 3, none⟩ = some (.int .i64 t.cap) ∧ w'.cell? ⟨tb, 4, none⟩ = some (.int .i64 t.dflt) ∧ w'.cell? ⟨tb, 5, none⟩ = some (.slice t.args.a t.args.n t.args.c) ∧ w'.cell? ⟨fb, 0, none⟩ = some (.int .i64 0) ∧ w'.cell? ⟨fb, 1, none⟩ = some (.int .i64 0) ∧ w'.frozen? ⟨fb, 0, none⟩ = false ∧ w'.frozen? ⟨fb, 1, none⟩ = false)
    (first
      | (go_split_ands
         first
           | exact ⟨by assumption, by assumption, by assumption, by assumption, by assumption, by assumption, by assumption, by assumption, by assumption, by assumption⟩
           | exact nws_keep ⟨by assumption, by assumption, by assumption, by assumption, by assumption, by assumption, by assumption, by assumption, by assumption, by assumption⟩ hb6
           | exact nws_keep ⟨by assumption, by assumption, by assumption, by assumption, by assumption, by assumption, by assumption, by assumption, by assumption, by assumption⟩ hb5
           | exact nws_keep ⟨by assumption, by assumption, by assumption, by assumption, by assumption, by assumption, by assumption, by assumption, by assumption, by assumption⟩ hb4
           | exact nws_keep ⟨by assumption, by assumption, by assumption, by assumption, by assumption, by assumption, by assumption, by assumption, by assumption, by assumption⟩ (bl_alloc (Below.refl _ _))
           | exact nws_put ⟨by assumption, by assumption, by assumption, by assumption, by assumption, by assumption, by assumption, by assumption, by assumption, by assumption⟩)
      | go_keep)
    (first
      | (go_at_call 15; refine (HTO.out _ HBD.out).mono ?_; rintro e w4 ⟨k, rfl, hnf, hfa, hb4⟩; have B4 := hid (bl_step HBD.out hb4); have D4 := hid (bl_step ((Below.refl w3.heap.size w3).drew) hb4); have HNF := hid hnf; have HFA := hid hfa)
      | (go_at_call 16; refine (HRU.out _ B4.out).mono ?_; rintro e w5 ⟨wa, wc, m, S, rfl, hw5, hr5, hm5, hb5, ho5, hq5, hg5⟩; have B5 := hid (bl_step B4.out hb5); have D5 := hid (bl_step D4.out hb5); have H5 := hid (And.intro hw5 (And.intro hr5 (And.intro hm5 (And.intro ho5 (And.intro hq5 hg5))))); have HB5 := hid hb5)
      | (go_at_call 17; refine (HCO.out _ B5.out).mono ?_; rintro e w6 ⟨a6, n6, c6, rfl, hf6, hs6, hb6⟩; have B6 := hid (bl_step B5.out hb6); have D6 := hid (bl_step D5.out hb6); have H6 := hid (And.intro hf6 (And.intro hs6 hb6))))
  all_goals
    obtain ⟨_, _, _, _, _, _, q0, q1, _, _⟩ := nws_keep (t := t) (tb := tb) (fb := fb) HZ.out (bl_alloc (o := .cells #[.iface 83 (boxV k.p), .int .i64 t.kind, .slice wa wl.length wc, .slice m.a m.n m.c, .int .i64 t.dflt, .slice a6 n6 c6] 52) D6.out)
    rw [sput_same q0, sput_same q1]
    have HE : Hid (NewDone t wl al w (.returned (.tuple #[.pointer (some ⟨w6.heap.size, 0, none⟩), .agg #[.int .i64 0, .int .i64 0]])) (w6.alloc (.cells #[.iface 83 (boxV k.p), .int .i64 t.kind, .slice wa wl.length wc, .slice m.a m.n m.c, .int .i64 t.dflt, .slice a6 n6 c6] 52))) := by
      obtain ⟨hw5, hr5, hm5, ho5, hq5, hg5⟩ := H5.out
      obtain ⟨hf6, hs6, hb6'⟩ := H6.out
      have st := st_new (al := al) (h := (t.dflt, t.zs)) HFA.out HNF.out HB5.out hb6' hw5 hm5 ho5 hq5 hr5 hg5 hf6 hs6 HH.out.1 HH.out.2.1 rfl
      have eb : stBox k t.kind wa wl.length wc m (t.dflt, t.zs) a6 n6 c6 = .cells #[.iface 83 (boxV k.p), .int .i64 t.kind, .slice wa wl.length wc, .slice m.a m.n m.c, .int .i64 t.dflt, .slice a6 n6 c6] 52 := by unfold stBox; rw [faceV2 (by rw [HNF.out.kind]; exact HH.out.2.2)]
      rw [eb] at st
      refine ⟨bl_alloc B6.out, .inr ⟨HC0.out, _, k.at _, _, _, rfl, st, ?_, ?_, B6.out.size, rfl, fun j hj => .inr hj, rfl⟩⟩
      · have := HNF.out
        rw [← this.B] at this
        exact ⟨this.kind, this.B, this.K, this.wd, this.keys⟩
      · show w.heap.size ≤ k.B
        rw [HNF.out.B]
        exact HBD.out.size
    clear H5 H6 HFA HNF HB5 B4 B5 B6 D4 D5 D6 HZ HTO HRU HCO HH HC0
    go_wp2
    exact bodyPost_ret (v := .tuple #[.pointer (some ⟨w6.heap.size, 0, none⟩), .agg #[.int .i64 0, .int .i64 0]]) (by simp [results, Tryz.results7, go_sem, q0, q1]) rfl HE.out
set_option maxHeartbeats 4000000 in
set_option maxRecDepth 20000 in
theorem snew3 (t : TabD) (wq : QSl) (wl : List Int) (aq : QSl) (al : List ActD) (w : World) (hw : Has .i64 w wq.a wq.n wl) (hwn : wq.nil0) (hws : wq.n ≤ 1000) (hcap : (Lit.int .i64 t.cap).wf = true) (ht : Has .i64 w t.acts.a t.acts.n t.al) (htn : t.acts.n ≤ 10000) (hz : Has .u64 w t.args.a t.args.n t.zs) (hz0 : t.args.nil0) (hzn : t.args.n ≤ 1000) (ha : QRow 2 ActD.lie w aq al) (haq : aq.n ≤ 100000) (hpar : ∀ x ∈ al, x.w.n ≤ 100000) (hk : t.kind = 3) (h0 : storeC t.p wl (al.map ActD.p) = 0) :
    Calls Tryz.prog 7 #[t.v', .slice wq.a wq.n wq.c, .slice aq.a aq.n aq.c] w (NewDone t wl al w) := by
  obtain ⟨hkk, hl1, hl3, hone, hc0, hc16, hin, hal⟩ := store_ok h0
  obtain ⟨W2, hW⟩ : ∃ W2, W2 = (w.alloc t.box').alloc (.cells #[.int .i64 0, .int .i64 0] 34) := ⟨_, rfl⟩
  obtain ⟨tb, etb⟩ : ∃ b, b = w.heap.size := ⟨_, rfl⟩
  obtain ⟨fb, efb⟩ : ∃ b, b = w.heap.size + 1 := ⟨_, rfl⟩
  have b2 : Below w.heap.size w W2 := by rw [hW]; exact bl_alloc (bl_alloc (Below.refl _ _))
  have hs2 : W2.cell? ⟨tb, 0, none⟩ = some (.int .i64 t.kind) ∧ W2.cell? ⟨tb, 1, none⟩ = some (.slice t.keys.a t.keys.n t.keys.c) ∧ W2.cell? ⟨tb, 2, none⟩ = some (.slice t.acts.a t.acts.n t.acts.c) ∧ W2.cell? ⟨tb, 3, none⟩ = some (.int .i64 t.cap) ∧ W2.cell? ⟨tb, 4, none⟩ = some (.int .i64 t.dflt) ∧ W2.cell? ⟨tb, 5, none⟩ = some (.slice t.args.a t.args.n t.args.c) ∧ W2.cell? ⟨fb, 0, none⟩ = some (.int .i64 0) ∧ W2.cell? ⟨fb, 1, none⟩ = some (.int .i64 0) ∧ W2.frozen? ⟨fb, 0, none⟩ = false ∧ W2.frozen? ⟨fb, 1, none⟩ = false := by
    rw [hW, etb, efb]
    refine ⟨?_, ?_, ?_, ?_, ?_, ?_, ?_, ?_, World.frozen?_alloc_at _ _ _ _ (by simp), World.frozen?_alloc_at _ _ _ _ (by simp)⟩
    · exact (World.cell?_alloc_past _ _ _ (by simp)).trans ((World.cell?_alloc_at _ _ _ _ rfl).trans rfl)
    · exact (World.cell?_alloc_past _ _ _ (by simp)).trans ((World.cell?_alloc_at _ _ _ _ rfl).trans rfl)
    · exact (World.cell?_alloc_past _ _ _ (by simp)).trans ((World.cell?_alloc_at _ _ _ _ rfl).trans rfl)
    · exact (World.cell?_alloc_past _ _ _ (by simp)).trans ((World.cell?_alloc_at _ _ _ _ rfl).trans rfl)
    · exact (World.cell?_alloc_past _ _ _ (by simp)).trans ((World.cell?_alloc_at _ _ _ _ rfl).trans rfl)
    · exact (World.cell?_alloc_past _ _ _ (by simp)).trans ((World.cell?_alloc_at _ _ _ _ rfl).trans rfl)
    · exact (World.cell?_alloc_at _ _ _ _ (by simp)).trans rfl
    · exact (World.cell?_alloc_at _ _ _ _ (by simp)).trans rfl
  have HCK := hid (check_store t wq wl aq al W2 (hw.step b2) hwn (by omega) hcap (ht.step b2) htn (hz.step b2) (by omega) (ha.step ActD.keeps b2) haq hpar)
  rw [h0] at HCK
  have hwl := hw.1
  have HTO : Hid (∀ w', Below w.heap.size w w' → Calls Tryz.prog 15 #[t.v', .slice wq.a wq.n wq.c] w' fun r w'' => ∃ k, r = .returned (.iface 84 (.pointer (some ⟨k.p, 0, none⟩))) ∧ NewFace t wl w'.heap.size k ∧ NewAt w'' k ∧ Below w'.heap.size w' w'') := fun w' hb => (stableOf t wq wl w' (hw.step hb) hkk (by omega) hws ⟨hc0, by show t.cap ≤ 100000; have : t.p.cap = t.cap := rfl; omega⟩).mono fun r w'' ⟨k, he, hn, hr⟩ => ⟨k, by rw [he, faceV3 (by rw [hn.kind]; exact hk)], hn, hr⟩
  have HRU : Hid (∀ w', Below w.heap.size w w' → Calls Tryz.prog 16 #[t.v', .slice wq.a wq.n wq.c, .slice aq.a aq.n aq.c] w' (RulesDone t.kind wl al t.al w')) := fun w' hb => rulesOf_any t wq wl aq al w' (hw.step hb) hwn (by omega) (ht.step hb) htn (ha.step ActD.keeps hb) (fun i hi => by
    have := List.all_eq_true.1 hin i hi
    simp only [decide_eq_true_eq, List.length_map] at this
    rw [ha.1] at this
    omega) hpar
  have HCO : Hid (∀ w', Below w.heap.size w w' → Calls Tryz.prog 17 #[.agg #[.int .i64 t.dflt, .slice t.args.a t.args.n t.args.c]] w' fun e w'' => ∃ a n c, e = .returned (.agg #[.int .i64 t.dflt, .slice a n c]) ∧ From w'.heap.size a n ∧ Says w'' (.agg #[.int .i64 t.dflt, .slice a n c]) (t.dflt, t.zs) ∧ Below w'.heap.size w' w'') := fun w' hb => scopied_any (h := (t.dflt, t.zs)) ⟨_, _, _, rfl, hz0, hzn, hz.step hb⟩
  have HH : Hid ((t.kind = 2 → wl.length = 1) ∧ t.al.length ≤ 100000 ∧ t.kind = 3) := ⟨hone, by show t.p.al.length ≤ 100000; omega, hk⟩
  have HC0 := hid h0
  have HB2 := hid b2
  have HS2 := hid hs2
  have EW := hid hW
  have ET := hid etb
  have EF := hid efb
  clear hkk hl1 hl3 hone hc0 hc16 hin hal hW etb efb b2 hs2 hw hwn hws hcap ht htn hz hz0 hzn ha haq hpar hk h0 hwl
  go_enter Tryz.func7, Tryz.ntmps7
  go_upto_region 1 with fail
  rw [← EW.out, ← EF.out, ← ET.out]
  clear EW ET EF
  obtain ⟨z0, z1, z2, z3, z4, z5, z6, z7, z8, z9⟩ := HS2.out
  go_wp2_with fail
  refine HCK.out.mono ?_
  rintro e w3 ⟨rfl, hb3⟩
  clear HCK z0 z1 z2 z3 z4 z5 z6 z7 z8 z9
  have HZ := hid (nws_keep HS2.out hb3)
  obtain ⟨z0, z1, z2, z3, z4, z5, z6, z7, z8, z9⟩ := HZ.out
  have HB3 := hid (bl_step HB2.out hb3)
  have HBD : Hid (Below w.heap.size w w3.drew) := (bl_step HB2.out hb3).drew
  have HLT : Hid (tb < w3.heap.size ∧ fb < w3.heap.size) := ⟨World.block_lt_of_cell? _ _ z0, World.block_lt_of_cell? _ _ z6⟩
  clear HS2 HB2 hb3
  go_upto_region 4 with fail
  go_region_held3 (fun w' => w'.cell? ⟨tb, 0, none⟩ = some (.int .i64 t.kind) ∧ w'.cell? ⟨tb, 1, none⟩ = some (.slice t.keys.a t.keys.n t.keys.c) ∧ w'.cell? ⟨tb, 2, none⟩ = some (.slice t.acts.a t.acts.n t.acts.c) ∧ w'.cell? ⟨tb, 3, none⟩ = some (.int .i64 t.cap) ∧ w'.cell? ⟨tb, 4, none⟩ = some (.int .i64 t.dflt) ∧ w'.cell? ⟨tb, 5, none⟩ = some (.slice t.args.a t.args.n t.args.c) ∧ w'.cell? ⟨fb, 0, none⟩ = some (.int .i64 0) ∧ w'.cell? ⟨fb, 1, none⟩ = some (.int .i64 0) ∧ w'.frozen? ⟨fb, 0, none⟩ = false ∧ w'.frozen? ⟨fb, 1, none⟩ = false)
    (first
      | (go_split_ands
         first
           | exact ⟨by assumption, by assumption, by assumption, by assumption, by assumption, by assumption, by assumption, by assumption, by assumption, by assumption⟩
           | exact nws_keep ⟨by assumption, by assumption, by assumption, by assumption, by assumption, by assumption, by assumption, by assumption, by assumption, by assumption⟩ hb6
           | exact nws_keep ⟨by assumption, by assumption, by assumption, by assumption, by assumption, by assumption, by assumption, by assumption, by assumption, by assumption⟩ hb5
           | exact nws_keep ⟨by assumption, by assumption, by assumption, by assumption, by assumption, by assumption, by assumption, by assumption, by assumption, by assumption⟩ hb4
           | exact nws_keep ⟨by assumption, by assumption, by assumption, by assumption, by assumption, by assumption, by assumption, by assumption, by assumption, by assumption⟩ (bl_alloc (Below.refl _ _))
           | exact nws_put ⟨by assumption, by assumption, by assumption, by assumption, by assumption, by assumption, by assumption, by assumption, by assumption, by assumption⟩)
      | go_keep)
    (first
      | (go_at_call 15; refine (HTO.out _ HBD.out).mono ?_; rintro e w4 ⟨k, rfl, hnf, hfa, hb4⟩; have B4 := hid (bl_step HBD.out hb4); have D4 := hid (bl_step ((Below.refl w3.heap.size w3).drew) hb4); have HNF := hid hnf; have HFA := hid hfa)
      | (go_at_call 16; refine (HRU.out _ B4.out).mono ?_; rintro e w5 ⟨wa, wc, m, S, rfl, hw5, hr5, hm5, hb5, ho5, hq5, hg5⟩; have B5 := hid (bl_step B4.out hb5); have D5 := hid (bl_step D4.out hb5); have H5 := hid (And.intro hw5 (And.intro hr5 (And.intro hm5 (And.intro ho5 (And.intro hq5 hg5))))); have HB5 := hid hb5)
      | (go_at_call 17; refine (HCO.out _ B5.out).mono ?_; rintro e w6 ⟨a6, n6, c6, rfl, hf6, hs6, hb6⟩; have B6 := hid (bl_step B5.out hb6); have D6 := hid (bl_step D5.out hb6); have H6 := hid (And.intro hf6 (And.intro hs6 hb6))))
  all_goals
    obtain ⟨_, _, _, _, _, _, q0, q1, _, _⟩ := nws_keep (t := t) (tb := tb) (fb := fb) HZ.out (bl_alloc (o := .cells #[.iface 84 (.pointer (some ⟨k.p, 0, none⟩)), .int .i64 t.kind, .slice wa wl.length wc, .slice m.a m.n m.c, .int .i64 t.dflt, .slice a6 n6 c6] 52) D6.out)
    rw [sput_same q0, sput_same q1]
    have HE : Hid (NewDone t wl al w (.returned (.tuple #[.pointer (some ⟨w6.heap.size, 0, none⟩), .agg #[.int .i64 0, .int .i64 0]])) (w6.alloc (.cells #[.iface 84 (.pointer (some ⟨k.p, 0, none⟩)), .int .i64 t.kind, .slice wa wl.length wc, .slice m.a m.n m.c, .int .i64 t.dflt, .slice a6 n6 c6] 52))) := by
      obtain ⟨hw5, hr5, hm5, ho5, hq5, hg5⟩ := H5.out
      obtain ⟨hf6, hs6, hb6'⟩ := H6.out
      have st := st_new (al := al) (h := (t.dflt, t.zs)) HFA.out HNF.out HB5.out hb6' hw5 hm5 ho5 hq5 hr5 hg5 hf6 hs6 HH.out.1 HH.out.2.1 rfl
      have eb : stBox k t.kind wa wl.length wc m (t.dflt, t.zs) a6 n6 c6 = .cells #[.iface 84 (.pointer (some ⟨k.p, 0, none⟩)), .int .i64 t.kind, .slice wa wl.length wc, .slice m.a m.n m.c, .int .i64 t.dflt, .slice a6 n6 c6] 52 := by unfold stBox; rw [faceV3 (by rw [HNF.out.kind]; exact HH.out.2.2)]
      rw [eb] at st
      refine ⟨bl_alloc B6.out, .inr ⟨HC0.out, _, k.at _, _, _, rfl, st, ?_, ?_, B6.out.size, rfl, fun j hj => .inr hj, rfl⟩⟩
      · have := HNF.out
        rw [← this.B] at this
        exact ⟨this.kind, this.B, this.K, this.wd, this.keys⟩
      · show w.heap.size ≤ k.B
        rw [HNF.out.B]
        exact HBD.out.size
    clear H5 H6 HFA HNF HB5 B4 B5 B6 D4 D5 D6 HZ HTO HRU HCO HH HC0
    go_wp2
    exact bodyPost_ret (v := .tuple #[.pointer (some ⟨w6.heap.size, 0, none⟩), .agg #[.int .i64 0, .int .i64 0]]) (by simp [results, Tryz.results7, go_sem, q0, q1]) rfl HE.out
set_option maxHeartbeats 4000000 in
set_option maxRecDepth 20000 in
theorem snew_bad (t : TabD) (wq : QSl) (wl : List Int) (aq : QSl) (al : List ActD) (w : World) (hw : Has .i64 w wq.a wq.n wl) (hwn : wq.nil0) (hws : wq.n ≤ 1000) (hcap : (Lit.int .i64 t.cap).wf = true) (ht : Has .i64 w t.acts.a t.acts.n t.al) (htn : t.acts.n ≤ 10000) (hz : Has .u64 w t.args.a t.args.n t.zs) (hzn : t.args.n ≤ 1000) (ha : QRow 2 ActD.lie w aq al) (haq : aq.n ≤ 100000) (hpar : ∀ x ∈ al, x.w.n ≤ 100000) (h0 : storeC t.p wl (al.map ActD.p) ≠ 0) :
    Calls Tryz.prog 7 #[t.v', .slice wq.a wq.n wq.c, .slice aq.a aq.n aq.c] w (NewDone t wl al w) := by
  obtain ⟨W2, hW⟩ : ∃ W2, W2 = (w.alloc t.box').alloc (.cells #[.int .i64 0, .int .i64 0] 34) := ⟨_, rfl⟩
  obtain ⟨tb, etb⟩ : ∃ b, b = w.heap.size := ⟨_, rfl⟩
  obtain ⟨fb, efb⟩ : ∃ b, b = w.heap.size + 1 := ⟨_, rfl⟩
  have b2 : Below w.heap.size w W2 := by rw [hW]; exact bl_alloc (bl_alloc (Below.refl _ _))
  have hs2 : W2.cell? ⟨tb, 0, none⟩ = some (.int .i64 t.kind) ∧ W2.cell? ⟨tb, 1, none⟩ = some (.slice t.keys.a t.keys.n t.keys.c) ∧ W2.cell? ⟨tb, 2, none⟩ = some (.slice t.acts.a t.acts.n t.acts.c) ∧ W2.cell? ⟨tb, 3, none⟩ = some (.int .i64 t.cap) ∧ W2.cell? ⟨tb, 4, none⟩ = some (.int .i64 t.dflt) ∧ W2.cell? ⟨tb, 5, none⟩ = some (.slice t.args.a t.args.n t.args.c) ∧ W2.cell? ⟨fb, 0, none⟩ = some (.int .i64 0) ∧ W2.cell? ⟨fb, 1, none⟩ = some (.int .i64 0) ∧ W2.frozen? ⟨fb, 0, none⟩ = false ∧ W2.frozen? ⟨fb, 1, none⟩ = false := by
    rw [hW, etb, efb]
    refine ⟨?_, ?_, ?_, ?_, ?_, ?_, ?_, ?_, World.frozen?_alloc_at _ _ _ _ (by simp), World.frozen?_alloc_at _ _ _ _ (by simp)⟩
    · exact (World.cell?_alloc_past _ _ _ (by simp)).trans ((World.cell?_alloc_at _ _ _ _ rfl).trans rfl)
    · exact (World.cell?_alloc_past _ _ _ (by simp)).trans ((World.cell?_alloc_at _ _ _ _ rfl).trans rfl)
    · exact (World.cell?_alloc_past _ _ _ (by simp)).trans ((World.cell?_alloc_at _ _ _ _ rfl).trans rfl)
    · exact (World.cell?_alloc_past _ _ _ (by simp)).trans ((World.cell?_alloc_at _ _ _ _ rfl).trans rfl)
    · exact (World.cell?_alloc_past _ _ _ (by simp)).trans ((World.cell?_alloc_at _ _ _ _ rfl).trans rfl)
    · exact (World.cell?_alloc_past _ _ _ (by simp)).trans ((World.cell?_alloc_at _ _ _ _ rfl).trans rfl)
    · exact (World.cell?_alloc_at _ _ _ _ (by simp)).trans rfl
    · exact (World.cell?_alloc_at _ _ _ _ (by simp)).trans rfl
  have HCK := hid (check_store t wq wl aq al W2 (hw.step b2) hwn (by omega) hcap (ht.step b2) htn (hz.step b2) (by omega) (ha.step ActD.keeps b2) haq hpar)
  have HE : Hid (∀ w', Below w.heap.size w w' → NewDone t wl al w (.returned (.tuple #[.pointer none, .agg #[.int .i64 (storeC t.p wl (al.map ActD.p)), .int .i64 (-1)]])) w') := fun w' hb => ⟨hb, .inl ⟨h0, rfl⟩⟩
  have hne : (storeC t.p wl (al.map ActD.p) != 0) = true := by simpa using h0
  have hfb : w.heap.size ≤ fb := by omega
  generalize storeC t.p wl (al.map ActD.p) = C at HCK HE hne
  have HB2 := hid b2
  have HS2 := hid hs2
  have EW := hid hW
  have ET := hid etb
  have EF := hid efb
  have HFB := hid hfb
  clear hW etb efb b2 hs2 hw hwn hws hcap ht htn hz hzn ha haq hpar h0 hfb
  go_enter Tryz.func7, Tryz.ntmps7
  go_upto_region 1 with fail
  rw [← EW.out, ← EF.out, ← ET.out]
  clear EW ET EF
  obtain ⟨z0, z1, z2, z3, z4, z5, z6, z7, z8, z9⟩ := HS2.out
  go_wp2_with fail
  refine HCK.out.mono ?_
  rintro e w3 ⟨rfl, hb3⟩
  clear HCK z0 z1 z2 z3 z4 z5 z6 z7 z8 z9
  obtain ⟨-, -, -, -, -, -, z6, z7, z8, z9⟩ := nws_keep HS2.out hb3
  have HB3 := hid (bl_step HB2.out hb3)
  clear HS2 HB2 hb3
  go_wp2
  exact bodyPost_ret (v := .tuple #[.pointer none, .agg #[.int .i64 C, .int .i64 (-1)]]) (by simp [results, Tryz.results7, go_sem, *]) rfl (HE.out _ ((HB3.out.setCell (p := ⟨fb, 0, none⟩) HFB.out _).setCell (p := ⟨fb, 1, none⟩) HFB.out _))
theorem snew (t : TabD) (wq : QSl) (wl : List Int) (aq : QSl) (al : List ActD) (w : World) (hw : Has .i64 w wq.a wq.n wl) (hwn : wq.nil0) (hws : wq.n ≤ 1000) (hcap : (Lit.int .i64 t.cap).wf = true) (ht : Has .i64 w t.acts.a t.acts.n t.al) (htn : t.acts.n ≤ 10000) (hz : Has .u64 w t.args.a t.args.n t.zs) (hz0 : t.args.nil0) (hzn : t.args.n ≤ 1000) (ha : QRow 2 ActD.lie w aq al) (haq : aq.n ≤ 100000) (hpar : ∀ x ∈ al, x.w.n ≤ 100000) :
    Calls Tryz.prog 7 #[t.v', .slice wq.a wq.n wq.c, .slice aq.a aq.n aq.c] w (NewDone t wl al w) := by
  by_cases h0 : storeC t.p wl (al.map ActD.p) = 0
  · rcases (store_ok h0).1 with hk | hk | hk
    · exact snew1 t wq wl aq al w hw hwn hws hcap ht htn hz hz0 hzn ha haq hpar hk h0
    · exact snew2 t wq wl aq al w hw hwn hws hcap ht htn hz hz0 hzn ha haq hpar hk h0
    · exact snew3 t wq wl aq al w hw hwn hws hcap ht htn hz hz0 hzn ha haq hpar hk h0
  · exact snew_bad t wq wl aq al w hw hwn hws hcap ht htn hz hzn ha haq hpar h0
end Go.Proofs.YtffbnggdckjogaaGreat
