/- The document's behind: ICall. -/
import Derived.Test.YtmohffibkpecpaaJC
namespace Go.Proofs.Ytmohffibkpecpaa
open Go.RowKit

theorem kasked_call {ts : List ShapeD} {s : SD} {x : InsD} {t : ShapeD} {rs K : Nat} (hop : x.op = 13) (ht : ts[x.n.toNat]? = some t) (hk : t.keys = K) (hs : x.s = rs) : askedD ts s x = true ↔ ∀ i, i < K → s.slot (rs + i) = true := by
  unfold askedD keysOf
  rw [if_neg (by omega), if_pos hop, ht]
  dsimp only
  rw [hk, hs, Int.toNat_natCast, Int.toNat_natCast, List.all_eq_true]
  constructor
  · intro h i hi
    exact h i (List.mem_range.2 hi)
  · intro h i hi
    exact h i (List.mem_range.1 hi)
theorem kfill_next (s : SD) (a n j : Nat) : (if j = a + n then true else (s.fill a n).slot j) = (s.fill a (n + 1)).slot j := by
  unfold SD.fill
  dsimp only
  by_cases e : j = a + n
  · subst e
    rw [if_pos rfl, decide_eq_true (by omega : a ≤ a + n), decide_eq_true (by omega : a + n < a + (n + 1))]
    simp
  · rw [if_neg e]
    congr 1
    by_cases h1 : a ≤ j
    · by_cases h2 : j < a + n
      · rw [decide_eq_true h2, decide_eq_true (by omega : j < a + (n + 1))]
      · rw [decide_eq_false h2, decide_eq_false (by omega : ¬ j < a + (n + 1))]
    · rw [decide_eq_false h1, Bool.false_and, Bool.false_and]
theorem kfill_zero (s : SD) (a : Nat) : (s.fill a 0).slot = s.slot := by
  funext j
  unfold SD.fill
  dsimp only
  by_cases h1 : a ≤ j
  · rw [decide_eq_false (by omega : ¬ j < a + 0), Bool.and_false, Bool.or_false]
  · rw [decide_eq_false h1, Bool.false_and, Bool.or_false]

/-- while slots are filled -/
structure FillAt (W0 : World) (S : Nat) (q : KV) (s : SD) (N : Nat → Nat) (a i tb : Nat) (tc : Array Value) (w : World) : Prop where
  k : KRaw W0.heap.size S q (fun j => (s.reg j).set) (fun j => (s.reg j).just.isSome) N (fun j => roomZ (s.reg j).room) (s.fill a i).slot w
  b : Below W0.heap.size W0 w
  t : BoxC w tb tc 64
theorem FillAt.put {W0 : World} {S : Nat} {q : KV} {s : SD} {N : Nat → Nat} {a i tb : Nat} {tc : Array Value} {w : World} (h : FillAt W0 S q s N a i tb tc w) {g5 : Nat} (e5 : q.sl.a = some ⟨g5, 0, none⟩) (hi : a + i < S) : FillAt W0 S q s N a (i + 1) tb tc (w.setCell ⟨g5, a + i, none⟩ (.bool true)) := by
  obtain ⟨g, e, hb, cur, hh⟩ := h.k.sl.block (by omega)
  rw [e5] at e
  cases e
  refine ⟨(h.k.putL e5 hi true).congr (fun _ => rfl) (fun _ => rfl) (fun _ => rfl) (fun j => kfill_next s a i j), hput1 h.b (h.k.lo _ (.inr (.inr (.inr (.inr hb))))).1 _ _, h.t.far (fun e => ?_) _ _⟩
  have ht : w.heap[tb]? = some (.cells tc 64 (0, 0)) := h.t
  rw [← e, hh] at ht
  simp at ht

set_option maxHeartbeats 8000000 in
set_option maxRecDepth 20000 in
theorem kbeh_call (d : ProgD) (x : InsD) (S : Nat) (hS : S ≤ 96) (q : KV) (s : SD) (N : Nat → Nat) (w : World) {m i : Nat} (hd : d.lie w) (hx : GOk d.slots d.ts m i x) (hsl : d.slots = S) (h : KLie S q s N w) (hok : s.ok) (hop : x.op = 13) : Calls Try.prog 14 #[d.v, x.v, KV.v true q] w (BhIs S d.ts x s w) := by
  obtain ⟨W4, hW4⟩ : ∃ W, W = (((w.alloc (.cells #[.int .i64 d.slots, .slice d.tabs.a d.tabs.n d.tabs.c, .slice d.code.a d.code.n d.code.c] 25)).alloc (.cells #[.int .i64 x.op, .int .i64 x.r, .int .i64 x.s, .int .i64 x.k, .int .i64 x.to, .int .u64 x.n] 35)).alloc (.cells (kvA true q) 54)).alloc (.cells zeroK 54) := ⟨_, rfl⟩
  obtain ⟨pb, hpb⟩ : ∃ b, b = w.heap.size := ⟨_, rfl⟩
  obtain ⟨ib, hib⟩ : ∃ b, b = w.heap.size + 1 := ⟨_, rfl⟩
  obtain ⟨kb, hkb⟩ : ∃ b, b = w.heap.size + 1 + 1 := ⟨_, rfl⟩
  obtain ⟨rb, hrb⟩ : ∃ b, b = w.heap.size + 1 + 1 + 1 := ⟨_, rfl⟩
  have HA : Hid (BdAt w d x pb ib kb rb (kvA true q) W4) := by
    refine ⟨?_, ?_, ?_, ?_, ?_⟩
    · rw [hW4, hpb]; exact BoxC.step (boxc_new _ _ _ rfl) (bl_alloc (bl_alloc (bl_alloc (Below.refl _ _))))
    · rw [hW4, hib]; exact BoxC.step (boxc_new _ _ _ (by simp)) (bl_alloc (bl_alloc (Below.refl _ _)))
    · rw [hW4, hkb]; exact BoxC.step (boxc_new _ _ _ (by simp)) (bl_alloc (Below.refl _ _))
    · rw [hW4, hrb]; exact boxc_new _ _ _ (by simp)
    · rw [hW4]; exact bl_alloc (bl_alloc (bl_alloc (bl_alloc (Below.refl _ _))))
  have HKL := hid h
  have HNR : Hid (w.heap.size ≤ pb ∧ w.heap.size ≤ ib ∧ w.heap.size ≤ kb ∧ w.heap.size ≤ rb ∧ ¬ kb = rb ∧ ¬ rb = kb ∧ ¬ kb = ib ∧ ¬ kb = pb ∧ ¬ rb = ib ∧ ¬ rb = pb) := ⟨by omega, by omega, by omega, by omega, by omega, by omega, by omega, by omega, by omega, by omega⟩
  have HX := hid hx
  have HOK := hid hok
  have HD := hid hd
  have HND := hid (fun w => rneeds x hx.op w)
  have EW := hid hW4
  have EP := hid hpb
  have EI := hid hib
  have EK := hid hkb
  have ER := hid hrb
  have hin := needs_in hx.r hx.s
  have hln := needs_len x
  obtain ⟨l, hl⟩ : ∃ l, l = needsL x := ⟨_, rfl⟩
  rw [← hl] at HND hin hln
  have EL := hid hl
  have HIN := hid hin
  obtain ⟨n, hn⟩ : ∃ n, n = l.length := ⟨_, rfl⟩
  have ENL := hid hn
  obtain ⟨R, hR⟩ : ∃ R, R = BhIs S d.ts x s w := ⟨_, rfl⟩
  rw [← hR]
  have ERR := hid hR
  dsimp only [ProgD.v, InsD.v] at HND ⊢
  dsimp only [kvA, zeroK] at EW
  have HSL := hid hsl
  have HOP := hid hop
  clear hop
  clear hW4 hpb hib hkb hrb h hx hok hd hl hin hR hsl
  rw [← hn] at hln
  go_enter Try.func14, Try.ntmps14
  go_upto_region 1 with fail
  rw [← EW.out, ← ER.out, ← EK.out, ← EI.out, ← EP.out]
  clear EW ER EK EI EP
  have i0 : W4.cell? ⟨ib, 0, none⟩ = some (.int .i64 x.op) := HA.out.i.cell 0
  have i1 : W4.cell? ⟨ib, 1, none⟩ = some (.int .i64 x.r) := HA.out.i.cell 1
  have i2 : W4.cell? ⟨ib, 2, none⟩ = some (.int .i64 x.s) := HA.out.i.cell 2
  have i3 : W4.cell? ⟨ib, 3, none⟩ = some (.int .i64 x.k) := HA.out.i.cell 3
  have i4 : W4.cell? ⟨ib, 4, none⟩ = some (.int .i64 x.to) := HA.out.i.cell 4
  have i5 : W4.cell? ⟨ib, 5, none⟩ = some (.int .u64 x.n) := HA.out.i.cell 5
  have hil := HA.out.i.lt
  go_wp2_with fail
  refine (HND.out _).mono ?_
  rintro e w5 ⟨la, lc, rfl, hla, hb5⟩
  have HA5 := hid (HA.out.step hb5)
  have HLA := hid hla
  rw [← ENL.out]
  clear HND HA i0 i1 i2 i3 i4 i5 hil hla hb5 hn
  obtain ⟨g1, o1, e1, n1, c1⟩ := HKL.out.st.pos (by decide)
  have HC1 := hid c1
  have HKC : Hid (∀ w', BoxC w' kb (kvA true q) 54 → w'.cell? ⟨kb, 1, none⟩ = some (.slice (some ⟨g1, o1, none⟩) 10 q.st.c)) := fun w' hk => by
    have h1 : w'.cell? ⟨kb, 1, none⟩ = some (.slice q.st.a q.st.n q.st.c) := hk.cell 1
    rw [e1, n1] at h1
    exact h1
  clear e1 n1 c1
  go_upto_region 2 with fail
  go_wp2
  haveI inhB : ∀ w : World, Inhabited (BelowBy w) := fun w => ⟨⟨w, Below.refl _ _⟩⟩
  go_loopw [9] (fun v wr => ∃ j : Nat, j ≤ n ∧ v = .int .i64 j ∧ Hid (Below w5.heap.size w5 wr) ∧ Hid (∀ t z, t < j → l[t]? = some z → (s.reg z.toNat).set = true)) (fun v _ => n - (intOf v).toNat)
  case atStart => exact ⟨0, Nat.zero_le _, rfl, Below.refl _ _, fun t z ht => absurd ht (Nat.not_lt_zero _)⟩
  case round =>
    obtain ⟨j, hj, rfl, hb, HS⟩ := hrel
    have A := hid (HA5.out.step hb.out)
    by_cases hlt : j < n
    · have hji : (j : Int) < (n : Int) := by omega
      have hlj : l[j]? = some l[j] := List.getElem?_eq_getElem _
      generalize l[j]'(by have := ENL.out; omega) = z at *
      obtain ⟨g, eg, cz⟩ := HLA.out j z hlj
      have hz := HIN.out z (List.mem_of_getElem? hlj)
      obtain ⟨r, rfl⟩ : ∃ r : Nat, z = r := ⟨z.toNat, by omega⟩
      have hri : (r : Int) < 10 := hz.2
      have cz2 := cell_keep cz hb.out
      have k1 := HKC.out wr A.out.k
      have r1 := cell_keep (HC1.out r (by omega)) A.out.bel
      have lg : g < wr.heap.size := World.block_lt_of_cell? _ _ cz2
      have lk : kb < wr.heap.size := World.block_lt_of_cell? _ _ k1
      have lr : g1 < wr.heap.size := World.block_lt_of_cell? _ _ r1
      have cz' := cell_by cz2
      have k1' := cell_by k1
      have r1' := cell_by r1
      obtain ⟨X, hX⟩ : ∃ X, X = (s.reg r).set := ⟨_, rfl⟩
      rw [← hX] at r1 r1'
      have HLJ := hid hlj
      have EX := hid hX
      subst eg
      clear hlj hX cz hz
      go_wp2_with fail
      refine wp_region_quiet_below (by kernel_rfl) (by kernel_rfl) ?_
      repeat (go_big_quiet_step (fail))
      refine wpQuiet_nil ?_
      intro wq hw'
      obtain ⟨⟨_, hwq⟩, hw''⟩ := hw'
      subst hw''
      have AQ := hid (A.out.step hwq)
      have HBQ := hid (bl_step hb.out hwq)
      clear cz2 k1 r1 cz' k1' r1' lg lk lr hwq A hb
      cases X
      · have hrd : readyD s x = false := by
          cases e : readyD s x
          · rfl
          · have := needs_ready.2 e r (by rw [← EL.out]; exact List.mem_of_getElem? HLJ.out)
            rw [Int.toNat_natCast, ← EX.out] at this
            cases this
        have ewr : wrongD d.ts s x = 15 := by unfold wrongD; rw [if_pos hrd]
        have k0 : wq.cell? ⟨kb, 0, none⟩ = some (.bool true) := AQ.out.k.cell 0
        have k1 : wq.cell? ⟨kb, 1, none⟩ = some (.slice q.st.a q.st.n q.st.c) := AQ.out.k.cell 1
        have k2 : wq.cell? ⟨kb, 2, none⟩ = some (.slice q.ju.a q.ju.n q.ju.c) := AQ.out.k.cell 2
        have k3 : wq.cell? ⟨kb, 3, none⟩ = some (.slice q.nu.a q.nu.n q.nu.c) := AQ.out.k.cell 3
        have k4 : wq.cell? ⟨kb, 4, none⟩ = some (.slice q.ro.a q.ro.n q.ro.c) := AQ.out.k.cell 4
        have k5 : wq.cell? ⟨kb, 5, none⟩ = some (.slice q.sl.a q.sl.n q.sl.c) := AQ.out.k.cell 5
        have x0 : wq.cell? ⟨rb, 0, none⟩ = some (.bool false) := AQ.out.r.cell 0
        have x1 : wq.cell? ⟨rb, 1, none⟩ = some (.slice none 0 0) := AQ.out.r.cell 1
        have x2 : wq.cell? ⟨rb, 2, none⟩ = some (.slice none 0 0) := AQ.out.r.cell 2
        have x3 : wq.cell? ⟨rb, 3, none⟩ = some (.slice none 0 0) := AQ.out.r.cell 3
        have x4 : wq.cell? ⟨rb, 4, none⟩ = some (.slice none 0 0) := AQ.out.r.cell 4
        have x5 : wq.cell? ⟨rb, 5, none⟩ = some (.slice none 0 0) := AQ.out.r.cell 5
        have z0 := AQ.out.r.fz 0
        have z1 := AQ.out.r.fz 1
        have z2 := AQ.out.r.fz 2
        have z3 := AQ.out.r.fz 3
        have z4 := AQ.out.r.fz 4
        have z5 := AQ.out.r.fz 5
        have hlr := AQ.out.r.lt
        have hlk := AQ.out.k.lt
        have hn1 := HNR.out.2.2.2.2.1
        have hn2 := HNR.out.2.2.2.2.2.1
        have HE : Hid (∀ u0 u1 u2 u3 u4 u5, R (.returned (.tuple #[KV.v true q, .int .i64 15])) ((((((wq.setCell ⟨rb, 0, none⟩ u0).setCell ⟨rb, 1, none⟩ u1).setCell ⟨rb, 2, none⟩ u2).setCell ⟨rb, 3, none⟩ u3).setCell ⟨rb, 4, none⟩ u4).setCell ⟨rb, 5, none⟩ u5)) := fun u0 u1 u2 u3 u4 u5 => by
          have hw := HNR.out.2.2.2.1
          rw [ERR.out]
          exact ⟨q, N, by rw [ewr], fun e0 => absurd (ewr.symm.trans e0) (by decide), hput1 (hput1 (hput1 (hput1 (hput1 (hput1 AQ.out.bel hw _ _) hw _ _) hw _ _) hw _ _) hw _ _) hw _ _⟩
        clear AQ HBQ HS hrd ewr HLJ EX ERR HX HOK HD HKL
        go_wp2
        exact bodyPost_ret (v := .tuple #[KV.v true q, .int .i64 15]) (by simp [results, Try.results14, go_sem, *]) rfl (HE.out _ _ _ _ _ _)
      · have HS2 : Hid (∀ t z, t < j + 1 → l[t]? = some z → (s.reg z.toNat).set = true) := fun t z ht hz => by
          rcases Nat.lt_or_ge t j with h | h
          · exact HS.out t z h hz
          · obtain rfl : t = j := by omega
            rw [HLJ.out] at hz
            cases hz
            rw [Int.toNat_natCast]
            exact EX.out.symm
        clear AQ HS HLJ EX
        go_wp2
        go_roundw
        case rel => exact ⟨j + 1, by omega, by go_num, HBQ, HS2⟩
        case measure => simp [intOf]; omega
    · have hji : ¬ (j : Int) < (n : Int) := by omega
      have HRD : Hid (readyD s x = true) := needs_ready.1 fun z hz => by
        rw [← EL.out] at hz
        obtain ⟨t, ht, rfl⟩ := List.getElem_of_mem hz
        exact HS.out t _ (by have := ENL.out; omega) (List.getElem?_eq_getElem ht)
      have k0 : wr.cell? ⟨kb, 0, none⟩ = some (.bool true) := A.out.k.cell 0
      have k1 : wr.cell? ⟨kb, 1, none⟩ = some (.slice q.st.a q.st.n q.st.c) := A.out.k.cell 1
      have k2 : wr.cell? ⟨kb, 2, none⟩ = some (.slice q.ju.a q.ju.n q.ju.c) := A.out.k.cell 2
      have k3 : wr.cell? ⟨kb, 3, none⟩ = some (.slice q.nu.a q.nu.n q.nu.c) := A.out.k.cell 3
      have k4 : wr.cell? ⟨kb, 4, none⟩ = some (.slice q.ro.a q.ro.n q.ro.c) := A.out.k.cell 4
      have k5 : wr.cell? ⟨kb, 5, none⟩ = some (.slice q.sl.a q.sl.n q.sl.c) := A.out.k.cell 5
      have hlk := A.out.k.lt
      have HO := hid (kown S hS true q s N wr (HKL.out.step A.out.bel))
      dsimp only [KV.v] at HO
      clear HS HC1 HKC HIN EL HLA hb HA5
      go_wp2_with fail
      refine HO.out.mono ?_
      rintro e w6 ⟨q2, rfl, hk6, hb6⟩
      have A6 := hid (A.out.step hb6)
      have HK6 := hid hk6
      have HAR := A
      have HB6 := hid hb6
      clear HO A hk6 hb6 k0 k1 k2 k3 k4 k5 hlk hji
      have y0 : w6.cell? ⟨kb, 0, none⟩ = some (.bool true) := A6.out.k.cell 0
      have y1 : w6.cell? ⟨kb, 1, none⟩ = some (.slice q.st.a q.st.n q.st.c) := A6.out.k.cell 1
      have y2 : w6.cell? ⟨kb, 2, none⟩ = some (.slice q.ju.a q.ju.n q.ju.c) := A6.out.k.cell 2
      have y3 : w6.cell? ⟨kb, 3, none⟩ = some (.slice q.nu.a q.nu.n q.nu.c) := A6.out.k.cell 3
      have y4 : w6.cell? ⟨kb, 4, none⟩ = some (.slice q.ro.a q.ro.n q.ro.c) := A6.out.k.cell 4
      have y5 : w6.cell? ⟨kb, 5, none⟩ = some (.slice q.sl.a q.sl.n q.sl.c) := A6.out.k.cell 5
      have z0 := A6.out.k.fz 0
      have z1 := A6.out.k.fz 1
      have z2 := A6.out.k.fz 2
      have z3 := A6.out.k.fz 3
      have z4 := A6.out.k.fz 4
      have z5 := A6.out.k.fz 5
      have hlk := A6.out.k.lt
      obtain ⟨W7, hW7⟩ : ∃ W, W = (((((w6.setCell ⟨kb, 0, none⟩ (.bool true)).setCell ⟨kb, 1, none⟩ (.slice q2.st.a q2.st.n q2.st.c)).setCell ⟨kb, 2, none⟩ (.slice q2.ju.a q2.ju.n q2.ju.c)).setCell ⟨kb, 3, none⟩ (.slice q2.nu.a q2.nu.n q2.nu.c)).setCell ⟨kb, 4, none⟩ (.slice q2.ro.a q2.ro.n q2.ro.c)).setCell ⟨kb, 5, none⟩ (.slice q2.sl.a q2.sl.n q2.sl.c) := ⟨_, rfl⟩
      obtain ⟨W0, hW0⟩ : ∃ W, W = (((((wr.setCell ⟨kb, 0, none⟩ (.bool true)).setCell ⟨kb, 1, none⟩ (.slice q2.st.a q2.st.n q2.st.c)).setCell ⟨kb, 2, none⟩ (.slice q2.ju.a q2.ju.n q2.ju.c)).setCell ⟨kb, 3, none⟩ (.slice q2.nu.a q2.nu.n q2.nu.c)).setCell ⟨kb, 4, none⟩ (.slice q2.ro.a q2.ro.n q2.ro.c)).setCell ⟨kb, 5, none⟩ (.slice q2.sl.a q2.sl.n q2.sl.c) := ⟨_, rfl⟩
      have A0 : Hid (BdAt w d x pb ib kb rb (kvA true q2) W0) := by
        have hn := HNR.out
        have hw := hn.2.2.1
        rw [hW0]
        exact ⟨(((((HAR.out.p.far hn.2.2.2.2.2.2.2.1 _ _).far hn.2.2.2.2.2.2.2.1 _ _).far hn.2.2.2.2.2.2.2.1 _ _).far hn.2.2.2.2.2.2.2.1 _ _).far hn.2.2.2.2.2.2.2.1 _ _).far hn.2.2.2.2.2.2.2.1 _ _, (((((HAR.out.i.far hn.2.2.2.2.2.2.1 _ _).far hn.2.2.2.2.2.2.1 _ _).far hn.2.2.2.2.2.2.1 _ _).far hn.2.2.2.2.2.2.1 _ _).far hn.2.2.2.2.2.2.1 _ _).far hn.2.2.2.2.2.2.1 _ _, (((((HAR.out.k.put 0 _).put 1 _).put 2 _).put 3 _).put 4 _).put 5 _, (((((HAR.out.r.far hn.2.2.2.2.1 _ _).far hn.2.2.2.2.1 _ _).far hn.2.2.2.2.1 _ _).far hn.2.2.2.2.1 _ _).far hn.2.2.2.2.1 _ _).far hn.2.2.2.2.1 _ _, hput1 (hput1 (hput1 (hput1 (hput1 (hput1 HAR.out.bel hw _ _) hw _ _) hw _ _) hw _ _) hw _ _) hw _ _⟩
      have HB7 : Hid (Below W0.heap.size W0 W7) := by
        rw [hW7, hW0]
        exact bl_both (bl_both (bl_both (bl_both (bl_both (bl_both HB6.out _ _) _ _) _ _) _ _) _ _) _ _
      have hsz : W0.heap.size = wr.heap.size := by rw [hW0]; simp [World.setCell]
      have HK8 : Hid (KOwn W0.heap.size S q2 s N W7) := by
        rw [hW7, hsz]
        have c0 := A6.out.k
        have c1 := c0.put 0 (.bool true)
        have c2 := c1.put 1 (.slice q2.st.a q2.st.n q2.st.c)
        have c3 := c2.put 2 (.slice q2.ju.a q2.ju.n q2.ju.c)
        have c4 := c3.put 3 (.slice q2.nu.a q2.nu.n q2.nu.c)
        have c5 := c4.put 4 (.slice q2.ro.a q2.ro.n q2.ro.c)
        exact ⟨(((((HK6.out.1.off c0 _ _).off c1 _ _).off c2 _ _).off c3 _ _).off c4 _ _).off c5 _ _, HK6.out.2⟩
      have HLO : Hid (w.heap.size ≤ W0.heap.size) := A0.out.bel.size
      have HK7 := hid (HK8.out.low HLO.out)
      have A7 := hid (A0.out.step HB7.out)
      have E7 := hid hW7
      clear hW7 hW0 hsz A6 HK6 HAR HB6 HKL
      go_upto_region 8 with fail
      rw [← E7.out]
      clear E7 y0 y1 y2 y3 y4 y5 z0 z1 z2 z3 z4 z5 hlk
      have i0 : W7.cell? ⟨ib, 0, none⟩ = some (.int .i64 x.op) := A7.out.i.cell 0
      have hil := A7.out.i.lt
      have hop := HOP.out
      obtain ⟨r, hr⟩ : ∃ r : Nat, x.r = r := ⟨x.r.toNat, by have := HX.out.r; omega⟩
      have hr10 : r < 10 := by have := HX.out.r; omega
      have hri : (r : Int) < 10 := by omega
      obtain ⟨nn, hnn⟩ : ∃ r : Nat, x.n = r := ⟨x.n.toNat, by have := HX.out.n; omega⟩
      have HNL : Hid (nn < 18446744073709551616) := by have := HX.out.n; show _ < _; omega
      obtain ⟨g1, g2, g3, g4, ka⟩ := HK7.out.1.blocks
      obtain ⟨⟨a1, n1, c1⟩, ⟨a2, n2, c2⟩, ⟨a3, n3, c3⟩, ⟨a4, n4, c4⟩, ⟨a5, n5, c5⟩⟩ := q2
      obtain rfl : a1 = some ⟨g1, 0, none⟩ := ka.e1
      obtain rfl : a2 = some ⟨g2, 0, none⟩ := ka.e2
      obtain rfl : a3 = some ⟨g3, 0, none⟩ := ka.e3
      obtain rfl : a4 = some ⟨g4, 0, none⟩ := ka.e4
      obtain rfl : n1 = 10 := ka.n1
      obtain rfl : n2 = 10 := ka.n2
      obtain rfl : n3 = 10 := ka.n3
      obtain rfl : n4 = 10 := ka.n4
      have HKA := hid ka
      have HR := hid hr
      have HNN := hid hnn
      have hn1 := HNR.out.2.2.2.2.1
      have hn2 := HNR.out.2.2.2.2.2.1
      have hn3 := HNR.out.2.2.2.2.2.2.1
      rw [hop] at i0
      obtain ⟨t, ht, hs0, hs1, hk0, hk1, ht1, ht2, ht3, ht4⟩ := HX.out.call hop
      obtain ⟨rs, hrs⟩ : ∃ r : Nat, x.s = r := ⟨x.s.toNat, by omega⟩
      obtain ⟨rk, hrk⟩ : ∃ r : Nat, x.k = r := ⟨x.k.toNat, by omega⟩
      obtain ⟨K, hK⟩ : ∃ r : Nat, t.keys = r := ⟨t.keys.toNat, by omega⟩
      obtain ⟨M, hM⟩ : ∃ r : Nat, t.args = r := ⟨t.args.toNat, by omega⟩
      have hsl := HSL.out
      have hKS : rs + K ≤ S := by omega
      have hMS : rk + M ≤ S := by omega
      have hK3 : K ≤ 3 := by omega
      have hM3 : M ≤ 3 := by omega
      have hS0 : 0 < S := by omega
      have hS96 := hS
      obtain ⟨g5, e5, b5, cur5, hh5⟩ := HK7.out.1.sl.block hS0
      obtain rfl : a5 = some ⟨g5, 0, none⟩ := e5
      obtain rfl : S = n5 := HK7.out.1.sl.1.symm
      have HRS := hid hrs
      have HRK := hid hrk
      have HTT := hid ht
      have HASK := hid (kasked_call (s := s) hop ht hK hrs)
      have HEB : Hid (bhD d.ts s x = (s.setR r RD.any).fill rk M) := by
        show _ = _
        have ha : argsOf d.ts x = M := by unfold argsOf; rw [ht]; dsimp only; rw [hM, Int.toNat_natCast]
        unfold bhD behindD
        rw [if_neg (by omega), if_neg (by omega), if_neg (by omega), if_neg (by omega), if_neg (by omega), if_neg (by omega), if_pos (by omega), hr, hrk, ha, Int.toNat_natCast, Int.toNat_natCast]
      have htl : nn < d.tabs.n := by
        have := (List.getElem?_eq_some_iff.1 ht).1
        rw [hnn, Int.toNat_natCast] at this
        rw [← HD.out.t.1]
        exact this
      obtain ⟨gt, ot, t', et, ht', hlt⟩ := grow_at HD.out.t htl
      rw [hnn, Int.toNat_natCast, ht'] at ht
      obtain rfl := Option.some.inj ht
      have hti : (nn : Int) < (d.tabs.n : Int) := by omega
      have hlt7 := ShapeD.keeps hlt A7.out.bel
      obtain ⟨⟨t0, _⟩, ⟨t1, _⟩, ⟨t2, _⟩⟩ := hlt7
      rw [hK] at t0
      rw [hM] at t2
      have lt := World.block_lt_of_cell? _ _ t0
      have p1 : W7.cell? ⟨pb, 1, none⟩ = some (.slice (some ⟨gt, ot, none⟩) d.tabs.n d.tabs.c) := by rw [← et]; exact A7.out.p.cell 1
      have hpl := A7.out.p.lt
      have i5 : W7.cell? ⟨ib, 5, none⟩ = some (.int .u64 (nn : Int)) := by rw [← hnn]; exact A7.out.i.cell 5
      obtain ⟨W8, hW8⟩ : ∃ W, W = W7.alloc (.cells #[.int .i64 (K : Int), .int .i64 t'.acts, .int .i64 (M : Int)] 64) := ⟨_, rfl⟩
      obtain ⟨tb, htb⟩ : ∃ b, b = W7.heap.size := ⟨_, rfl⟩
      have HT8 : Hid (BoxC W8 tb #[.int .i64 (K : Int), .int .i64 t'.acts, .int .i64 (M : Int)] 64) := by rw [hW8, htb]; exact boxc_new _ _ _ rfl
      have HB8 : Hid (Below W7.heap.size W7 W8) := by rw [hW8]; exact bl_alloc (Below.refl _ _)
      have EW8 := hid hW8
      have ETB := hid htb
      have E5 := hid b5
      clear hop hr hnn hs0 hs1 hk0 hk1 ht1 ht2 ht3 ht4 hrs hrk hK hM hsl HX b5 hh5 ht' et hlt htl hW8 htb ka
      go_upto_region 44 with fail
      rw [← EW8.out, ← ETB.out]
      clear EW8 ETB t0 t1 t2 lt p1 hpl i5 i0 hil
      have HA8 := hid (A7.out.step HB8.out)
      have HK9 := hid (HK8.out.step HB8.out)
      have HB9 := hid (bl_step HB7.out HB8.out)
      have HKL := hid HK9.out.1
      clear A7 HK8 HB7 HK7 HB8
      go_wp2
      go_loopw [16] (fun v wr => ∃ i : Nat, i ≤ K ∧ v = .int .i64 i ∧ Hid (Below W8.heap.size W8 wr) ∧ Hid (∀ t, t < i → s.slot (rs + t) = true)) (fun v _ => K - (intOf v).toNat)
      case atStart => exact ⟨0, Nat.zero_le _, rfl, Below.refl _ _, fun t ht => absurd ht (Nat.not_lt_zero _)⟩
      case round =>
        obtain ⟨j2, hj2, rfl, hb, HS⟩ := hrel
        have tt0 := (HT8.out.step hb.out).cell 0
        have tt0 : wr.cell? ⟨tb, 0, none⟩ = some (.int .i64 (K : Int)) := tt0
        have ltb := (HT8.out.step hb.out).lt
        have A := hid (HA8.out.step hb.out)
        by_cases hlt : j2 < K
        · have hji : (j2 : Int) < (K : Int) := by omega
          obtain ⟨u, hu⟩ : ∃ u : Nat, u = rs + j2 := ⟨_, rfl⟩
          have huS : u < S := by omega
          have hui : (u : Int) < (S : Int) := by omega
          have hwr : IntKind.i64.wrap ((rs : Int) + (j2 : Int)) = (u : Int) := by rw [wrap_small _ (by omega) (by omega)]; omega
          have k5 : wr.cell? ⟨kb, 5, none⟩ = some (.slice (some ⟨g5, 0, none⟩) S c5) := A.out.k.cell 5
          have i2 : wr.cell? ⟨ib, 2, none⟩ = some (.int .i64 (rs : Int)) := by rw [← HRS.out]; exact A.out.i.cell 2
          have cs := (HKL.out.step hb.out).sl.at rfl huS
          obtain ⟨X, hX⟩ : ∃ X, X = s.slot u := ⟨_, rfl⟩
          rw [← hX] at cs
          obtain ⟨cs0, cs1, cs2⟩ := cs
          have hlk := A.out.k.lt
          have hil := A.out.i.lt
          have HU := hid hu
          have EX := hid hX
          clear hu hX
          cases X
          · have ewr : wrongD d.ts s x = 15 := by
              have ha : askedD d.ts s x = false := by
                cases e : askedD d.ts s x
                · rfl
                · have := HASK.out.1 e j2 hlt
                  rw [← HU.out, ← EX.out] at this
                  cases this
              have hop := HOP.out
              unfold wrongD
              rw [if_neg (by rw [HRD.out]; decide), if_neg (by omega), if_neg (by omega), if_pos ha]
            have k0 : wr.cell? ⟨kb, 0, none⟩ = some (.bool true) := A.out.k.cell 0
            have k1 : wr.cell? ⟨kb, 1, none⟩ = some (.slice (some ⟨g1, 0, none⟩) 10 c1) := A.out.k.cell 1
            have k2 : wr.cell? ⟨kb, 2, none⟩ = some (.slice (some ⟨g2, 0, none⟩) 10 c2) := A.out.k.cell 2
            have k3 : wr.cell? ⟨kb, 3, none⟩ = some (.slice (some ⟨g3, 0, none⟩) 10 c3) := A.out.k.cell 3
            have k4 : wr.cell? ⟨kb, 4, none⟩ = some (.slice (some ⟨g4, 0, none⟩) 10 c4) := A.out.k.cell 4
            have x0 : wr.cell? ⟨rb, 0, none⟩ = some (.bool false) := A.out.r.cell 0
            have x1 : wr.cell? ⟨rb, 1, none⟩ = some (.slice none 0 0) := A.out.r.cell 1
            have x2 : wr.cell? ⟨rb, 2, none⟩ = some (.slice none 0 0) := A.out.r.cell 2
            have x3 : wr.cell? ⟨rb, 3, none⟩ = some (.slice none 0 0) := A.out.r.cell 3
            have x4 : wr.cell? ⟨rb, 4, none⟩ = some (.slice none 0 0) := A.out.r.cell 4
            have x5 : wr.cell? ⟨rb, 5, none⟩ = some (.slice none 0 0) := A.out.r.cell 5
            have z0 := A.out.r.fz 0
            have z1 := A.out.r.fz 1
            have z2 := A.out.r.fz 2
            have z3 := A.out.r.fz 3
            have z4 := A.out.r.fz 4
            have z5 := A.out.r.fz 5
            have hlr := A.out.r.lt
            have HE : Hid (∀ u0 u1 u2 u3 u4 u5, R (.returned (.tuple #[KV.v true (⟨⟨some ⟨g1, 0, none⟩, 10, c1⟩, ⟨some ⟨g2, 0, none⟩, 10, c2⟩, ⟨some ⟨g3, 0, none⟩, 10, c3⟩, ⟨some ⟨g4, 0, none⟩, 10, c4⟩, ⟨some ⟨g5, 0, none⟩, S, c5⟩⟩ : KV), .int .i64 15])) ((((((wr.setCell ⟨rb, 0, none⟩ u0).setCell ⟨rb, 1, none⟩ u1).setCell ⟨rb, 2, none⟩ u2).setCell ⟨rb, 3, none⟩ u3).setCell ⟨rb, 4, none⟩ u4).setCell ⟨rb, 5, none⟩ u5)) := fun u0 u1 u2 u3 u4 u5 => by
              have hw := HNR.out.2.2.2.1
              rw [ERR.out]
              exact ⟨_, N, by rw [ewr], fun e0 => absurd (ewr.symm.trans e0) (by decide), hput1 (hput1 (hput1 (hput1 (hput1 (hput1 A.out.bel hw _ _) hw _ _) hw _ _) hw _ _) hw _ _) hw _ _⟩
            clear A hb HS ewr EX ERR HOK HD HKL HASK
            go_wp2
            exact bodyPost_ret (v := .tuple #[KV.v true (⟨⟨some ⟨g1, 0, none⟩, 10, c1⟩, ⟨some ⟨g2, 0, none⟩, 10, c2⟩, ⟨some ⟨g3, 0, none⟩, 10, c3⟩, ⟨some ⟨g4, 0, none⟩, 10, c4⟩, ⟨some ⟨g5, 0, none⟩, S, c5⟩⟩ : KV), .int .i64 15]) (by simp [results, Try.results14, go_sem, *]) rfl (HE.out _ _ _ _ _ _)
          · have HS2 : Hid (∀ t, t < j2 + 1 → s.slot (rs + t) = true) := fun t ht => by
              rcases Nat.lt_or_ge t j2 with h | h
              · exact HS.out t h
              · obtain rfl : t = j2 := by omega
                rw [← HU.out]
                exact EX.out.symm
            clear A HS EX
            go_wp2
            go_roundw
            case rel => exact ⟨j2 + 1, by omega, by go_num, hb, HS2⟩
            case measure => simp [intOf]; omega
        · have hji : ¬ (j2 : Int) < (K : Int) := by omega
          have ewr : wrongD d.ts s x = 0 := by
            have ha : askedD d.ts s x = true := HASK.out.2 fun i hi => HS.out i (by omega)
            have hop := HOP.out
            unfold wrongD
            rw [if_neg (by rw [HRD.out]; decide), if_neg (by omega), if_neg (by omega), if_neg (by rw [ha]; decide)]
          have HEW := hid ewr
          have HF0 : Hid (FillAt W0 S (⟨⟨some ⟨g1, 0, none⟩, 10, c1⟩, ⟨some ⟨g2, 0, none⟩, 10, c2⟩, ⟨some ⟨g3, 0, none⟩, 10, c3⟩, ⟨some ⟨g4, 0, none⟩, 10, c4⟩, ⟨some ⟨g5, 0, none⟩, S, c5⟩⟩ : KV) s N rk 0 tb #[.int .i64 (K : Int), .int .i64 t'.acts, .int .i64 (M : Int)] wr) := ⟨(HKL.out.step hb.out).congr (fun _ => rfl) (fun _ => rfl) (fun _ => rfl) (fun j => by rw [kfill_zero]), bl_step HB9.out hb.out, HT8.out.step hb.out⟩
          have HN9 := hid HK9.out.2
          clear A HS ewr HASK HKL HK9 HB9 HT8 hb HRD
          go_wp2
          clear tt0 ltb
          go_loopw [17] (fun v wr => ∃ i : Nat, i ≤ M ∧ v = .int .i64 i ∧ Hid (FillAt W0 S (⟨⟨some ⟨g1, 0, none⟩, 10, c1⟩, ⟨some ⟨g2, 0, none⟩, 10, c2⟩, ⟨some ⟨g3, 0, none⟩, 10, c3⟩, ⟨some ⟨g4, 0, none⟩, 10, c4⟩, ⟨some ⟨g5, 0, none⟩, S, c5⟩⟩ : KV) s N rk i tb #[.int .i64 (K : Int), .int .i64 t'.acts, .int .i64 (M : Int)] wr)) (fun v _ => M - (intOf v).toNat)
          case atStart => exact ⟨0, Nat.zero_le _, rfl, HF0⟩
          case round =>
            obtain ⟨j3, hj3, rfl, J⟩ := hrel
            clear HF0
            have tt2 : wr.cell? ⟨tb, 2, none⟩ = some (.int .i64 (M : Int)) := J.out.t.cell 2
            have ltb := J.out.t.lt
            have A := hid (A0.out.step J.out.b)
            by_cases hlt3 : j3 < M
            · have hji3 : (j3 : Int) < (M : Int) := by omega
              obtain ⟨u, hu⟩ : ∃ u : Nat, u = rk + j3 := ⟨_, rfl⟩
              have huS : u < S := by omega
              have hui : (u : Int) < (S : Int) := by omega
              have hwr : IntKind.i64.wrap ((rk : Int) + (j3 : Int)) = (u : Int) := by rw [wrap_small _ (by omega) (by omega)]; omega
              have k5 : wr.cell? ⟨kb, 5, none⟩ = some (.slice (some ⟨g5, 0, none⟩) S c5) := A.out.k.cell 5
              have i3 : wr.cell? ⟨ib, 3, none⟩ = some (.int .i64 (rk : Int)) := by rw [← HRK.out]; exact A.out.i.cell 3
              obtain ⟨cs0, cs1, cs2⟩ := J.out.k.sl.at rfl huS
              have hlk := A.out.k.lt
              have hil := A.out.i.lt
              have HJ2 := hid (J.out.put rfl (by omega : rk + j3 < S))
              rw [← hu] at HJ2
              have HU := hid hu
              clear hu A J
              go_wp2
              go_roundw
              case rel => exact ⟨j3 + 1, by omega, by go_num, HJ2⟩
              case measure => simp [intOf]; omega
            · have hji3 : ¬ (j3 : Int) < (M : Int) := by omega
              obtain rfl : j3 = M := by omega
              have HKS := hid (ksome (t := true) (q := (⟨⟨some ⟨g1, 0, none⟩, 10, c1⟩, ⟨some ⟨g2, 0, none⟩, 10, c2⟩, ⟨some ⟨g3, 0, none⟩, 10, c3⟩, ⟨some ⟨g4, 0, none⟩, 10, c4⟩, ⟨some ⟨g5, 0, none⟩, S, c5⟩⟩ : KV)) (s := s.fill rk j3) (N := N) ⟨J.out.k, HN9.out⟩ J.out.b r hr10)
              dsimp only [KV.v] at HKS
              have i1 : wr.cell? ⟨ib, 1, none⟩ = some (.int .i64 (r : Int)) := by rw [← HR.out]; exact A.out.i.cell 1
              have k0 : wr.cell? ⟨kb, 0, none⟩ = some (.bool true) := A.out.k.cell 0
              have k1 : wr.cell? ⟨kb, 1, none⟩ = some (.slice (some ⟨g1, 0, none⟩) 10 c1) := A.out.k.cell 1
              have k2 : wr.cell? ⟨kb, 2, none⟩ = some (.slice (some ⟨g2, 0, none⟩) 10 c2) := A.out.k.cell 2
              have k3 : wr.cell? ⟨kb, 3, none⟩ = some (.slice (some ⟨g3, 0, none⟩) 10 c3) := A.out.k.cell 3
              have k4 : wr.cell? ⟨kb, 4, none⟩ = some (.slice (some ⟨g4, 0, none⟩) 10 c4) := A.out.k.cell 4
              have k5 : wr.cell? ⟨kb, 5, none⟩ = some (.slice (some ⟨g5, 0, none⟩) S c5) := A.out.k.cell 5
              have hlk := A.out.k.lt
              have hil := A.out.i.lt
              clear A J
              go_wp2_with fail
              refine HKS.out.mono ?_
              rintro e w8 ⟨rfl, ⟨N8, hk8⟩, hb8⟩
              have HK := hid (BdK.mk (A0.out.step hb8) (hk8.low HLO.out).1)
              have HN8 := hid hk8.2
              clear HKS hk8 hb8 k0 k1 k2 k3 k4 k5 hlk i1 hil tt2 ltb
              have k0 : w8.cell? ⟨kb, 0, none⟩ = some (.bool true) := HK.out.a.k.cell 0
              have k1 : w8.cell? ⟨kb, 1, none⟩ = some (.slice (some ⟨g1, 0, none⟩) 10 c1) := HK.out.a.k.cell 1
              have k2 : w8.cell? ⟨kb, 2, none⟩ = some (.slice (some ⟨g2, 0, none⟩) 10 c2) := HK.out.a.k.cell 2
              have k3 : w8.cell? ⟨kb, 3, none⟩ = some (.slice (some ⟨g3, 0, none⟩) 10 c3) := HK.out.a.k.cell 3
              have k4 : w8.cell? ⟨kb, 4, none⟩ = some (.slice (some ⟨g4, 0, none⟩) 10 c4) := HK.out.a.k.cell 4
              have k5 : w8.cell? ⟨kb, 5, none⟩ = some (.slice (some ⟨g5, 0, none⟩) S c5) := HK.out.a.k.cell 5
              have hlk := HK.out.a.k.lt
              have y0 := HK.out.a.k.fz 0
              have y1 := HK.out.a.k.fz 1
              have y2 := HK.out.a.k.fz 2
              have y3 := HK.out.a.k.fz 3
              have y4 := HK.out.a.k.fz 4
              have y5 := HK.out.a.k.fz 5
              have x0 : w8.cell? ⟨rb, 0, none⟩ = some (.bool false) := HK.out.a.r.cell 0
              have x1 : w8.cell? ⟨rb, 1, none⟩ = some (.slice none 0 0) := HK.out.a.r.cell 1
              have x2 : w8.cell? ⟨rb, 2, none⟩ = some (.slice none 0 0) := HK.out.a.r.cell 2
              have x3 : w8.cell? ⟨rb, 3, none⟩ = some (.slice none 0 0) := HK.out.a.r.cell 3
              have x4 : w8.cell? ⟨rb, 4, none⟩ = some (.slice none 0 0) := HK.out.a.r.cell 4
              have x5 : w8.cell? ⟨rb, 5, none⟩ = some (.slice none 0 0) := HK.out.a.r.cell 5
              have z0 := HK.out.a.r.fz 0
              have z1 := HK.out.a.r.fz 1
              have z2 := HK.out.a.r.fz 2
              have z3 := HK.out.a.r.fz 3
              have z4 := HK.out.a.r.fz 4
              have z5 := HK.out.a.r.fz 5
              have hlr := HK.out.a.r.lt
              have HKZ := hid (HK.out.again HNR.out.2.2.2.2.2.2.1 HNR.out.2.2.2.2.2.2.2.1 HNR.out.2.2.2.2.1 HNR.out.2.2.1)
              dsimp only at HKZ
              have HE : Hid (∀ u0 u1 u2 u3 u4 u5, R (.returned (.tuple #[KV.v true (⟨⟨some ⟨g1, 0, none⟩, 10, c1⟩, ⟨some ⟨g2, 0, none⟩, 10, c2⟩, ⟨some ⟨g3, 0, none⟩, 10, c3⟩, ⟨some ⟨g4, 0, none⟩, 10, c4⟩, ⟨some ⟨g5, 0, none⟩, S, c5⟩⟩ : KV), .int .i64 0])) ((((((((((((w8.setCell ⟨kb, 0, none⟩ (.bool true)).setCell ⟨kb, 1, none⟩ (.slice (some ⟨g1, 0, none⟩) 10 c1)).setCell ⟨kb, 2, none⟩ (.slice (some ⟨g2, 0, none⟩) 10 c2)).setCell ⟨kb, 3, none⟩ (.slice (some ⟨g3, 0, none⟩) 10 c3)).setCell ⟨kb, 4, none⟩ (.slice (some ⟨g4, 0, none⟩) 10 c4)).setCell ⟨kb, 5, none⟩ (.slice (some ⟨g5, 0, none⟩) S c5)).setCell ⟨rb, 0, none⟩ u0).setCell ⟨rb, 1, none⟩ u1).setCell ⟨rb, 2, none⟩ u2).setCell ⟨rb, 3, none⟩ u3).setCell ⟨rb, 4, none⟩ u4).setCell ⟨rb, 5, none⟩ u5)) := fun u0 u1 u2 u3 u4 u5 => by
                rw [ERR.out]
                exact bd_end (s' := (s.setR r RD.any).fill rk j3) HKZ.out HN8.out HEW.out HEB.out HNR.out.2.2.2.1 _ _ _ _ _ _
              clear HKZ HK HN8 HN9 HEW HEB A0
              go_wp2
              exact bodyPost_ret (v := .tuple #[KV.v true (⟨⟨some ⟨g1, 0, none⟩, 10, c1⟩, ⟨some ⟨g2, 0, none⟩, 10, c2⟩, ⟨some ⟨g3, 0, none⟩, 10, c3⟩, ⟨some ⟨g4, 0, none⟩, 10, c4⟩, ⟨some ⟨g5, 0, none⟩, S, c5⟩⟩ : KV), .int .i64 0]) (by simp [results, Try.results14, go_sem, *]) rfl (HE.out _ _ _ _ _ _)
end Go.Proofs.Ytmohffibkpecpaa
