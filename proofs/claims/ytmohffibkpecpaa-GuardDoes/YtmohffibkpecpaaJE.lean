/- Texts of one chain, joined: HBdSet, HBdTail. -/
import Derived.Test.YtmohffibkpecpaaJC
namespace Go.Proofs.Ytmohffibkpecpaa
open Go.RowKit

set_option maxHeartbeats 8000000 in
set_option maxRecDepth 20000 in
theorem kbeh_set (d : ProgD) (x : InsD) (S : Nat) (hS : S ≤ 96) (q : KV) (s : SD) (N : Nat → Nat) (w : World) {m i : Nat} (hd : d.lie w) (hx : GOk d.slots d.ts m i x) (hsl : d.slots = S) (h : KLie S q s N w) (hok : s.ok) (hop : x.op = 8) : Calls Try.prog 14 #[d.v, x.v, KV.v true q] w (BhIs S d.ts x s w) := by
  obtain ⟨W4, hW4⟩ : ∃ W, W = (((w.alloc (.cells #[.int .i64 d.slots, .slice d.tabs.a d.tabs.n d.tabs.c, .slice d.code.a d.code.n d.code.c] 25)).alloc (.cells #[.int .i64 x.op, .int .i64 x.r, .int .i64 x.s, .int .i64 x.k, .int .i64 x.to, .int .u64 x.n] 35)).alloc (.cells (kvA true q) 54)).alloc (.cells zeroK 54) := ⟨_, rfl⟩
  obtain ⟨pb, hpb⟩ : ∃ b, b = w.heap.size := ⟨_, rfl⟩
  obtain ⟨ib, hib⟩ : ∃ b, b = w.heap.size + 1 := ⟨_, rfl⟩
  obtain ⟨kb, hkb⟩ : ∃ b, b = w.heap.size + 1 + 1 := ⟨_, rfl⟩
  obtain ⟨rb, hrb⟩ : ∃ b, b = w.heap.size + 1 + 1 + 1 := ⟨_, rfl⟩
  have HA : Hid (BdAt w d x pb ib kb rb (kvA true q) W4) := by
    refine ⟨?_, ?_, ?_, ?_, ?_⟩
    · rw [hW4, hpb]; exact BoxC.step (boxc_new _ _ _ rfl) (bl_alloc (bl_alloc (bl_alloc (Below.refl _ _))))
    · rw [hW4, hib]; exact BoxC.step (boxc_new _ _ _ (by simp)) (bl_alloc (bl_alloc (Below.refl _ _)))
    · rw [hW4, hkb]; exact BoxC.step (boxc_new _ _ _ (by simp)) (bl_alloc (Below.refl _ _))
    · rw [hW4, hrb]; exact boxc_new _ _ _ (by simp)
    · rw [hW4]; exact bl_alloc (bl_alloc (bl_alloc (bl_alloc (Below.refl _ _))))
  have HKL := hid h
  have HNR : Hid (w.heap.size ≤ pb ∧ w.heap.size ≤ ib ∧ w.heap.size ≤ kb ∧ w.heap.size ≤ rb ∧ ¬ kb = rb ∧ ¬ rb = kb ∧ ¬ kb = ib ∧ ¬ kb = pb ∧ ¬ rb = ib ∧ ¬ rb = pb) := ⟨by omega, by omega, by omega, by omega, by omega, by omega, by omega, by omega, by omega, by omega⟩
  have HX := hid hx
  have HOK := hid hok
  have HD := hid hd
  have HND := hid (fun w => rneeds x hx.op w)
  have EW := hid hW4
  have EP := hid hpb
  have EI := hid hib
  have EK := hid hkb
  have ER := hid hrb
  have hin := needs_in hx.r hx.s
  have hln := needs_len x
  obtain ⟨l, hl⟩ : ∃ l, l = needsL x := ⟨_, rfl⟩
  rw [← hl] at HND hin hln
  have EL := hid hl
  have HIN := hid hin
  obtain ⟨n, hn⟩ : ∃ n, n = l.length := ⟨_, rfl⟩
  have ENL := hid hn
  obtain ⟨R, hR⟩ : ∃ R, R = BhIs S d.ts x s w := ⟨_, rfl⟩
  rw [← hR]
  have ERR := hid hR
  dsimp only [ProgD.v, InsD.v] at HND ⊢
  dsimp only [kvA, zeroK] at EW
  have HSL := hid hsl
  have HOP := hid hop
  clear hop
  clear hW4 hpb hib hkb hrb h hx hok hd hl hin hR hsl
  rw [← hn] at hln
  go_enter Try.func14, Try.ntmps14
  go_upto_region 1 with fail
  rw [← EW.out, ← ER.out, ← EK.out, ← EI.out, ← EP.out]
  clear EW ER EK EI EP
  have i0 : W4.cell? ⟨ib, 0, none⟩ = some (.int .i64 x.op) := HA.out.i.cell 0
  have i1 : W4.cell? ⟨ib, 1, none⟩ = some (.int .i64 x.r) := HA.out.i.cell 1
  have i2 : W4.cell? ⟨ib, 2, none⟩ = some (.int .i64 x.s) := HA.out.i.cell 2
  have i3 : W4.cell? ⟨ib, 3, none⟩ = some (.int .i64 x.k) := HA.out.i.cell 3
  have i4 : W4.cell? ⟨ib, 4, none⟩ = some (.int .i64 x.to) := HA.out.i.cell 4
  have i5 : W4.cell? ⟨ib, 5, none⟩ = some (.int .u64 x.n) := HA.out.i.cell 5
  have hil := HA.out.i.lt
  go_wp2_with fail
  refine (HND.out _).mono ?_
  rintro e w5 ⟨la, lc, rfl, hla, hb5⟩
  have HA5 := hid (HA.out.step hb5)
  have HLA := hid hla
  rw [← ENL.out]
  clear HND HA i0 i1 i2 i3 i4 i5 hil hla hb5 hn
  obtain ⟨g1, o1, e1, n1, c1⟩ := HKL.out.st.pos (by decide)
  have HC1 := hid c1
  have HKC : Hid (∀ w', BoxC w' kb (kvA true q) 54 → w'.cell? ⟨kb, 1, none⟩ = some (.slice (some ⟨g1, o1, none⟩) 10 q.st.c)) := fun w' hk => by
    have h1 : w'.cell? ⟨kb, 1, none⟩ = some (.slice q.st.a q.st.n q.st.c) := hk.cell 1
    rw [e1, n1] at h1
    exact h1
  clear e1 n1 c1
  go_upto_region 2 with fail
  go_wp2
  haveI inhB : ∀ w : World, Inhabited (BelowBy w) := fun w => ⟨⟨w, Below.refl _ _⟩⟩
  go_loopw [9] (fun v wr => ∃ j : Nat, j ≤ n ∧ v = .int .i64 j ∧ Hid (Below w5.heap.size w5 wr) ∧ Hid (∀ t z, t < j → l[t]? = some z → (s.reg z.toNat).set = true)) (fun v _ => n - (intOf v).toNat)
  case atStart => exact ⟨0, Nat.zero_le _, rfl, Below.refl _ _, fun t z ht => absurd ht (Nat.not_lt_zero _)⟩
  case round =>
    obtain ⟨j, hj, rfl, hb, HS⟩ := hrel
    have A := hid (HA5.out.step hb.out)
    by_cases hlt : j < n
    · have hji : (j : Int) < (n : Int) := by omega
      have hlj : l[j]? = some l[j] := List.getElem?_eq_getElem _
      generalize l[j]'(by have := ENL.out; omega) = z at *
      obtain ⟨g, eg, cz⟩ := HLA.out j z hlj
      have hz := HIN.out z (List.mem_of_getElem? hlj)
      obtain ⟨r, rfl⟩ : ∃ r : Nat, z = r := ⟨z.toNat, by omega⟩
      have hri : (r : Int) < 10 := hz.2
      have cz2 := cell_keep cz hb.out
      have k1 := HKC.out wr A.out.k
      have r1 := cell_keep (HC1.out r (by omega)) A.out.bel
      have lg : g < wr.heap.size := World.block_lt_of_cell? _ _ cz2
      have lk : kb < wr.heap.size := World.block_lt_of_cell? _ _ k1
      have lr : g1 < wr.heap.size := World.block_lt_of_cell? _ _ r1
      have cz' := cell_by cz2
      have k1' := cell_by k1
      have r1' := cell_by r1
      obtain ⟨X, hX⟩ : ∃ X, X = (s.reg r).set := ⟨_, rfl⟩
      rw [← hX] at r1 r1'
      have HLJ := hid hlj
      have EX := hid hX
      subst eg
      clear hlj hX cz hz
      go_wp2_with fail
      refine wp_region_quiet_below (by kernel_rfl) (by kernel_rfl) ?_
      repeat (go_big_quiet_step (fail))
      refine wpQuiet_nil ?_
      intro wq hw'
      obtain ⟨⟨_, hwq⟩, hw''⟩ := hw'
      subst hw''
      have AQ := hid (A.out.step hwq)
      have HBQ := hid (bl_step hb.out hwq)
      clear cz2 k1 r1 cz' k1' r1' lg lk lr hwq A hb
      cases X
      · have hrd : readyD s x = false := by
          cases e : readyD s x
          · rfl
          · have := needs_ready.2 e r (by rw [← EL.out]; exact List.mem_of_getElem? HLJ.out)
            rw [Int.toNat_natCast, ← EX.out] at this
            cases this
        have ewr : wrongD d.ts s x = 15 := by unfold wrongD; rw [if_pos hrd]
        have k0 : wq.cell? ⟨kb, 0, none⟩ = some (.bool true) := AQ.out.k.cell 0
        have k1 : wq.cell? ⟨kb, 1, none⟩ = some (.slice q.st.a q.st.n q.st.c) := AQ.out.k.cell 1
        have k2 : wq.cell? ⟨kb, 2, none⟩ = some (.slice q.ju.a q.ju.n q.ju.c) := AQ.out.k.cell 2
        have k3 : wq.cell? ⟨kb, 3, none⟩ = some (.slice q.nu.a q.nu.n q.nu.c) := AQ.out.k.cell 3
        have k4 : wq.cell? ⟨kb, 4, none⟩ = some (.slice q.ro.a q.ro.n q.ro.c) := AQ.out.k.cell 4
        have k5 : wq.cell? ⟨kb, 5, none⟩ = some (.slice q.sl.a q.sl.n q.sl.c) := AQ.out.k.cell 5
        have x0 : wq.cell? ⟨rb, 0, none⟩ = some (.bool false) := AQ.out.r.cell 0
        have x1 : wq.cell? ⟨rb, 1, none⟩ = some (.slice none 0 0) := AQ.out.r.cell 1
        have x2 : wq.cell? ⟨rb, 2, none⟩ = some (.slice none 0 0) := AQ.out.r.cell 2
        have x3 : wq.cell? ⟨rb, 3, none⟩ = some (.slice none 0 0) := AQ.out.r.cell 3
        have x4 : wq.cell? ⟨rb, 4, none⟩ = some (.slice none 0 0) := AQ.out.r.cell 4
        have x5 : wq.cell? ⟨rb, 5, none⟩ = some (.slice none 0 0) := AQ.out.r.cell 5
        have z0 := AQ.out.r.fz 0
        have z1 := AQ.out.r.fz 1
        have z2 := AQ.out.r.fz 2
        have z3 := AQ.out.r.fz 3
        have z4 := AQ.out.r.fz 4
        have z5 := AQ.out.r.fz 5
        have hlr := AQ.out.r.lt
        have hlk := AQ.out.k.lt
        have hn1 := HNR.out.2.2.2.2.1
        have hn2 := HNR.out.2.2.2.2.2.1
        have HE : Hid (∀ u0 u1 u2 u3 u4 u5, R (.returned (.tuple #[KV.v true q, .int .i64 15])) ((((((wq.setCell ⟨rb, 0, none⟩ u0).setCell ⟨rb, 1, none⟩ u1).setCell ⟨rb, 2, none⟩ u2).setCell ⟨rb, 3, none⟩ u3).setCell ⟨rb, 4, none⟩ u4).setCell ⟨rb, 5, none⟩ u5)) := fun u0 u1 u2 u3 u4 u5 => by
          have hw := HNR.out.2.2.2.1
          rw [ERR.out]
          exact ⟨q, N, by rw [ewr], fun e0 => absurd (ewr.symm.trans e0) (by decide), hput1 (hput1 (hput1 (hput1 (hput1 (hput1 AQ.out.bel hw _ _) hw _ _) hw _ _) hw _ _) hw _ _) hw _ _⟩
        clear AQ HBQ HS hrd ewr HLJ EX ERR HX HOK HD HKL
        go_wp2
        exact bodyPost_ret (v := .tuple #[KV.v true q, .int .i64 15]) (by simp [results, Try.results14, go_sem, *]) rfl (HE.out _ _ _ _ _ _)
      · have HS2 : Hid (∀ t z, t < j + 1 → l[t]? = some z → (s.reg z.toNat).set = true) := fun t z ht hz => by
          rcases Nat.lt_or_ge t j with h | h
          · exact HS.out t z h hz
          · obtain rfl : t = j := by omega
            rw [HLJ.out] at hz
            cases hz
            rw [Int.toNat_natCast]
            exact EX.out.symm
        clear AQ HS HLJ EX
        go_wp2
        go_roundw
        case rel => exact ⟨j + 1, by omega, by go_num, HBQ, HS2⟩
        case measure => simp [intOf]; omega
    · have hji : ¬ (j : Int) < (n : Int) := by omega
      have HRD : Hid (readyD s x = true) := needs_ready.1 fun z hz => by
        rw [← EL.out] at hz
        obtain ⟨t, ht, rfl⟩ := List.getElem_of_mem hz
        exact HS.out t _ (by have := ENL.out; omega) (List.getElem?_eq_getElem ht)
      have k0 : wr.cell? ⟨kb, 0, none⟩ = some (.bool true) := A.out.k.cell 0
      have k1 : wr.cell? ⟨kb, 1, none⟩ = some (.slice q.st.a q.st.n q.st.c) := A.out.k.cell 1
      have k2 : wr.cell? ⟨kb, 2, none⟩ = some (.slice q.ju.a q.ju.n q.ju.c) := A.out.k.cell 2
      have k3 : wr.cell? ⟨kb, 3, none⟩ = some (.slice q.nu.a q.nu.n q.nu.c) := A.out.k.cell 3
      have k4 : wr.cell? ⟨kb, 4, none⟩ = some (.slice q.ro.a q.ro.n q.ro.c) := A.out.k.cell 4
      have k5 : wr.cell? ⟨kb, 5, none⟩ = some (.slice q.sl.a q.sl.n q.sl.c) := A.out.k.cell 5
      have hlk := A.out.k.lt
      have HO := hid (kown S hS true q s N wr (HKL.out.step A.out.bel))
      dsimp only [KV.v] at HO
      clear HS HC1 HKC HIN EL HLA hb HA5
      go_wp2_with fail
      refine HO.out.mono ?_
      rintro e w6 ⟨q2, rfl, hk6, hb6⟩
      have A6 := hid (A.out.step hb6)
      have HK6 := hid hk6
      have HAR := A
      have HB6 := hid hb6
      clear HO A hk6 hb6 k0 k1 k2 k3 k4 k5 hlk hji
      have y0 : w6.cell? ⟨kb, 0, none⟩ = some (.bool true) := A6.out.k.cell 0
      have y1 : w6.cell? ⟨kb, 1, none⟩ = some (.slice q.st.a q.st.n q.st.c) := A6.out.k.cell 1
      have y2 : w6.cell? ⟨kb, 2, none⟩ = some (.slice q.ju.a q.ju.n q.ju.c) := A6.out.k.cell 2
      have y3 : w6.cell? ⟨kb, 3, none⟩ = some (.slice q.nu.a q.nu.n q.nu.c) := A6.out.k.cell 3
      have y4 : w6.cell? ⟨kb, 4, none⟩ = some (.slice q.ro.a q.ro.n q.ro.c) := A6.out.k.cell 4
      have y5 : w6.cell? ⟨kb, 5, none⟩ = some (.slice q.sl.a q.sl.n q.sl.c) := A6.out.k.cell 5
      have z0 := A6.out.k.fz 0
      have z1 := A6.out.k.fz 1
      have z2 := A6.out.k.fz 2
      have z3 := A6.out.k.fz 3
      have z4 := A6.out.k.fz 4
      have z5 := A6.out.k.fz 5
      have hlk := A6.out.k.lt
      obtain ⟨W7, hW7⟩ : ∃ W, W = (((((w6.setCell ⟨kb, 0, none⟩ (.bool true)).setCell ⟨kb, 1, none⟩ (.slice q2.st.a q2.st.n q2.st.c)).setCell ⟨kb, 2, none⟩ (.slice q2.ju.a q2.ju.n q2.ju.c)).setCell ⟨kb, 3, none⟩ (.slice q2.nu.a q2.nu.n q2.nu.c)).setCell ⟨kb, 4, none⟩ (.slice q2.ro.a q2.ro.n q2.ro.c)).setCell ⟨kb, 5, none⟩ (.slice q2.sl.a q2.sl.n q2.sl.c) := ⟨_, rfl⟩
      obtain ⟨W0, hW0⟩ : ∃ W, W = (((((wr.setCell ⟨kb, 0, none⟩ (.bool true)).setCell ⟨kb, 1, none⟩ (.slice q2.st.a q2.st.n q2.st.c)).setCell ⟨kb, 2, none⟩ (.slice q2.ju.a q2.ju.n q2.ju.c)).setCell ⟨kb, 3, none⟩ (.slice q2.nu.a q2.nu.n q2.nu.c)).setCell ⟨kb, 4, none⟩ (.slice q2.ro.a q2.ro.n q2.ro.c)).setCell ⟨kb, 5, none⟩ (.slice q2.sl.a q2.sl.n q2.sl.c) := ⟨_, rfl⟩
      have A0 : Hid (BdAt w d x pb ib kb rb (kvA true q2) W0) := by
        have hn := HNR.out
        have hw := hn.2.2.1
        rw [hW0]
        exact ⟨(((((HAR.out.p.far hn.2.2.2.2.2.2.2.1 _ _).far hn.2.2.2.2.2.2.2.1 _ _).far hn.2.2.2.2.2.2.2.1 _ _).far hn.2.2.2.2.2.2.2.1 _ _).far hn.2.2.2.2.2.2.2.1 _ _).far hn.2.2.2.2.2.2.2.1 _ _, (((((HAR.out.i.far hn.2.2.2.2.2.2.1 _ _).far hn.2.2.2.2.2.2.1 _ _).far hn.2.2.2.2.2.2.1 _ _).far hn.2.2.2.2.2.2.1 _ _).far hn.2.2.2.2.2.2.1 _ _).far hn.2.2.2.2.2.2.1 _ _, (((((HAR.out.k.put 0 _).put 1 _).put 2 _).put 3 _).put 4 _).put 5 _, (((((HAR.out.r.far hn.2.2.2.2.1 _ _).far hn.2.2.2.2.1 _ _).far hn.2.2.2.2.1 _ _).far hn.2.2.2.2.1 _ _).far hn.2.2.2.2.1 _ _).far hn.2.2.2.2.1 _ _, hput1 (hput1 (hput1 (hput1 (hput1 (hput1 HAR.out.bel hw _ _) hw _ _) hw _ _) hw _ _) hw _ _) hw _ _⟩
      have HB7 : Hid (Below W0.heap.size W0 W7) := by
        rw [hW7, hW0]
        exact bl_both (bl_both (bl_both (bl_both (bl_both (bl_both HB6.out _ _) _ _) _ _) _ _) _ _) _ _
      have hsz : W0.heap.size = wr.heap.size := by rw [hW0]; simp [World.setCell]
      have HK8 : Hid (KOwn W0.heap.size S q2 s N W7) := by
        rw [hW7, hsz]
        have c0 := A6.out.k
        have c1 := c0.put 0 (.bool true)
        have c2 := c1.put 1 (.slice q2.st.a q2.st.n q2.st.c)
        have c3 := c2.put 2 (.slice q2.ju.a q2.ju.n q2.ju.c)
        have c4 := c3.put 3 (.slice q2.nu.a q2.nu.n q2.nu.c)
        have c5 := c4.put 4 (.slice q2.ro.a q2.ro.n q2.ro.c)
        exact ⟨(((((HK6.out.1.off c0 _ _).off c1 _ _).off c2 _ _).off c3 _ _).off c4 _ _).off c5 _ _, HK6.out.2⟩
      have HLO : Hid (w.heap.size ≤ W0.heap.size) := A0.out.bel.size
      have HK7 := hid (HK8.out.low HLO.out)
      have A7 := hid (A0.out.step HB7.out)
      have E7 := hid hW7
      clear hW7 hW0 hsz A6 HK6 HAR HB6 HKL
      go_upto_region 8 with fail
      rw [← E7.out]
      clear E7 y0 y1 y2 y3 y4 y5 z0 z1 z2 z3 z4 z5 hlk
      have i0 : W7.cell? ⟨ib, 0, none⟩ = some (.int .i64 x.op) := A7.out.i.cell 0
      have hil := A7.out.i.lt
      have hop := HOP.out
      obtain ⟨nn, hnn⟩ : ∃ r : Nat, x.n = r := ⟨x.n.toNat, by have := HX.out.n; omega⟩
      have hnS : nn < S := by have := HX.out.slot (by omega); have := HSL.out; omega
      have hni : (nn : Int) < (S : Int) := by omega
      have i5 : W7.cell? ⟨ib, 5, none⟩ = some (.int .u64 (nn : Int)) := by rw [← hnn]; exact A7.out.i.cell 5
      obtain ⟨g5, e5, b5, _⟩ := HK8.out.1.sl.block (by omega)
      have HS5 : Hid (q2.sl.a = some ⟨g5, 0, none⟩ ∧ q2.sl.n = S) := ⟨e5, HK8.out.1.sl.1⟩
      have hsg := HK8.out.1.sl.at e5 hnS
      obtain ⟨b, hb0⟩ : ∃ b, b = s.slot nn := ⟨_, rfl⟩
      have m5 : W7.cell? ⟨g5, nn, none⟩ = some (.bool b) := by rw [hb0]; exact hsg.1
      have l5 : g5 < W7.heap.size := hsg.2.2
      have f5 : W7.frozen? ⟨g5, nn, none⟩ = false := hsg.2.1
      have hng : ¬ g5 = kb ∧ ¬ g5 = rb ∧ ¬ kb = g5 ∧ ¬ rb = g5 ∧ w.heap.size ≤ g5 := by
        have h1 := (HK8.out.1.lo g5 (.inr (.inr (.inr (.inr b5))))).1
        have h2 := A0.out.k.lt
        have h3 := A0.out.r.lt
        have h4 := HLO.out
        omega
      have ev : KV.v true q2 = .agg #[.bool true, .slice q2.st.a q2.st.n q2.st.c, .slice q2.ju.a q2.ju.n q2.ju.c, .slice q2.nu.a q2.nu.n q2.nu.c, .slice q2.ro.a q2.ro.n q2.ro.c, .slice (some ⟨g5, 0, none⟩) S q2.sl.c] := by
        unfold KV.v
        rw [HS5.out.1, HS5.out.2]
      have k0 : W7.cell? ⟨kb, 0, none⟩ = some (.bool true) := A7.out.k.cell 0
      have k1 : W7.cell? ⟨kb, 1, none⟩ = some (.slice q2.st.a q2.st.n q2.st.c) := A7.out.k.cell 1
      have k2 : W7.cell? ⟨kb, 2, none⟩ = some (.slice q2.ju.a q2.ju.n q2.ju.c) := A7.out.k.cell 2
      have k3 : W7.cell? ⟨kb, 3, none⟩ = some (.slice q2.nu.a q2.nu.n q2.nu.c) := A7.out.k.cell 3
      have k4 : W7.cell? ⟨kb, 4, none⟩ = some (.slice q2.ro.a q2.ro.n q2.ro.c) := A7.out.k.cell 4
      have k5 : W7.cell? ⟨kb, 5, none⟩ = some (.slice (some ⟨g5, 0, none⟩) S q2.sl.c) := by
        have h5 : W7.cell? ⟨kb, 5, none⟩ = some (.slice q2.sl.a q2.sl.n q2.sl.c) := A7.out.k.cell 5
        rw [HS5.out.1, HS5.out.2] at h5
        exact h5
      have x0 : W7.cell? ⟨rb, 0, none⟩ = some (.bool false) := A7.out.r.cell 0
      have x1 : W7.cell? ⟨rb, 1, none⟩ = some (.slice none 0 0) := A7.out.r.cell 1
      have x2 : W7.cell? ⟨rb, 2, none⟩ = some (.slice none 0 0) := A7.out.r.cell 2
      have x3 : W7.cell? ⟨rb, 3, none⟩ = some (.slice none 0 0) := A7.out.r.cell 3
      have x4 : W7.cell? ⟨rb, 4, none⟩ = some (.slice none 0 0) := A7.out.r.cell 4
      have x5 : W7.cell? ⟨rb, 5, none⟩ = some (.slice none 0 0) := A7.out.r.cell 5
      have z0 := A7.out.r.fz 0
      have z1 := A7.out.r.fz 1
      have z2 := A7.out.r.fz 2
      have z3 := A7.out.r.fz 3
      have z4 := A7.out.r.fz 4
      have z5 := A7.out.r.fz 5
      have hlr := A7.out.r.lt
      have hlk := A7.out.k.lt
      have hn1 := HNR.out.2.2.2.2.1
      have hn2 := HNR.out.2.2.2.2.2.1
      have HE : Hid (∀ u0 u1 u2 u3 u4 u5, R (.returned (.tuple #[.agg #[.bool true, .slice q2.st.a q2.st.n q2.st.c, .slice q2.ju.a q2.ju.n q2.ju.c, .slice q2.nu.a q2.nu.n q2.nu.c, .slice q2.ro.a q2.ro.n q2.ro.c, .slice (some ⟨g5, 0, none⟩) S q2.sl.c], .int .i64 0])) ((((((((W7.setCell ⟨g5, nn, none⟩ (.bool true))).setCell ⟨rb, 0, none⟩ u0).setCell ⟨rb, 1, none⟩ u1).setCell ⟨rb, 2, none⟩ u2).setCell ⟨rb, 3, none⟩ u3).setCell ⟨rb, 4, none⟩ u4).setCell ⟨rb, 5, none⟩ u5)) := fun u0 u1 u2 u3 u4 u5 => by
        have hw := HNR.out.2.2.2.1
        have ewr : wrongD d.ts s x = 0 := by
          have ha : askedD d.ts s x = true := by
            unfold askedD
            rw [if_neg (by omega), if_neg (by omega)]
          unfold wrongD
          rw [if_neg (by rw [HRD.out]; decide), if_neg (by omega), if_neg (by omega), if_neg (by rw [ha]; decide)]
        have ebh : bhD d.ts s x = s.fill nn 1 := by
          unfold bhD behindD
          rw [if_neg (by omega), if_neg (by omega), if_neg (by omega), if_neg (by omega), if_neg (by omega), if_pos hop, hnn, Int.toNat_natCast]
        have hkp : KOwn w.heap.size S q2 (s.fill nn 1) N (W7.setCell ⟨g5, nn, none⟩ (.bool true)) := ⟨(HK7.out.1.putL e5 hnS true).congr (fun _ => rfl) (fun _ => rfl) (fun _ => rfl) (fun j => by
          show (if j = nn then true else s.slot j) = (s.slot j || (decide (nn ≤ j) && decide (j < nn + 1)))
          by_cases e : j = nn
          · rw [if_pos e, e]; simp
          · rw [if_neg e]
            have : (decide (nn ≤ j) && decide (j < nn + 1)) = false := by
              rw [Bool.and_eq_false_iff, decide_eq_false_iff_not, decide_eq_false_iff_not]
              omega
            rw [this, Bool.or_false]), HK7.out.2⟩
        have c0 := A7.out.r.far hng.2.1 nn (.bool true)
        have c1 := c0.put 0 u0
        have c2 := c1.put 1 u1
        have c3 := c2.put 2 u2
        have c4 := c3.put 3 u3
        have c5 := c4.put 4 u4
        rw [ERR.out, ← ev]
        exact ⟨q2, N, by rw [ewr], fun _ => by rw [ebh]; exact ⟨(((((hkp.1.off c0 _ _).off c1 _ _).off c2 _ _).off c3 _ _).off c4 _ _).off c5 _ _, hkp.2⟩, hput1 (hput1 (hput1 (hput1 (hput1 (hput1 (hput1 A7.out.bel hng.2.2.2.2 _ _) hw _ _) hw _ _) hw _ _) hw _ _) hw _ _) hw _ _⟩
      rw [hop] at i0
      obtain ⟨hg1, hg2, hg3, hg4, _⟩ := hng
      clear A7 HK7 HK8 HB7 A0 HLO HRD ERR HX HOK HD hop HOP hnn hsg ev e5 b5 hb0 HS5
      go_wp2
      exact bodyPost_ret (v := .tuple #[.agg #[.bool true, .slice q2.st.a q2.st.n q2.st.c, .slice q2.ju.a q2.ju.n q2.ju.c, .slice q2.nu.a q2.nu.n q2.nu.c, .slice q2.ro.a q2.ro.n q2.ro.c, .slice (some ⟨g5, 0, none⟩) S q2.sl.c], .int .i64 0]) (by simp [results, Try.results14, go_sem, *]) rfl (HE.out _ _ _ _ _ _)
end Go.Proofs.Ytmohffibkpecpaa

namespace Go.Proofs.Ytmohffibkpecpaa
open Go.RowKit

theorem has_neg (r : RD) : r.has 0 = false ↔ roomZ r.room < 0 := by
  unfold RD.has roomZ
  cases r.room <;> simp

set_option maxHeartbeats 8000000 in
set_option maxRecDepth 20000 in
theorem kbeh_tail (d : ProgD) (x : InsD) (S : Nat) (hS : S ≤ 96) (q : KV) (s : SD) (N : Nat → Nat) (w : World) {m i : Nat} (hd : d.lie w) (hx : GOk d.slots d.ts m i x) (hsl : d.slots = S) (h : KLie S q s N w) (hok : s.ok) (hop : x.op = 15) : Calls Try.prog 14 #[d.v, x.v, KV.v true q] w (BhIs S d.ts x s w) := by
  obtain ⟨W4, hW4⟩ : ∃ W, W = (((w.alloc (.cells #[.int .i64 d.slots, .slice d.tabs.a d.tabs.n d.tabs.c, .slice d.code.a d.code.n d.code.c] 25)).alloc (.cells #[.int .i64 x.op, .int .i64 x.r, .int .i64 x.s, .int .i64 x.k, .int .i64 x.to, .int .u64 x.n] 35)).alloc (.cells (kvA true q) 54)).alloc (.cells zeroK 54) := ⟨_, rfl⟩
  obtain ⟨pb, hpb⟩ : ∃ b, b = w.heap.size := ⟨_, rfl⟩
  obtain ⟨ib, hib⟩ : ∃ b, b = w.heap.size + 1 := ⟨_, rfl⟩
  obtain ⟨kb, hkb⟩ : ∃ b, b = w.heap.size + 1 + 1 := ⟨_, rfl⟩
  obtain ⟨rb, hrb⟩ : ∃ b, b = w.heap.size + 1 + 1 + 1 := ⟨_, rfl⟩
  have HA : Hid (BdAt w d x pb ib kb rb (kvA true q) W4) := by
    refine ⟨?_, ?_, ?_, ?_, ?_⟩
    · rw [hW4, hpb]; exact BoxC.step (boxc_new _ _ _ rfl) (bl_alloc (bl_alloc (bl_alloc (Below.refl _ _))))
    · rw [hW4, hib]; exact BoxC.step (boxc_new _ _ _ (by simp)) (bl_alloc (bl_alloc (Below.refl _ _)))
    · rw [hW4, hkb]; exact BoxC.step (boxc_new _ _ _ (by simp)) (bl_alloc (Below.refl _ _))
    · rw [hW4, hrb]; exact boxc_new _ _ _ (by simp)
    · rw [hW4]; exact bl_alloc (bl_alloc (bl_alloc (bl_alloc (Below.refl _ _))))
  have HKL := hid h
  have HNR : Hid (w.heap.size ≤ pb ∧ w.heap.size ≤ ib ∧ w.heap.size ≤ kb ∧ w.heap.size ≤ rb ∧ ¬ kb = rb ∧ ¬ rb = kb ∧ ¬ kb = ib ∧ ¬ kb = pb ∧ ¬ rb = ib ∧ ¬ rb = pb) := ⟨by omega, by omega, by omega, by omega, by omega, by omega, by omega, by omega, by omega, by omega⟩
  have HX := hid hx
  have HOK := hid hok
  have HD := hid hd
  have HND := hid (fun w => rneeds x hx.op w)
  have EW := hid hW4
  have EP := hid hpb
  have EI := hid hib
  have EK := hid hkb
  have ER := hid hrb
  have hin := needs_in hx.r hx.s
  have hln := needs_len x
  obtain ⟨l, hl⟩ : ∃ l, l = needsL x := ⟨_, rfl⟩
  rw [← hl] at HND hin hln
  have EL := hid hl
  have HIN := hid hin
  obtain ⟨n, hn⟩ : ∃ n, n = l.length := ⟨_, rfl⟩
  have ENL := hid hn
  obtain ⟨R, hR⟩ : ∃ R, R = BhIs S d.ts x s w := ⟨_, rfl⟩
  rw [← hR]
  have ERR := hid hR
  dsimp only [ProgD.v, InsD.v] at HND ⊢
  dsimp only [kvA, zeroK] at EW
  have HSL := hid hsl
  have HOP := hid hop
  clear hop
  clear hW4 hpb hib hkb hrb h hx hok hd hl hin hR hsl
  rw [← hn] at hln
  go_enter Try.func14, Try.ntmps14
  go_upto_region 1 with fail
  rw [← EW.out, ← ER.out, ← EK.out, ← EI.out, ← EP.out]
  clear EW ER EK EI EP
  have i0 : W4.cell? ⟨ib, 0, none⟩ = some (.int .i64 x.op) := HA.out.i.cell 0
  have i1 : W4.cell? ⟨ib, 1, none⟩ = some (.int .i64 x.r) := HA.out.i.cell 1
  have i2 : W4.cell? ⟨ib, 2, none⟩ = some (.int .i64 x.s) := HA.out.i.cell 2
  have i3 : W4.cell? ⟨ib, 3, none⟩ = some (.int .i64 x.k) := HA.out.i.cell 3
  have i4 : W4.cell? ⟨ib, 4, none⟩ = some (.int .i64 x.to) := HA.out.i.cell 4
  have i5 : W4.cell? ⟨ib, 5, none⟩ = some (.int .u64 x.n) := HA.out.i.cell 5
  have hil := HA.out.i.lt
  go_wp2_with fail
  refine (HND.out _).mono ?_
  rintro e w5 ⟨la, lc, rfl, hla, hb5⟩
  have HA5 := hid (HA.out.step hb5)
  have HLA := hid hla
  rw [← ENL.out]
  clear HND HA i0 i1 i2 i3 i4 i5 hil hla hb5 hn
  obtain ⟨g1, o1, e1, n1, c1⟩ := HKL.out.st.pos (by decide)
  have HC1 := hid c1
  have HKC : Hid (∀ w', BoxC w' kb (kvA true q) 54 → w'.cell? ⟨kb, 1, none⟩ = some (.slice (some ⟨g1, o1, none⟩) 10 q.st.c)) := fun w' hk => by
    have h1 : w'.cell? ⟨kb, 1, none⟩ = some (.slice q.st.a q.st.n q.st.c) := hk.cell 1
    rw [e1, n1] at h1
    exact h1
  clear e1 n1 c1
  go_upto_region 2 with fail
  go_wp2
  haveI inhB : ∀ w : World, Inhabited (BelowBy w) := fun w => ⟨⟨w, Below.refl _ _⟩⟩
  go_loopw [9] (fun v wr => ∃ j : Nat, j ≤ n ∧ v = .int .i64 j ∧ Hid (Below w5.heap.size w5 wr) ∧ Hid (∀ t z, t < j → l[t]? = some z → (s.reg z.toNat).set = true)) (fun v _ => n - (intOf v).toNat)
  case atStart => exact ⟨0, Nat.zero_le _, rfl, Below.refl _ _, fun t z ht => absurd ht (Nat.not_lt_zero _)⟩
  case round =>
    obtain ⟨j, hj, rfl, hb, HS⟩ := hrel
    have A := hid (HA5.out.step hb.out)
    by_cases hlt : j < n
    · have hji : (j : Int) < (n : Int) := by omega
      have hlj : l[j]? = some l[j] := List.getElem?_eq_getElem _
      generalize l[j]'(by have := ENL.out; omega) = z at *
      obtain ⟨g, eg, cz⟩ := HLA.out j z hlj
      have hz := HIN.out z (List.mem_of_getElem? hlj)
      obtain ⟨r, rfl⟩ : ∃ r : Nat, z = r := ⟨z.toNat, by omega⟩
      have hri : (r : Int) < 10 := hz.2
      have cz2 := cell_keep cz hb.out
      have k1 := HKC.out wr A.out.k
      have r1 := cell_keep (HC1.out r (by omega)) A.out.bel
      have lg : g < wr.heap.size := World.block_lt_of_cell? _ _ cz2
      have lk : kb < wr.heap.size := World.block_lt_of_cell? _ _ k1
      have lr : g1 < wr.heap.size := World.block_lt_of_cell? _ _ r1
      have cz' := cell_by cz2
      have k1' := cell_by k1
      have r1' := cell_by r1
      obtain ⟨X, hX⟩ : ∃ X, X = (s.reg r).set := ⟨_, rfl⟩
      rw [← hX] at r1 r1'
      have HLJ := hid hlj
      have EX := hid hX
      subst eg
      clear hlj hX cz hz
      go_wp2_with fail
      refine wp_region_quiet_below (by kernel_rfl) (by kernel_rfl) ?_
      repeat (go_big_quiet_step (fail))
      refine wpQuiet_nil ?_
      intro wq hw'
      obtain ⟨⟨_, hwq⟩, hw''⟩ := hw'
      subst hw''
      have AQ := hid (A.out.step hwq)
      have HBQ := hid (bl_step hb.out hwq)
      clear cz2 k1 r1 cz' k1' r1' lg lk lr hwq A hb
      cases X
      · have hrd : readyD s x = false := by
          cases e : readyD s x
          · rfl
          · have := needs_ready.2 e r (by rw [← EL.out]; exact List.mem_of_getElem? HLJ.out)
            rw [Int.toNat_natCast, ← EX.out] at this
            cases this
        have ewr : wrongD d.ts s x = 15 := by unfold wrongD; rw [if_pos hrd]
        have k0 : wq.cell? ⟨kb, 0, none⟩ = some (.bool true) := AQ.out.k.cell 0
        have k1 : wq.cell? ⟨kb, 1, none⟩ = some (.slice q.st.a q.st.n q.st.c) := AQ.out.k.cell 1
        have k2 : wq.cell? ⟨kb, 2, none⟩ = some (.slice q.ju.a q.ju.n q.ju.c) := AQ.out.k.cell 2
        have k3 : wq.cell? ⟨kb, 3, none⟩ = some (.slice q.nu.a q.nu.n q.nu.c) := AQ.out.k.cell 3
        have k4 : wq.cell? ⟨kb, 4, none⟩ = some (.slice q.ro.a q.ro.n q.ro.c) := AQ.out.k.cell 4
        have k5 : wq.cell? ⟨kb, 5, none⟩ = some (.slice q.sl.a q.sl.n q.sl.c) := AQ.out.k.cell 5
        have x0 : wq.cell? ⟨rb, 0, none⟩ = some (.bool false) := AQ.out.r.cell 0
        have x1 : wq.cell? ⟨rb, 1, none⟩ = some (.slice none 0 0) := AQ.out.r.cell 1
        have x2 : wq.cell? ⟨rb, 2, none⟩ = some (.slice none 0 0) := AQ.out.r.cell 2
        have x3 : wq.cell? ⟨rb, 3, none⟩ = some (.slice none 0 0) := AQ.out.r.cell 3
        have x4 : wq.cell? ⟨rb, 4, none⟩ = some (.slice none 0 0) := AQ.out.r.cell 4
        have x5 : wq.cell? ⟨rb, 5, none⟩ = some (.slice none 0 0) := AQ.out.r.cell 5
        have z0 := AQ.out.r.fz 0
        have z1 := AQ.out.r.fz 1
        have z2 := AQ.out.r.fz 2
        have z3 := AQ.out.r.fz 3
        have z4 := AQ.out.r.fz 4
        have z5 := AQ.out.r.fz 5
        have hlr := AQ.out.r.lt
        have hlk := AQ.out.k.lt
        have hn1 := HNR.out.2.2.2.2.1
        have hn2 := HNR.out.2.2.2.2.2.1
        have HE : Hid (∀ u0 u1 u2 u3 u4 u5, R (.returned (.tuple #[KV.v true q, .int .i64 15])) ((((((wq.setCell ⟨rb, 0, none⟩ u0).setCell ⟨rb, 1, none⟩ u1).setCell ⟨rb, 2, none⟩ u2).setCell ⟨rb, 3, none⟩ u3).setCell ⟨rb, 4, none⟩ u4).setCell ⟨rb, 5, none⟩ u5)) := fun u0 u1 u2 u3 u4 u5 => by
          have hw := HNR.out.2.2.2.1
          rw [ERR.out]
          exact ⟨q, N, by rw [ewr], fun e0 => absurd (ewr.symm.trans e0) (by decide), hput1 (hput1 (hput1 (hput1 (hput1 (hput1 AQ.out.bel hw _ _) hw _ _) hw _ _) hw _ _) hw _ _) hw _ _⟩
        clear AQ HBQ HS hrd ewr HLJ EX ERR HX HOK HD HKL
        go_wp2
        exact bodyPost_ret (v := .tuple #[KV.v true q, .int .i64 15]) (by simp [results, Try.results14, go_sem, *]) rfl (HE.out _ _ _ _ _ _)
      · have HS2 : Hid (∀ t z, t < j + 1 → l[t]? = some z → (s.reg z.toNat).set = true) := fun t z ht hz => by
          rcases Nat.lt_or_ge t j with h | h
          · exact HS.out t z h hz
          · obtain rfl : t = j := by omega
            rw [HLJ.out] at hz
            cases hz
            rw [Int.toNat_natCast]
            exact EX.out.symm
        clear AQ HS HLJ EX
        go_wp2
        go_roundw
        case rel => exact ⟨j + 1, by omega, by go_num, HBQ, HS2⟩
        case measure => simp [intOf]; omega
    · have hji : ¬ (j : Int) < (n : Int) := by omega
      have HRD : Hid (readyD s x = true) := needs_ready.1 fun z hz => by
        rw [← EL.out] at hz
        obtain ⟨t, ht, rfl⟩ := List.getElem_of_mem hz
        exact HS.out t _ (by have := ENL.out; omega) (List.getElem?_eq_getElem ht)
      have k0 : wr.cell? ⟨kb, 0, none⟩ = some (.bool true) := A.out.k.cell 0
      have k1 : wr.cell? ⟨kb, 1, none⟩ = some (.slice q.st.a q.st.n q.st.c) := A.out.k.cell 1
      have k2 : wr.cell? ⟨kb, 2, none⟩ = some (.slice q.ju.a q.ju.n q.ju.c) := A.out.k.cell 2
      have k3 : wr.cell? ⟨kb, 3, none⟩ = some (.slice q.nu.a q.nu.n q.nu.c) := A.out.k.cell 3
      have k4 : wr.cell? ⟨kb, 4, none⟩ = some (.slice q.ro.a q.ro.n q.ro.c) := A.out.k.cell 4
      have k5 : wr.cell? ⟨kb, 5, none⟩ = some (.slice q.sl.a q.sl.n q.sl.c) := A.out.k.cell 5
      have hlk := A.out.k.lt
      have HO := hid (kown S hS true q s N wr (HKL.out.step A.out.bel))
      dsimp only [KV.v] at HO
      clear HS HC1 HKC HIN EL HLA hb HA5
      go_wp2_with fail
      refine HO.out.mono ?_
      rintro e w6 ⟨q2, rfl, hk6, hb6⟩
      have A6 := hid (A.out.step hb6)
      have HK6 := hid hk6
      have HAR := A
      have HB6 := hid hb6
      clear HO A hk6 hb6 k0 k1 k2 k3 k4 k5 hlk hji
      have y0 : w6.cell? ⟨kb, 0, none⟩ = some (.bool true) := A6.out.k.cell 0
      have y1 : w6.cell? ⟨kb, 1, none⟩ = some (.slice q.st.a q.st.n q.st.c) := A6.out.k.cell 1
      have y2 : w6.cell? ⟨kb, 2, none⟩ = some (.slice q.ju.a q.ju.n q.ju.c) := A6.out.k.cell 2
      have y3 : w6.cell? ⟨kb, 3, none⟩ = some (.slice q.nu.a q.nu.n q.nu.c) := A6.out.k.cell 3
      have y4 : w6.cell? ⟨kb, 4, none⟩ = some (.slice q.ro.a q.ro.n q.ro.c) := A6.out.k.cell 4
      have y5 : w6.cell? ⟨kb, 5, none⟩ = some (.slice q.sl.a q.sl.n q.sl.c) := A6.out.k.cell 5
      have z0 := A6.out.k.fz 0
      have z1 := A6.out.k.fz 1
      have z2 := A6.out.k.fz 2
      have z3 := A6.out.k.fz 3
      have z4 := A6.out.k.fz 4
      have z5 := A6.out.k.fz 5
      have hlk := A6.out.k.lt
      obtain ⟨W7, hW7⟩ : ∃ W, W = (((((w6.setCell ⟨kb, 0, none⟩ (.bool true)).setCell ⟨kb, 1, none⟩ (.slice q2.st.a q2.st.n q2.st.c)).setCell ⟨kb, 2, none⟩ (.slice q2.ju.a q2.ju.n q2.ju.c)).setCell ⟨kb, 3, none⟩ (.slice q2.nu.a q2.nu.n q2.nu.c)).setCell ⟨kb, 4, none⟩ (.slice q2.ro.a q2.ro.n q2.ro.c)).setCell ⟨kb, 5, none⟩ (.slice q2.sl.a q2.sl.n q2.sl.c) := ⟨_, rfl⟩
      obtain ⟨W0, hW0⟩ : ∃ W, W = (((((wr.setCell ⟨kb, 0, none⟩ (.bool true)).setCell ⟨kb, 1, none⟩ (.slice q2.st.a q2.st.n q2.st.c)).setCell ⟨kb, 2, none⟩ (.slice q2.ju.a q2.ju.n q2.ju.c)).setCell ⟨kb, 3, none⟩ (.slice q2.nu.a q2.nu.n q2.nu.c)).setCell ⟨kb, 4, none⟩ (.slice q2.ro.a q2.ro.n q2.ro.c)).setCell ⟨kb, 5, none⟩ (.slice q2.sl.a q2.sl.n q2.sl.c) := ⟨_, rfl⟩
      have A0 : Hid (BdAt w d x pb ib kb rb (kvA true q2) W0) := by
        have hn := HNR.out
        have hw := hn.2.2.1
        rw [hW0]
        exact ⟨(((((HAR.out.p.far hn.2.2.2.2.2.2.2.1 _ _).far hn.2.2.2.2.2.2.2.1 _ _).far hn.2.2.2.2.2.2.2.1 _ _).far hn.2.2.2.2.2.2.2.1 _ _).far hn.2.2.2.2.2.2.2.1 _ _).far hn.2.2.2.2.2.2.2.1 _ _, (((((HAR.out.i.far hn.2.2.2.2.2.2.1 _ _).far hn.2.2.2.2.2.2.1 _ _).far hn.2.2.2.2.2.2.1 _ _).far hn.2.2.2.2.2.2.1 _ _).far hn.2.2.2.2.2.2.1 _ _).far hn.2.2.2.2.2.2.1 _ _, (((((HAR.out.k.put 0 _).put 1 _).put 2 _).put 3 _).put 4 _).put 5 _, (((((HAR.out.r.far hn.2.2.2.2.1 _ _).far hn.2.2.2.2.1 _ _).far hn.2.2.2.2.1 _ _).far hn.2.2.2.2.1 _ _).far hn.2.2.2.2.1 _ _).far hn.2.2.2.2.1 _ _, hput1 (hput1 (hput1 (hput1 (hput1 (hput1 HAR.out.bel hw _ _) hw _ _) hw _ _) hw _ _) hw _ _) hw _ _⟩
      have HB7 : Hid (Below W0.heap.size W0 W7) := by
        rw [hW7, hW0]
        exact bl_both (bl_both (bl_both (bl_both (bl_both (bl_both HB6.out _ _) _ _) _ _) _ _) _ _) _ _
      have hsz : W0.heap.size = wr.heap.size := by rw [hW0]; simp [World.setCell]
      have HK8 : Hid (KOwn W0.heap.size S q2 s N W7) := by
        rw [hW7, hsz]
        have c0 := A6.out.k
        have c1 := c0.put 0 (.bool true)
        have c2 := c1.put 1 (.slice q2.st.a q2.st.n q2.st.c)
        have c3 := c2.put 2 (.slice q2.ju.a q2.ju.n q2.ju.c)
        have c4 := c3.put 3 (.slice q2.nu.a q2.nu.n q2.nu.c)
        have c5 := c4.put 4 (.slice q2.ro.a q2.ro.n q2.ro.c)
        exact ⟨(((((HK6.out.1.off c0 _ _).off c1 _ _).off c2 _ _).off c3 _ _).off c4 _ _).off c5 _ _, HK6.out.2⟩
      have HLO : Hid (w.heap.size ≤ W0.heap.size) := A0.out.bel.size
      have HK7 := hid (HK8.out.low HLO.out)
      have A7 := hid (A0.out.step HB7.out)
      have E7 := hid hW7
      clear hW7 hW0 hsz A6 HK6 HAR HB6 HKL
      go_upto_region 8 with fail
      rw [← E7.out]
      clear E7 y0 y1 y2 y3 y4 y5 z0 z1 z2 z3 z4 z5 hlk
      have i0 : W7.cell? ⟨ib, 0, none⟩ = some (.int .i64 x.op) := A7.out.i.cell 0
      have hil := A7.out.i.lt
      have hop := HOP.out
      obtain ⟨r, hr⟩ : ∃ r : Nat, x.r = r := ⟨x.r.toNat, by have := HX.out.r; omega⟩
      have hr10 : r < 10 := by have := HX.out.r; omega
      have hri : (r : Int) < 10 := by omega
      have i1 : W7.cell? ⟨ib, 1, none⟩ = some (.int .i64 (r : Int)) := by
        rw [← hr]
        exact A7.out.i.cell 1
      obtain ⟨g1, g2, g3, g4, ka⟩ := HK8.out.1.blocks
      have hrg := HK8.out.1.reg ka hr10
      obtain ⟨Z, hZ⟩ : ∃ Z, Z = roomZ (s.reg r).room := ⟨_, rfl⟩
      have m4 : W7.cell? ⟨g4, r, none⟩ = some (.int .i64 Z) := by rw [hZ]; exact hrg.c4
      have l4 : g4 < W7.heap.size := hrg.l4
      have k0 : W7.cell? ⟨kb, 0, none⟩ = some (.bool true) := A7.out.k.cell 0
      have k1 : W7.cell? ⟨kb, 1, none⟩ = some (.slice q2.st.a q2.st.n q2.st.c) := A7.out.k.cell 1
      have k2 : W7.cell? ⟨kb, 2, none⟩ = some (.slice q2.ju.a q2.ju.n q2.ju.c) := A7.out.k.cell 2
      have k3 : W7.cell? ⟨kb, 3, none⟩ = some (.slice q2.nu.a q2.nu.n q2.nu.c) := A7.out.k.cell 3
      have k4 : W7.cell? ⟨kb, 4, none⟩ = some (.slice (some ⟨g4, 0, none⟩) 10 q2.ro.c) := by
        have h4 : W7.cell? ⟨kb, 4, none⟩ = some (.slice q2.ro.a q2.ro.n q2.ro.c) := A7.out.k.cell 4
        rw [ka.e4, ka.n4] at h4
        exact h4
      have k5 : W7.cell? ⟨kb, 5, none⟩ = some (.slice q2.sl.a q2.sl.n q2.sl.c) := A7.out.k.cell 5
      have x0 : W7.cell? ⟨rb, 0, none⟩ = some (.bool false) := A7.out.r.cell 0
      have x1 : W7.cell? ⟨rb, 1, none⟩ = some (.slice none 0 0) := A7.out.r.cell 1
      have x2 : W7.cell? ⟨rb, 2, none⟩ = some (.slice none 0 0) := A7.out.r.cell 2
      have x3 : W7.cell? ⟨rb, 3, none⟩ = some (.slice none 0 0) := A7.out.r.cell 3
      have x4 : W7.cell? ⟨rb, 4, none⟩ = some (.slice none 0 0) := A7.out.r.cell 4
      have x5 : W7.cell? ⟨rb, 5, none⟩ = some (.slice none 0 0) := A7.out.r.cell 5
      have z0 := A7.out.r.fz 0
      have z1 := A7.out.r.fz 1
      have z2 := A7.out.r.fz 2
      have z3 := A7.out.r.fz 3
      have z4 := A7.out.r.fz 4
      have z5 := A7.out.r.fz 5
      have hlr := A7.out.r.lt
      have hlk := A7.out.k.lt
      have hn1 := HNR.out.2.2.2.2.1
      have hn2 := HNR.out.2.2.2.2.2.1
      have HE1 : Hid (Z < 0 → ∀ u0 u1 u2 u3 u4 u5, R (.returned (.tuple #[.agg #[.bool true, .slice q2.st.a q2.st.n q2.st.c, .slice q2.ju.a q2.ju.n q2.ju.c, .slice q2.nu.a q2.nu.n q2.nu.c, .slice (some ⟨g4, 0, none⟩) 10 q2.ro.c, .slice q2.sl.a q2.sl.n q2.sl.c], .int .i64 16])) ((((((W7.setCell ⟨rb, 0, none⟩ u0).setCell ⟨rb, 1, none⟩ u1).setCell ⟨rb, 2, none⟩ u2).setCell ⟨rb, 3, none⟩ u3).setCell ⟨rb, 4, none⟩ u4).setCell ⟨rb, 5, none⟩ u5)) := fun hz u0 u1 u2 u3 u4 u5 => by
        have hw := HNR.out.2.2.2.1
        have ewr : wrongD d.ts s x = 16 := by
          have ha : askedD d.ts s x = true := by
            unfold askedD
            rw [if_neg (by omega), if_neg (by omega)]
          have hh := has_neg (s.reg r)
          unfold wrongD
          rw [hr, Int.toNat_natCast]
          rw [if_neg (by rw [HRD.out]; decide), if_neg (by omega), if_pos ⟨hop, hh.2 (by rw [← hZ]; exact hz)⟩]
        have ev : KV.v true q2 = .agg #[.bool true, .slice q2.st.a q2.st.n q2.st.c, .slice q2.ju.a q2.ju.n q2.ju.c, .slice q2.nu.a q2.nu.n q2.nu.c, .slice (some ⟨g4, 0, none⟩) 10 q2.ro.c, .slice q2.sl.a q2.sl.n q2.sl.c] := by
          unfold KV.v
          rw [ka.e4, ka.n4]
        have c0 := A7.out.r
        have c1 := c0.put 0 u0
        have c2 := c1.put 1 u1
        have c3 := c2.put 2 u2
        have c4 := c3.put 3 u3
        have c5 := c4.put 4 u4
        rw [ERR.out, ← ev]
        exact ⟨q2, N, by rw [ewr], fun e0 => absurd (ewr.symm.trans e0) (by decide), hput1 (hput1 (hput1 (hput1 (hput1 (hput1 A7.out.bel hw _ _) hw _ _) hw _ _) hw _ _) hw _ _) hw _ _⟩
      have HE0 : Hid (¬ Z < 0 → ∀ u0 u1 u2 u3 u4 u5, R (.returned (.tuple #[.agg #[.bool true, .slice q2.st.a q2.st.n q2.st.c, .slice q2.ju.a q2.ju.n q2.ju.c, .slice q2.nu.a q2.nu.n q2.nu.c, .slice (some ⟨g4, 0, none⟩) 10 q2.ro.c, .slice q2.sl.a q2.sl.n q2.sl.c], .int .i64 0])) ((((((W7.setCell ⟨rb, 0, none⟩ u0).setCell ⟨rb, 1, none⟩ u1).setCell ⟨rb, 2, none⟩ u2).setCell ⟨rb, 3, none⟩ u3).setCell ⟨rb, 4, none⟩ u4).setCell ⟨rb, 5, none⟩ u5)) := fun hz u0 u1 u2 u3 u4 u5 => by
        have hw := HNR.out.2.2.2.1
        have ewr : wrongD d.ts s x = 0 := by
          have ha : askedD d.ts s x = true := by
            unfold askedD
            rw [if_neg (by omega), if_neg (by omega)]
          have hh := has_neg (s.reg r)
          unfold wrongD
          rw [hr, Int.toNat_natCast]
          rw [if_neg (by rw [HRD.out]; decide), if_neg (by omega), if_neg (fun h => hz (by rw [hZ]; exact hh.1 h.2)), if_neg (by rw [ha]; decide)]
        have ev : KV.v true q2 = .agg #[.bool true, .slice q2.st.a q2.st.n q2.st.c, .slice q2.ju.a q2.ju.n q2.ju.c, .slice q2.nu.a q2.nu.n q2.nu.c, .slice (some ⟨g4, 0, none⟩) 10 q2.ro.c, .slice q2.sl.a q2.sl.n q2.sl.c] := by
          unfold KV.v
          rw [ka.e4, ka.n4]
        have c0 := A7.out.r
        have c1 := c0.put 0 u0
        have c2 := c1.put 1 u1
        have c3 := c2.put 2 u2
        have c4 := c3.put 3 u3
        have c5 := c4.put 4 u4
        rw [ERR.out, ← ev]
        have ebh : bhD d.ts s x = s := by
          unfold bhD behindD
          rw [if_neg (by omega), if_neg (by omega), if_neg (by omega), if_neg (by omega), if_neg (by omega), if_neg (by omega), if_neg (by omega), if_neg (by omega)]
        exact ⟨q2, N, by rw [ewr], fun _ => by rw [ebh]; exact ⟨(((((HK7.out.1.off c0 _ _).off c1 _ _).off c2 _ _).off c3 _ _).off c4 _ _).off c5 _ _, HK7.out.2⟩, hput1 (hput1 (hput1 (hput1 (hput1 (hput1 A7.out.bel hw _ _) hw _ _) hw _ _) hw _ _) hw _ _) hw _ _⟩
      rw [hop] at i0
      clear A7 HK7 HK8 HB7 A0 HLO HRD ERR HX HOK HD hr hZ ka hrg hop HOP
      by_cases hz : Z < 0
      · have HE := hid (HE1.out hz)
        clear HE1 HE0
        go_wp2
        exact bodyPost_ret (v := .tuple #[.agg #[.bool true, .slice q2.st.a q2.st.n q2.st.c, .slice q2.ju.a q2.ju.n q2.ju.c, .slice q2.nu.a q2.nu.n q2.nu.c, .slice (some ⟨g4, 0, none⟩) 10 q2.ro.c, .slice q2.sl.a q2.sl.n q2.sl.c], .int .i64 16]) (by simp [results, Try.results14, go_sem, *]) rfl (HE.out _ _ _ _ _ _)
      · have HE := hid (HE0.out hz)
        clear HE1 HE0
        go_wp2
        exact bodyPost_ret (v := .tuple #[.agg #[.bool true, .slice q2.st.a q2.st.n q2.st.c, .slice q2.ju.a q2.ju.n q2.ju.c, .slice q2.nu.a q2.nu.n q2.nu.c, .slice (some ⟨g4, 0, none⟩) 10 q2.ro.c, .slice q2.sl.a q2.sl.n q2.sl.c], .int .i64 0]) (by simp [results, Try.results14, go_sem, *]) rfl (HE.out _ _ _ _ _ _)
end Go.Proofs.Ytmohffibkpecpaa
