/- The document's behind: IMove. -/
import Derived.Test.YtmohffibkpecpaaJC
namespace Go.Proofs.Ytmohffibkpecpaa
open Go.RowKit

set_option maxHeartbeats 8000000 in
set_option maxRecDepth 20000 in
theorem kbeh_move (d : ProgD) (x : InsD) (S : Nat) (hS : S ≤ 96) (q : KV) (s : SD) (N : Nat → Nat) (w : World) {m i : Nat} (hd : d.lie w) (hx : GOk d.slots d.ts m i x) (hsl : d.slots = S) (h : KLie S q s N w) (hok : s.ok) (hop : x.op = 2) : Calls Try.prog 14 #[d.v, x.v, KV.v true q] w (BhIs S d.ts x s w) := by
  obtain ⟨W4, hW4⟩ : ∃ W, W = (((w.alloc (.cells #[.int .i64 d.slots, .slice d.tabs.a d.tabs.n d.tabs.c, .slice d.code.a d.code.n d.code.c] 25)).alloc (.cells #[.int .i64 x.op, .int .i64 x.r, .int .i64 x.s, .int .i64 x.k, .int .i64 x.to, .int .u64 x.n] 35)).alloc (.cells (kvA true q) 54)).alloc (.cells zeroK 54) := ⟨_, rfl⟩
  obtain ⟨pb, hpb⟩ : ∃ b, b = w.heap.size := ⟨_, rfl⟩
  obtain ⟨ib, hib⟩ : ∃ b, b = w.heap.size + 1 := ⟨_, rfl⟩
  obtain ⟨kb, hkb⟩ : ∃ b, b = w.heap.size + 1 + 1 := ⟨_, rfl⟩
  obtain ⟨rb, hrb⟩ : ∃ b, b = w.heap.size + 1 + 1 + 1 := ⟨_, rfl⟩
  have HA : Hid (BdAt w d x pb ib kb rb (kvA true q) W4) := by
    refine ⟨?_, ?_, ?_, ?_, ?_⟩
    · rw [hW4, hpb]; exact BoxC.step (boxc_new _ _ _ rfl) (bl_alloc (bl_alloc (bl_alloc (Below.refl _ _))))
    · rw [hW4, hib]; exact BoxC.step (boxc_new _ _ _ (by simp)) (bl_alloc (bl_alloc (Below.refl _ _)))
    · rw [hW4, hkb]; exact BoxC.step (boxc_new _ _ _ (by simp)) (bl_alloc (Below.refl _ _))
    · rw [hW4, hrb]; exact boxc_new _ _ _ (by simp)
    · rw [hW4]; exact bl_alloc (bl_alloc (bl_alloc (bl_alloc (Below.refl _ _))))
  have HKL := hid h
  have HNR : Hid (w.heap.size ≤ pb ∧ w.heap.size ≤ ib ∧ w.heap.size ≤ kb ∧ w.heap.size ≤ rb ∧ ¬ kb = rb ∧ ¬ rb = kb ∧ ¬ kb = ib ∧ ¬ kb = pb ∧ ¬ rb = ib ∧ ¬ rb = pb) := ⟨by omega, by omega, by omega, by omega, by omega, by omega, by omega, by omega, by omega, by omega⟩
  have HX := hid hx
  have HOK := hid hok
  have HD := hid hd
  have HND := hid (fun w => rneeds x hx.op w)
  have EW := hid hW4
  have EP := hid hpb
  have EI := hid hib
  have EK := hid hkb
  have ER := hid hrb
  have hin := needs_in hx.r hx.s
  have hln := needs_len x
  obtain ⟨l, hl⟩ : ∃ l, l = needsL x := ⟨_, rfl⟩
  rw [← hl] at HND hin hln
  have EL := hid hl
  have HIN := hid hin
  obtain ⟨n, hn⟩ : ∃ n, n = l.length := ⟨_, rfl⟩
  have ENL := hid hn
  obtain ⟨R, hR⟩ : ∃ R, R = BhIs S d.ts x s w := ⟨_, rfl⟩
  rw [← hR]
  have ERR := hid hR
  dsimp only [ProgD.v, InsD.v] at HND ⊢
  dsimp only [kvA, zeroK] at EW
  have HSL := hid hsl
  have HOP := hid hop
  clear hop
  clear hW4 hpb hib hkb hrb h hx hok hd hl hin hR hsl
  rw [← hn] at hln
  go_enter Try.func14, Try.ntmps14
  go_upto_region 1 with fail
  rw [← EW.out, ← ER.out, ← EK.out, ← EI.out, ← EP.out]
  clear EW ER EK EI EP
  have i0 : W4.cell? ⟨ib, 0, none⟩ = some (.int .i64 x.op) := HA.out.i.cell 0
  have i1 : W4.cell? ⟨ib, 1, none⟩ = some (.int .i64 x.r) := HA.out.i.cell 1
  have i2 : W4.cell? ⟨ib, 2, none⟩ = some (.int .i64 x.s) := HA.out.i.cell 2
  have i3 : W4.cell? ⟨ib, 3, none⟩ = some (.int .i64 x.k) := HA.out.i.cell 3
  have i4 : W4.cell? ⟨ib, 4, none⟩ = some (.int .i64 x.to) := HA.out.i.cell 4
  have i5 : W4.cell? ⟨ib, 5, none⟩ = some (.int .u64 x.n) := HA.out.i.cell 5
  have hil := HA.out.i.lt
  go_wp2_with fail
  refine (HND.out _).mono ?_
  rintro e w5 ⟨la, lc, rfl, hla, hb5⟩
  have HA5 := hid (HA.out.step hb5)
  have HLA := hid hla
  rw [← ENL.out]
  clear HND HA i0 i1 i2 i3 i4 i5 hil hla hb5 hn
  obtain ⟨g1, o1, e1, n1, c1⟩ := HKL.out.st.pos (by decide)
  have HC1 := hid c1
  have HKC : Hid (∀ w', BoxC w' kb (kvA true q) 54 → w'.cell? ⟨kb, 1, none⟩ = some (.slice (some ⟨g1, o1, none⟩) 10 q.st.c)) := fun w' hk => by
    have h1 : w'.cell? ⟨kb, 1, none⟩ = some (.slice q.st.a q.st.n q.st.c) := hk.cell 1
    rw [e1, n1] at h1
    exact h1
  clear e1 n1 c1
  go_upto_region 2 with fail
  go_wp2
  haveI inhB : ∀ w : World, Inhabited (BelowBy w) := fun w => ⟨⟨w, Below.refl _ _⟩⟩
  go_loopw [9] (fun v wr => ∃ j : Nat, j ≤ n ∧ v = .int .i64 j ∧ Hid (Below w5.heap.size w5 wr) ∧ Hid (∀ t z, t < j → l[t]? = some z → (s.reg z.toNat).set = true)) (fun v _ => n - (intOf v).toNat)
  case atStart => exact ⟨0, Nat.zero_le _, rfl, Below.refl _ _, fun t z ht => absurd ht (Nat.not_lt_zero _)⟩
  case round =>
    obtain ⟨j, hj, rfl, hb, HS⟩ := hrel
    have A := hid (HA5.out.step hb.out)
    by_cases hlt : j < n
    · have hji : (j : Int) < (n : Int) := by omega
      have hlj : l[j]? = some l[j] := List.getElem?_eq_getElem _
      generalize l[j]'(by have := ENL.out; omega) = z at *
      obtain ⟨g, eg, cz⟩ := HLA.out j z hlj
      have hz := HIN.out z (List.mem_of_getElem? hlj)
      obtain ⟨r, rfl⟩ : ∃ r : Nat, z = r := ⟨z.toNat, by omega⟩
      have hri : (r : Int) < 10 := hz.2
      have cz2 := cell_keep cz hb.out
      have k1 := HKC.out wr A.out.k
      have r1 := cell_keep (HC1.out r (by omega)) A.out.bel
      have lg : g < wr.heap.size := World.block_lt_of_cell? _ _ cz2
      have lk : kb < wr.heap.size := World.block_lt_of_cell? _ _ k1
      have lr : g1 < wr.heap.size := World.block_lt_of_cell? _ _ r1
      have cz' := cell_by cz2
      have k1' := cell_by k1
      have r1' := cell_by r1
      obtain ⟨X, hX⟩ : ∃ X, X = (s.reg r).set := ⟨_, rfl⟩
      rw [← hX] at r1 r1'
      have HLJ := hid hlj
      have EX := hid hX
      subst eg
      clear hlj hX cz hz
      go_wp2_with fail
      refine wp_region_quiet_below (by kernel_rfl) (by kernel_rfl) ?_
      repeat (go_big_quiet_step (fail))
      refine wpQuiet_nil ?_
      intro wq hw'
      obtain ⟨⟨_, hwq⟩, hw''⟩ := hw'
      subst hw''
      have AQ := hid (A.out.step hwq)
      have HBQ := hid (bl_step hb.out hwq)
      clear cz2 k1 r1 cz' k1' r1' lg lk lr hwq A hb
      cases X
      · have hrd : readyD s x = false := by
          cases e : readyD s x
          · rfl
          · have := needs_ready.2 e r (by rw [← EL.out]; exact List.mem_of_getElem? HLJ.out)
            rw [Int.toNat_natCast, ← EX.out] at this
            cases this
        have ewr : wrongD d.ts s x = 15 := by unfold wrongD; rw [if_pos hrd]
        have k0 : wq.cell? ⟨kb, 0, none⟩ = some (.bool true) := AQ.out.k.cell 0
        have k1 : wq.cell? ⟨kb, 1, none⟩ = some (.slice q.st.a q.st.n q.st.c) := AQ.out.k.cell 1
        have k2 : wq.cell? ⟨kb, 2, none⟩ = some (.slice q.ju.a q.ju.n q.ju.c) := AQ.out.k.cell 2
        have k3 : wq.cell? ⟨kb, 3, none⟩ = some (.slice q.nu.a q.nu.n q.nu.c) := AQ.out.k.cell 3
        have k4 : wq.cell? ⟨kb, 4, none⟩ = some (.slice q.ro.a q.ro.n q.ro.c) := AQ.out.k.cell 4
        have k5 : wq.cell? ⟨kb, 5, none⟩ = some (.slice q.sl.a q.sl.n q.sl.c) := AQ.out.k.cell 5
        have x0 : wq.cell? ⟨rb, 0, none⟩ = some (.bool false) := AQ.out.r.cell 0
        have x1 : wq.cell? ⟨rb, 1, none⟩ = some (.slice none 0 0) := AQ.out.r.cell 1
        have x2 : wq.cell? ⟨rb, 2, none⟩ = some (.slice none 0 0) := AQ.out.r.cell 2
        have x3 : wq.cell? ⟨rb, 3, none⟩ = some (.slice none 0 0) := AQ.out.r.cell 3
        have x4 : wq.cell? ⟨rb, 4, none⟩ = some (.slice none 0 0) := AQ.out.r.cell 4
        have x5 : wq.cell? ⟨rb, 5, none⟩ = some (.slice none 0 0) := AQ.out.r.cell 5
        have z0 := AQ.out.r.fz 0
        have z1 := AQ.out.r.fz 1
        have z2 := AQ.out.r.fz 2
        have z3 := AQ.out.r.fz 3
        have z4 := AQ.out.r.fz 4
        have z5 := AQ.out.r.fz 5
        have hlr := AQ.out.r.lt
        have hlk := AQ.out.k.lt
        have hn1 := HNR.out.2.2.2.2.1
        have hn2 := HNR.out.2.2.2.2.2.1
        have HE : Hid (∀ u0 u1 u2 u3 u4 u5, R (.returned (.tuple #[KV.v true q, .int .i64 15])) ((((((wq.setCell ⟨rb, 0, none⟩ u0).setCell ⟨rb, 1, none⟩ u1).setCell ⟨rb, 2, none⟩ u2).setCell ⟨rb, 3, none⟩ u3).setCell ⟨rb, 4, none⟩ u4).setCell ⟨rb, 5, none⟩ u5)) := fun u0 u1 u2 u3 u4 u5 => by
          have hw := HNR.out.2.2.2.1
          rw [ERR.out]
          exact ⟨q, N, by rw [ewr], fun e0 => absurd (ewr.symm.trans e0) (by decide), hput1 (hput1 (hput1 (hput1 (hput1 (hput1 AQ.out.bel hw _ _) hw _ _) hw _ _) hw _ _) hw _ _) hw _ _⟩
        clear AQ HBQ HS hrd ewr HLJ EX ERR HX HOK HD HKL
        go_wp2
        exact bodyPost_ret (v := .tuple #[KV.v true q, .int .i64 15]) (by simp [results, Try.results14, go_sem, *]) rfl (HE.out _ _ _ _ _ _)
      · have HS2 : Hid (∀ t z, t < j + 1 → l[t]? = some z → (s.reg z.toNat).set = true) := fun t z ht hz => by
          rcases Nat.lt_or_ge t j with h | h
          · exact HS.out t z h hz
          · obtain rfl : t = j := by omega
            rw [HLJ.out] at hz
            cases hz
            rw [Int.toNat_natCast]
            exact EX.out.symm
        clear AQ HS HLJ EX
        go_wp2
        go_roundw
        case rel => exact ⟨j + 1, by omega, by go_num, HBQ, HS2⟩
        case measure => simp [intOf]; omega
    · have hji : ¬ (j : Int) < (n : Int) := by omega
      have HRD : Hid (readyD s x = true) := needs_ready.1 fun z hz => by
        rw [← EL.out] at hz
        obtain ⟨t, ht, rfl⟩ := List.getElem_of_mem hz
        exact HS.out t _ (by have := ENL.out; omega) (List.getElem?_eq_getElem ht)
      have k0 : wr.cell? ⟨kb, 0, none⟩ = some (.bool true) := A.out.k.cell 0
      have k1 : wr.cell? ⟨kb, 1, none⟩ = some (.slice q.st.a q.st.n q.st.c) := A.out.k.cell 1
      have k2 : wr.cell? ⟨kb, 2, none⟩ = some (.slice q.ju.a q.ju.n q.ju.c) := A.out.k.cell 2
      have k3 : wr.cell? ⟨kb, 3, none⟩ = some (.slice q.nu.a q.nu.n q.nu.c) := A.out.k.cell 3
      have k4 : wr.cell? ⟨kb, 4, none⟩ = some (.slice q.ro.a q.ro.n q.ro.c) := A.out.k.cell 4
      have k5 : wr.cell? ⟨kb, 5, none⟩ = some (.slice q.sl.a q.sl.n q.sl.c) := A.out.k.cell 5
      have hlk := A.out.k.lt
      have HO := hid (kown S hS true q s N wr (HKL.out.step A.out.bel))
      dsimp only [KV.v] at HO
      clear HS HC1 HKC HIN EL HLA hb HA5
      go_wp2_with fail
      refine HO.out.mono ?_
      rintro e w6 ⟨q2, rfl, hk6, hb6⟩
      have A6 := hid (A.out.step hb6)
      have HK6 := hid hk6
      have HAR := A
      have HB6 := hid hb6
      clear HO A hk6 hb6 k0 k1 k2 k3 k4 k5 hlk hji
      have y0 : w6.cell? ⟨kb, 0, none⟩ = some (.bool true) := A6.out.k.cell 0
      have y1 : w6.cell? ⟨kb, 1, none⟩ = some (.slice q.st.a q.st.n q.st.c) := A6.out.k.cell 1
      have y2 : w6.cell? ⟨kb, 2, none⟩ = some (.slice q.ju.a q.ju.n q.ju.c) := A6.out.k.cell 2
      have y3 : w6.cell? ⟨kb, 3, none⟩ = some (.slice q.nu.a q.nu.n q.nu.c) := A6.out.k.cell 3
      have y4 : w6.cell? ⟨kb, 4, none⟩ = some (.slice q.ro.a q.ro.n q.ro.c) := A6.out.k.cell 4
      have y5 : w6.cell? ⟨kb, 5, none⟩ = some (.slice q.sl.a q.sl.n q.sl.c) := A6.out.k.cell 5
      have z0 := A6.out.k.fz 0
      have z1 := A6.out.k.fz 1
      have z2 := A6.out.k.fz 2
      have z3 := A6.out.k.fz 3
      have z4 := A6.out.k.fz 4
      have z5 := A6.out.k.fz 5
      have hlk := A6.out.k.lt
      obtain ⟨W7, hW7⟩ : ∃ W, W = (((((w6.setCell ⟨kb, 0, none⟩ (.bool true)).setCell ⟨kb, 1, none⟩ (.slice q2.st.a q2.st.n q2.st.c)).setCell ⟨kb, 2, none⟩ (.slice q2.ju.a q2.ju.n q2.ju.c)).setCell ⟨kb, 3, none⟩ (.slice q2.nu.a q2.nu.n q2.nu.c)).setCell ⟨kb, 4, none⟩ (.slice q2.ro.a q2.ro.n q2.ro.c)).setCell ⟨kb, 5, none⟩ (.slice q2.sl.a q2.sl.n q2.sl.c) := ⟨_, rfl⟩
      obtain ⟨W0, hW0⟩ : ∃ W, W = (((((wr.setCell ⟨kb, 0, none⟩ (.bool true)).setCell ⟨kb, 1, none⟩ (.slice q2.st.a q2.st.n q2.st.c)).setCell ⟨kb, 2, none⟩ (.slice q2.ju.a q2.ju.n q2.ju.c)).setCell ⟨kb, 3, none⟩ (.slice q2.nu.a q2.nu.n q2.nu.c)).setCell ⟨kb, 4, none⟩ (.slice q2.ro.a q2.ro.n q2.ro.c)).setCell ⟨kb, 5, none⟩ (.slice q2.sl.a q2.sl.n q2.sl.c) := ⟨_, rfl⟩
      have A0 : Hid (BdAt w d x pb ib kb rb (kvA true q2) W0) := by
        have hn := HNR.out
        have hw := hn.2.2.1
        rw [hW0]
        exact ⟨(((((HAR.out.p.far hn.2.2.2.2.2.2.2.1 _ _).far hn.2.2.2.2.2.2.2.1 _ _).far hn.2.2.2.2.2.2.2.1 _ _).far hn.2.2.2.2.2.2.2.1 _ _).far hn.2.2.2.2.2.2.2.1 _ _).far hn.2.2.2.2.2.2.2.1 _ _, (((((HAR.out.i.far hn.2.2.2.2.2.2.1 _ _).far hn.2.2.2.2.2.2.1 _ _).far hn.2.2.2.2.2.2.1 _ _).far hn.2.2.2.2.2.2.1 _ _).far hn.2.2.2.2.2.2.1 _ _).far hn.2.2.2.2.2.2.1 _ _, (((((HAR.out.k.put 0 _).put 1 _).put 2 _).put 3 _).put 4 _).put 5 _, (((((HAR.out.r.far hn.2.2.2.2.1 _ _).far hn.2.2.2.2.1 _ _).far hn.2.2.2.2.1 _ _).far hn.2.2.2.2.1 _ _).far hn.2.2.2.2.1 _ _).far hn.2.2.2.2.1 _ _, hput1 (hput1 (hput1 (hput1 (hput1 (hput1 HAR.out.bel hw _ _) hw _ _) hw _ _) hw _ _) hw _ _) hw _ _⟩
      have HB7 : Hid (Below W0.heap.size W0 W7) := by
        rw [hW7, hW0]
        exact bl_both (bl_both (bl_both (bl_both (bl_both (bl_both HB6.out _ _) _ _) _ _) _ _) _ _) _ _
      have hsz : W0.heap.size = wr.heap.size := by rw [hW0]; simp [World.setCell]
      have HK8 : Hid (KOwn W0.heap.size S q2 s N W7) := by
        rw [hW7, hsz]
        have c0 := A6.out.k
        have c1 := c0.put 0 (.bool true)
        have c2 := c1.put 1 (.slice q2.st.a q2.st.n q2.st.c)
        have c3 := c2.put 2 (.slice q2.ju.a q2.ju.n q2.ju.c)
        have c4 := c3.put 3 (.slice q2.nu.a q2.nu.n q2.nu.c)
        have c5 := c4.put 4 (.slice q2.ro.a q2.ro.n q2.ro.c)
        exact ⟨(((((HK6.out.1.off c0 _ _).off c1 _ _).off c2 _ _).off c3 _ _).off c4 _ _).off c5 _ _, HK6.out.2⟩
      have HLO : Hid (w.heap.size ≤ W0.heap.size) := A0.out.bel.size
      have HK7 := hid (HK8.out.low HLO.out)
      have A7 := hid (A0.out.step HB7.out)
      have E7 := hid hW7
      clear hW7 hW0 hsz A6 HK6 HAR HB6 HKL
      go_upto_region 8 with fail
      rw [← E7.out]
      clear E7 y0 y1 y2 y3 y4 y5 z0 z1 z2 z3 z4 z5 hlk
      have i0 : W7.cell? ⟨ib, 0, none⟩ = some (.int .i64 x.op) := A7.out.i.cell 0
      have hil := A7.out.i.lt
      have hop := HOP.out
      obtain ⟨r, hr⟩ : ∃ r : Nat, x.r = r := ⟨x.r.toNat, by have := HX.out.r; omega⟩
      have hr10 : r < 10 := by have := HX.out.r; omega
      have hri : (r : Int) < 10 := by omega
      obtain ⟨nn, hnn⟩ : ∃ r : Nat, x.n = r := ⟨x.n.toNat, by have := HX.out.n; omega⟩
      have HNL : Hid (nn < 18446744073709551616) := by have := HX.out.n; show _ < _; omega
      obtain ⟨g1, g2, g3, g4, ka⟩ := HK7.out.1.blocks
      obtain ⟨⟨a1, n1, c1⟩, ⟨a2, n2, c2⟩, ⟨a3, n3, c3⟩, ⟨a4, n4, c4⟩, ⟨a5, n5, c5⟩⟩ := q2
      obtain rfl : a1 = some ⟨g1, 0, none⟩ := ka.e1
      obtain rfl : a2 = some ⟨g2, 0, none⟩ := ka.e2
      obtain rfl : a3 = some ⟨g3, 0, none⟩ := ka.e3
      obtain rfl : a4 = some ⟨g4, 0, none⟩ := ka.e4
      obtain rfl : n1 = 10 := ka.n1
      obtain rfl : n2 = 10 := ka.n2
      obtain rfl : n3 = 10 := ka.n3
      obtain rfl : n4 = 10 := ka.n4
      have HKA := hid ka
      have HR := hid hr
      have HNN := hid hnn
      have hn1 := HNR.out.2.2.2.2.1
      have hn2 := HNR.out.2.2.2.2.2.1
      have hn3 := HNR.out.2.2.2.2.2.2.1
      rw [hop] at i0
      obtain ⟨rs, hrs⟩ : ∃ r : Nat, x.s = r := ⟨x.s.toNat, by have := HX.out.s (by omega); omega⟩
      have hs10 : rs < 10 := by have := HX.out.s (by omega); omega
      have hsi : (rs : Int) < 10 := by omega
      have HRS := hid hrs
      have ewr : wrongD d.ts s x = 0 := by
        have ha : askedD d.ts s x = true := by
          unfold askedD
          rw [if_neg (by omega), if_neg (by omega)]
        unfold wrongD
        rw [if_neg (by rw [HRD.out]; decide), if_neg (by omega), if_neg (by omega), if_neg (by rw [ha]; decide)]
      have HEW := hid ewr
      have ebh : bhD d.ts s x = s.setR r (s.reg rs) := by
        unfold bhD behindD
        rw [if_neg (by omega), if_neg (by omega), if_pos (by omega), hr, hrs, Int.toNat_natCast, Int.toNat_natCast]
      have HEB := hid ebh
      have HSS : Hid ((s.reg rs).set = true) := by
        have := HRD.out
        unfold readyD at this
        rw [if_pos (by omega), hrs, Int.toNat_natCast] at this
        exact this
      have HKZ := hid (BdK.mk A7.out HK7.out.1)
      have HN7 := hid HK7.out.2
      clear ewr ebh ka HRD HX hop hr hnn hrs A7 HK7 HK8 HB7 A0
      go_wp2_with fail
      clear i0 hil
      refine wp_region_rowsJ (some 68 :: some 69 :: some 70 :: some 71 :: some 72 :: some 73 :: some 74 :: some 75 :: some 76 :: some 77 :: some 78 :: some 79 :: some 80 :: some 81 :: some 82 :: some 83 :: some 84 :: some 85 :: some 86 :: some 87 :: some 88 :: some 89 :: some 90 :: some 91 :: some 92 :: some 93 :: some 94 :: some 95 :: some 96 :: some 97 :: some 98 :: some 99 :: some 100 :: some 101 :: some 102 :: none :: some 103 :: none :: some 104 :: none :: some 105 :: none :: []) (by kernel_rfl) (by kernel_rfl) (fun d hd => by simp only [List.mem_cons, List.not_mem_nil, or_false, Option.some.injEq, reduceCtorEq, false_or] at hd; show d < 305; omega) (fun i => (((.pointer (some ⟨kb, 1, none⟩)) :: (.slice (some ⟨g1, 0, none⟩) 10 c1) :: (.pointer (some ⟨ib, 1, none⟩)) :: (.int .i64 (r : Int)) :: (.pointer (some ⟨kb, 2, none⟩)) :: (.slice (some ⟨g2, 0, none⟩) 10 c2) :: (.pointer (some ⟨ib, 1, none⟩)) :: (.int .i64 (r : Int)) :: (.pointer (some ⟨kb, 3, none⟩)) :: (.slice (some ⟨g3, 0, none⟩) 10 c3) :: (.pointer (some ⟨ib, 1, none⟩)) :: (.int .i64 (r : Int)) :: (.pointer (some ⟨kb, 4, none⟩)) :: (.slice (some ⟨g4, 0, none⟩) 10 c4) :: (.pointer (some ⟨ib, 1, none⟩)) :: (.int .i64 (r : Int)) :: (.pointer (some ⟨kb, 2, none⟩)) :: (.slice (some ⟨g2, 0, none⟩) 10 c2) :: (.pointer (some ⟨ib, 2, none⟩)) :: (.int .i64 (rs : Int)) :: (.pointer (some ⟨g2, rs, none⟩)) :: (.bool (s.reg rs).just.isSome) :: (.pointer (some ⟨kb, 3, none⟩)) :: (.slice (some ⟨g3, 0, none⟩) 10 c3) :: (.pointer (some ⟨ib, 2, none⟩)) :: (.int .i64 (rs : Int)) :: (.pointer (some ⟨g3, rs, none⟩)) :: (.int .u64 (N rs : Int)) :: (.pointer (some ⟨kb, 4, none⟩)) :: (.slice (some ⟨g4, 0, none⟩) 10 c4) :: (.pointer (some ⟨ib, 2, none⟩)) :: (.int .i64 (rs : Int)) :: (.pointer (some ⟨g4, rs, none⟩)) :: (.int .i64 (roomZ (s.reg rs).room)) :: (.pointer (some ⟨g1, r, none⟩)) :: (undef) :: (.pointer (some ⟨g2, r, none⟩)) :: (undef) :: (.pointer (some ⟨g3, r, none⟩)) :: (undef) :: (.pointer (some ⟨g4, r, none⟩)) :: (undef) :: [] : List Value)).getD i undef) (fun done w1 => BdK w d x pb ib kb rb S (⟨⟨some ⟨g1, 0, none⟩, 10, c1⟩, ⟨some ⟨g2, 0, none⟩, 10, c2⟩, ⟨some ⟨g3, 0, none⟩, 10, c3⟩, ⟨some ⟨g4, 0, none⟩, 10, c4⟩, ⟨a5, n5, c5⟩⟩ : KV) (fun j => if done 35 = true ∧ j = r then true else (s.reg j).set) (fun j => if done 37 = true ∧ j = r then (s.reg rs).just.isSome else (s.reg j).just.isSome) (fun j => if done 39 = true ∧ j = r then (N rs) else N j) (fun j => if done 41 = true ∧ j = r then (roomZ (s.reg rs).room) else roomZ (s.reg j).room) (s.slot) w1) (BdK.congr (HKZ.out.step (Below.refl _ _).drew) (fun _ => by simp) (fun _ => by simp) (fun _ => by simp) (fun _ => by simp) (fun _ => rfl)) ?_ ?_
      · intro i o hi ho done a1 w1 hj hdi hold hdep
        have t4 : a1.tmps[4]? = some (.pointer (some ⟨ib, 0, none⟩)) := hold 4 (by decide)
        have t5 : a1.tmps[5]? = some (.pointer (some ⟨kb, 0, none⟩)) := hold 5 (by decide)
        have hrg := hj.k.reg HKA.out hr10
        have hi : i < 42 := hi
        rcases (show i = 0 ∨ i = 1 ∨ i = 2 ∨ i = 3 ∨ i = 4 ∨ i = 5 ∨ i = 6 ∨ i = 7 ∨ i = 8 ∨ i = 9 ∨ i = 10 ∨ i = 11 ∨ i = 12 ∨ i = 13 ∨ i = 14 ∨ i = 15 ∨ i = 16 ∨ i = 17 ∨ i = 18 ∨ i = 19 ∨ i = 20 ∨ i = 21 ∨ i = 22 ∨ i = 23 ∨ i = 24 ∨ i = 25 ∨ i = 26 ∨ i = 27 ∨ i = 28 ∨ i = 29 ∨ i = 30 ∨ i = 31 ∨ i = 32 ∨ i = 33 ∨ i = 34 ∨ i = 35 ∨ i = 36 ∨ i = 37 ∨ i = 38 ∨ i = 39 ∨ i = 40 ∨ i = 41 by omega) with rfl | rfl | rfl | rfl | rfl | rfl | rfl | rfl | rfl | rfl | rfl | rfl | rfl | rfl | rfl | rfl | rfl | rfl | rfl | rfl | rfl | rfl | rfl | rfl | rfl | rfl | rfl | rfl | rfl | rfl | rfl | rfl | rfl | rfl | rfl | rfl | rfl | rfl | rfl | rfl | rfl | rfl
        all_goals
          simp only [List.getElem?_cons_succ, List.getElem?_cons_zero, Option.some.injEq] at ho
          subst ho
        · exact ⟨w1, .inl (by simp [execOp, go_sem, t5]), hj⟩
        · have hv : a1.tmps[68]? = some (.pointer (some ⟨kb, 1, none⟩)) := (hdep { on := 0, ground := .data } (by simp) rfl).2 _ rfl
          have hc := hj.k1 HKA.out
          exact ⟨w1, .inl (by simp [execOp, go_sem, hv, hc]), hj⟩
        · exact ⟨w1, .inl (by simp [execOp, go_sem, t4]), hj⟩
        · have hv : a1.tmps[70]? = some (.pointer (some ⟨ib, 1, none⟩)) := (hdep { on := 2, ground := .data } (by simp) rfl).2 _ rfl
          have hc := hj.i1 HR.out
          exact ⟨w1, .inl (by simp [execOp, go_sem, hv, hc]), hj⟩
        · exact ⟨w1, .inl (by simp [execOp, go_sem, t5]), hj⟩
        · have hv : a1.tmps[72]? = some (.pointer (some ⟨kb, 2, none⟩)) := (hdep { on := 4, ground := .data } (by simp) rfl).2 _ rfl
          have hc := hj.k2 HKA.out
          exact ⟨w1, .inl (by simp [execOp, go_sem, hv, hc]), hj⟩
        · exact ⟨w1, .inl (by simp [execOp, go_sem, t4]), hj⟩
        · have hv : a1.tmps[74]? = some (.pointer (some ⟨ib, 1, none⟩)) := (hdep { on := 6, ground := .data } (by simp) rfl).2 _ rfl
          have hc := hj.i1 HR.out
          exact ⟨w1, .inl (by simp [execOp, go_sem, hv, hc]), hj⟩
        · exact ⟨w1, .inl (by simp [execOp, go_sem, t5]), hj⟩
        · have hv : a1.tmps[76]? = some (.pointer (some ⟨kb, 3, none⟩)) := (hdep { on := 8, ground := .data } (by simp) rfl).2 _ rfl
          have hc := hj.k3 HKA.out
          exact ⟨w1, .inl (by simp [execOp, go_sem, hv, hc]), hj⟩
        · exact ⟨w1, .inl (by simp [execOp, go_sem, t4]), hj⟩
        · have hv : a1.tmps[78]? = some (.pointer (some ⟨ib, 1, none⟩)) := (hdep { on := 10, ground := .data } (by simp) rfl).2 _ rfl
          have hc := hj.i1 HR.out
          exact ⟨w1, .inl (by simp [execOp, go_sem, hv, hc]), hj⟩
        · exact ⟨w1, .inl (by simp [execOp, go_sem, t5]), hj⟩
        · have hv : a1.tmps[80]? = some (.pointer (some ⟨kb, 4, none⟩)) := (hdep { on := 12, ground := .data } (by simp) rfl).2 _ rfl
          have hc := hj.k4 HKA.out
          exact ⟨w1, .inl (by simp [execOp, go_sem, hv, hc]), hj⟩
        · exact ⟨w1, .inl (by simp [execOp, go_sem, t4]), hj⟩
        · have hv : a1.tmps[82]? = some (.pointer (some ⟨ib, 1, none⟩)) := (hdep { on := 14, ground := .data } (by simp) rfl).2 _ rfl
          have hc := hj.i1 HR.out
          exact ⟨w1, .inl (by simp [execOp, go_sem, hv, hc]), hj⟩
        · exact ⟨w1, .inl (by simp [execOp, go_sem, t5]), hj⟩
        · have hv : a1.tmps[84]? = some (.pointer (some ⟨kb, 2, none⟩)) := (hdep { on := 16, ground := .data } (by simp) rfl).2 _ rfl
          have hc := hj.k2 HKA.out
          exact ⟨w1, .inl (by simp [execOp, go_sem, hv, hc]), hj⟩
        · exact ⟨w1, .inl (by simp [execOp, go_sem, t4]), hj⟩
        · have hv : a1.tmps[86]? = some (.pointer (some ⟨ib, 2, none⟩)) := (hdep { on := 18, ground := .data } (by simp) rfl).2 _ rfl
          have hc := hj.i2 HRS.out
          exact ⟨w1, .inl (by simp [execOp, go_sem, hv, hc]), hj⟩
        · have hv : a1.tmps[85]? = some (.slice (some ⟨g2, 0, none⟩) 10 c2) := (hdep { on := 17, ground := .data } (by simp) rfl).2 _ rfl
          have hv2 : a1.tmps[87]? = some (.int .i64 (rs : Int)) := (hdep { on := 19, ground := .data } (by simp) rfl).2 _ rfl
          exact ⟨w1, .inl (by simp [execOp, go_sem, hv, hv2, hsi]), hj⟩
        · have hv : a1.tmps[88]? = some (.pointer (some ⟨g2, rs, none⟩)) := (hdep { on := 20, ground := .data } (by simp) rfl).2 _ rfl
          have hc : w1.cell? ⟨g2, rs, none⟩ = some (.bool (s.reg rs).just.isSome) := (hj.k.reg HKA.out hs10).c2.trans (by simp)
          exact ⟨w1, .inl (by simp [execOp, go_sem, hv, hc]), hj⟩
        · exact ⟨w1, .inl (by simp [execOp, go_sem, t5]), hj⟩
        · have hv : a1.tmps[90]? = some (.pointer (some ⟨kb, 3, none⟩)) := (hdep { on := 22, ground := .data } (by simp) rfl).2 _ rfl
          have hc := hj.k3 HKA.out
          exact ⟨w1, .inl (by simp [execOp, go_sem, hv, hc]), hj⟩
        · exact ⟨w1, .inl (by simp [execOp, go_sem, t4]), hj⟩
        · have hv : a1.tmps[92]? = some (.pointer (some ⟨ib, 2, none⟩)) := (hdep { on := 24, ground := .data } (by simp) rfl).2 _ rfl
          have hc := hj.i2 HRS.out
          exact ⟨w1, .inl (by simp [execOp, go_sem, hv, hc]), hj⟩
        · have hv : a1.tmps[91]? = some (.slice (some ⟨g3, 0, none⟩) 10 c3) := (hdep { on := 23, ground := .data } (by simp) rfl).2 _ rfl
          have hv2 : a1.tmps[93]? = some (.int .i64 (rs : Int)) := (hdep { on := 25, ground := .data } (by simp) rfl).2 _ rfl
          exact ⟨w1, .inl (by simp [execOp, go_sem, hv, hv2, hsi]), hj⟩
        · have hv : a1.tmps[94]? = some (.pointer (some ⟨g3, rs, none⟩)) := (hdep { on := 26, ground := .data } (by simp) rfl).2 _ rfl
          have hc : w1.cell? ⟨g3, rs, none⟩ = some (.int .u64 (N rs : Int)) := (hj.k.reg HKA.out hs10).c3.trans (by simp)
          exact ⟨w1, .inl (by simp [execOp, go_sem, hv, hc]), hj⟩
        · exact ⟨w1, .inl (by simp [execOp, go_sem, t5]), hj⟩
        · have hv : a1.tmps[96]? = some (.pointer (some ⟨kb, 4, none⟩)) := (hdep { on := 28, ground := .data } (by simp) rfl).2 _ rfl
          have hc := hj.k4 HKA.out
          exact ⟨w1, .inl (by simp [execOp, go_sem, hv, hc]), hj⟩
        · exact ⟨w1, .inl (by simp [execOp, go_sem, t4]), hj⟩
        · have hv : a1.tmps[98]? = some (.pointer (some ⟨ib, 2, none⟩)) := (hdep { on := 30, ground := .data } (by simp) rfl).2 _ rfl
          have hc := hj.i2 HRS.out
          exact ⟨w1, .inl (by simp [execOp, go_sem, hv, hc]), hj⟩
        · have hv : a1.tmps[97]? = some (.slice (some ⟨g4, 0, none⟩) 10 c4) := (hdep { on := 29, ground := .data } (by simp) rfl).2 _ rfl
          have hv2 : a1.tmps[99]? = some (.int .i64 (rs : Int)) := (hdep { on := 31, ground := .data } (by simp) rfl).2 _ rfl
          exact ⟨w1, .inl (by simp [execOp, go_sem, hv, hv2, hsi]), hj⟩
        · have hv : a1.tmps[100]? = some (.pointer (some ⟨g4, rs, none⟩)) := (hdep { on := 32, ground := .data } (by simp) rfl).2 _ rfl
          have hc : w1.cell? ⟨g4, rs, none⟩ = some (.int .i64 (roomZ (s.reg rs).room)) := (hj.k.reg HKA.out hs10).c4.trans (by simp)
          exact ⟨w1, .inl (by simp [execOp, go_sem, hv, hc]), hj⟩
        · have hv : a1.tmps[69]? = some (.slice (some ⟨g1, 0, none⟩) 10 c1) := (hdep { on := 1, ground := .data } (by simp) rfl).2 _ rfl
          have hv2 : a1.tmps[71]? = some (.int .i64 (r : Int)) := (hdep { on := 3, ground := .data } (by simp) rfl).2 _ rfl
          exact ⟨w1, .inl (by simp [execOp, go_sem, hv, hv2, hri]), hj⟩
        · have hv : a1.tmps[102]? = some (.pointer (some ⟨g1, r, none⟩)) := (hdep { on := 34, ground := .data } (by simp) rfl).2 _ rfl
          refine ⟨w1.setCell ⟨g1, r, none⟩ (.bool true), .inr ⟨rfl, by simp [execOp, go_sem, hv, hrg.c1, hrg.f1]⟩, ?_⟩
          exact (hj.putA HKA.out hr10 true).congr (fun j => by by_cases e : j = r <;> simp [e, hdi]) (fun _ => rfl) (fun _ => rfl) (fun _ => rfl) (fun _ => rfl)
        · have hv : a1.tmps[73]? = some (.slice (some ⟨g2, 0, none⟩) 10 c2) := (hdep { on := 5, ground := .data } (by simp) rfl).2 _ rfl
          have hv2 : a1.tmps[75]? = some (.int .i64 (r : Int)) := (hdep { on := 7, ground := .data } (by simp) rfl).2 _ rfl
          exact ⟨w1, .inl (by simp [execOp, go_sem, hv, hv2, hri]), hj⟩
        · have hv : a1.tmps[103]? = some (.pointer (some ⟨g2, r, none⟩)) := (hdep { on := 36, ground := .data } (by simp) rfl).2 _ rfl
          have hv2 : a1.tmps[89]? = some (.bool (s.reg rs).just.isSome) := (hdep { on := 21, ground := .data } (by simp) rfl).2 _ rfl
          refine ⟨w1.setCell ⟨g2, r, none⟩ (.bool (s.reg rs).just.isSome), .inr ⟨rfl, by simp [execOp, go_sem, hv, hv2, hrg.c2, hrg.f2]⟩, ?_⟩
          exact (hj.putB HKA.out hr10 (s.reg rs).just.isSome).congr (fun _ => rfl) (fun j => by by_cases e : j = r <;> simp [e, hdi]) (fun _ => rfl) (fun _ => rfl) (fun _ => rfl)
        · have hv : a1.tmps[77]? = some (.slice (some ⟨g3, 0, none⟩) 10 c3) := (hdep { on := 9, ground := .data } (by simp) rfl).2 _ rfl
          have hv2 : a1.tmps[79]? = some (.int .i64 (r : Int)) := (hdep { on := 11, ground := .data } (by simp) rfl).2 _ rfl
          exact ⟨w1, .inl (by simp [execOp, go_sem, hv, hv2, hri]), hj⟩
        · have hv : a1.tmps[104]? = some (.pointer (some ⟨g3, r, none⟩)) := (hdep { on := 38, ground := .data } (by simp) rfl).2 _ rfl
          have hv2 : a1.tmps[95]? = some (.int .u64 (N rs : Int)) := (hdep { on := 27, ground := .data } (by simp) rfl).2 _ rfl
          refine ⟨w1.setCell ⟨g3, r, none⟩ (.int .u64 (N rs : Int)), .inr ⟨rfl, by simp [execOp, go_sem, hv, hv2, hrg.c3, hrg.f3]⟩, ?_⟩
          exact (hj.putN HKA.out hr10 (N rs)).congr (fun _ => rfl) (fun _ => rfl) (fun j => by by_cases e : j = r <;> simp [e, hdi]) (fun _ => rfl) (fun _ => rfl)
        · have hv : a1.tmps[81]? = some (.slice (some ⟨g4, 0, none⟩) 10 c4) := (hdep { on := 13, ground := .data } (by simp) rfl).2 _ rfl
          have hv2 : a1.tmps[83]? = some (.int .i64 (r : Int)) := (hdep { on := 15, ground := .data } (by simp) rfl).2 _ rfl
          exact ⟨w1, .inl (by simp [execOp, go_sem, hv, hv2, hri]), hj⟩
        · have hv : a1.tmps[105]? = some (.pointer (some ⟨g4, r, none⟩)) := (hdep { on := 40, ground := .data } (by simp) rfl).2 _ rfl
          have hv2 : a1.tmps[101]? = some (.int .i64 (roomZ (s.reg rs).room)) := (hdep { on := 33, ground := .data } (by simp) rfl).2 _ rfl
          refine ⟨w1.setCell ⟨g4, r, none⟩ (.int .i64 (roomZ (s.reg rs).room)), .inr ⟨rfl, by simp [execOp, go_sem, hv, hv2, hrg.c4, hrg.f4]⟩, ?_⟩
          exact (hj.putZ HKA.out hr10 (roomZ (s.reg rs).room)).congr (fun _ => rfl) (fun _ => rfl) (fun _ => rfl) (fun j => by by_cases e : j = r <;> simp [e, hdi]) (fun _ => rfl)
      · intro wz hz
        simp only [putsO, Act.put, List.length_cons, List.length_nil, List.getD_cons_zero, List.getD_cons_succ, List.setIfInBounds_toArray, List.set_cons_succ, List.set_cons_zero]
        have HZ := hid hz
        have hA := hz.a
        have k0 : wz.cell? ⟨kb, 0, none⟩ = some (.bool true) := hA.k.cell 0
        have k1 : wz.cell? ⟨kb, 1, none⟩ = some (.slice (some ⟨g1, 0, none⟩) 10 c1) := hA.k.cell 1
        have k2 : wz.cell? ⟨kb, 2, none⟩ = some (.slice (some ⟨g2, 0, none⟩) 10 c2) := hA.k.cell 2
        have k3 : wz.cell? ⟨kb, 3, none⟩ = some (.slice (some ⟨g3, 0, none⟩) 10 c3) := hA.k.cell 3
        have k4 : wz.cell? ⟨kb, 4, none⟩ = some (.slice (some ⟨g4, 0, none⟩) 10 c4) := hA.k.cell 4
        have k5 : wz.cell? ⟨kb, 5, none⟩ = some (.slice a5 n5 c5) := hA.k.cell 5
        have hlk := hA.k.lt
        have x0 : wz.cell? ⟨rb, 0, none⟩ = some (.bool false) := hA.r.cell 0
        have x1 : wz.cell? ⟨rb, 1, none⟩ = some (.slice none 0 0) := hA.r.cell 1
        have x2 : wz.cell? ⟨rb, 2, none⟩ = some (.slice none 0 0) := hA.r.cell 2
        have x3 : wz.cell? ⟨rb, 3, none⟩ = some (.slice none 0 0) := hA.r.cell 3
        have x4 : wz.cell? ⟨rb, 4, none⟩ = some (.slice none 0 0) := hA.r.cell 4
        have x5 : wz.cell? ⟨rb, 5, none⟩ = some (.slice none 0 0) := hA.r.cell 5
        have z0 := hA.r.fz 0
        have z1 := hA.r.fz 1
        have z2 := hA.r.fz 2
        have z3 := hA.r.fz 3
        have z4 := hA.r.fz 4
        have z5 := hA.r.fz 5
        have hlr := hA.r.lt
        have HNK : Hid (numOk (s.setR r (s.reg rs)) (fun j => if j = r then N rs else N j)) := fun j hj => by
          by_cases e : j = r
          · simp only [if_pos e, SD.setR]
            exact HN7.out rs hs10
          · simp only [if_neg e, SD.setR]
            exact HN7.out j hj
        clear hz hA HKZ
        have HE : Hid (∀ u0 u1 u2 u3 u4 u5, R (.returned (.tuple #[KV.v true (⟨⟨some ⟨g1, 0, none⟩, 10, c1⟩, ⟨some ⟨g2, 0, none⟩, 10, c2⟩, ⟨some ⟨g3, 0, none⟩, 10, c3⟩, ⟨some ⟨g4, 0, none⟩, 10, c4⟩, ⟨a5, n5, c5⟩⟩ : KV), .int .i64 0])) ((((((wz.setCell ⟨rb, 0, none⟩ u0).setCell ⟨rb, 1, none⟩ u1).setCell ⟨rb, 2, none⟩ u2).setCell ⟨rb, 3, none⟩ u3).setCell ⟨rb, 4, none⟩ u4).setCell ⟨rb, 5, none⟩ u5)) := fun u0 u1 u2 u3 u4 u5 => by
          rw [ERR.out]
          exact bd_end (s' := s.setR r (s.reg rs)) (HZ.out.congr (fun j => by by_cases e : j = r <;> simp [e, SD.setR, HSS.out]) (fun j => by by_cases e : j = r <;> simp [e, SD.setR]) (fun j => by by_cases e : j = r <;> simp [e]) (fun j => by by_cases e : j = r <;> simp [e, SD.setR]) (fun _ => rfl)) HNK.out HEW.out HEB.out HNR.out.2.2.2.1 _ _ _ _ _ _
        clear HZ HNK HN7 HEW HEB HSS
        go_wp2
        exact bodyPost_ret (v := .tuple #[KV.v true (⟨⟨some ⟨g1, 0, none⟩, 10, c1⟩, ⟨some ⟨g2, 0, none⟩, 10, c2⟩, ⟨some ⟨g3, 0, none⟩, 10, c3⟩, ⟨some ⟨g4, 0, none⟩, 10, c4⟩, ⟨a5, n5, c5⟩⟩ : KV), .int .i64 0]) (by simp [results, Try.results14, go_sem, *]) rfl (HE.out _ _ _ _ _ _)
end Go.Proofs.Ytmohffibkpecpaa
