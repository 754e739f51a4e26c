/- The document's behind: IBin. -/
import Derived.Test.YtmohffibkpecpaaJC
namespace Go.Proofs.Ytmohffibkpecpaa
open Go.RowKit

theorem sum_just (a b : Option Nat) : (sumO a b).isSome = (a.isSome && b.isSome) := by cases a <;> cases b <;> rfl
theorem less_room {a b : Option Nat} {n : Nat} (h : ∀ v, b = some v → n = v) : roomZ (lessO a b) = if (b.isSome && (decide (0 ≤ roomZ a) && decide ((n : Int) ≤ roomZ a))) = true then roomZ a - n else -1 := by
  cases a with
  | none => cases b <;> simp [lessO, roomZ]
  | some m =>
    cases b with
    | none => simp [lessO, roomZ]
    | some v =>
      obtain rfl := h v rfl
      by_cases hv : n ≤ m
      · have h1 : ((n : Int) ≤ (m : Int)) := by omega
        simp [lessO, roomZ, hv]
        omega
      · have h1 : ¬ ((n : Int) ≤ (m : Int)) := by omega
        simp [lessO, roomZ, hv]
theorem sum_num {a b : Option Nat} {n m : Nat} (ha : ∀ v, a = some v → n = v) (hb : ∀ v, b = some v → m = v) : ∀ v, sumO a b = some v → (n + m) % 18446744073709551616 = v := by
  intro v h
  cases a with
  | none => simp [sumO] at h
  | some x =>
    cases b with
    | none => simp [sumO] at h
    | some y =>
      obtain rfl := ha x rfl
      obtain rfl := hb y rfl
      simpa [sumO] using h
theorem bin3 (r s : RD) : r.bin 3 s = ⟨true, sumO r.just s.just, lessO r.room s.just⟩ := by unfold RD.bin; rw [if_pos rfl]
theorem bin_no (r s : RD) {k : Int} (h : ¬ k = 3) : r.bin k s = RD.any := by unfold RD.bin; rw [if_neg h]
theorem BdK.i3 {w : World} {d : ProgD} {x : InsD} {pb ib kb rb S : Nat} {q : KV} {A B : Nat → Bool} {N : Nat → Nat} {Z : Nat → Int} {L : Nat → Bool} {W : World} (h : BdK w d x pb ib kb rb S q A B N Z L W) : W.cell? ⟨ib, 3, none⟩ = some (.int .i64 x.k) := h.a.i.cell 3

set_option maxHeartbeats 8000000 in
set_option maxRecDepth 20000 in
theorem kbeh_bin (d : ProgD) (x : InsD) (S : Nat) (hS : S ≤ 96) (q : KV) (s : SD) (N : Nat → Nat) (w : World) {m i : Nat} (hd : d.lie w) (hx : GOk d.slots d.ts m i x) (hsl : d.slots = S) (h : KLie S q s N w) (hok : s.ok) (hop : x.op = 3) : Calls Try.prog 14 #[d.v, x.v, KV.v true q] w (BhIs S d.ts x s w) := by
  obtain ⟨W4, hW4⟩ : ∃ W, W = (((w.alloc (.cells #[.int .i64 d.slots, .slice d.tabs.a d.tabs.n d.tabs.c, .slice d.code.a d.code.n d.code.c] 25)).alloc (.cells #[.int .i64 x.op, .int .i64 x.r, .int .i64 x.s, .int .i64 x.k, .int .i64 x.to, .int .u64 x.n] 35)).alloc (.cells (kvA true q) 54)).alloc (.cells zeroK 54) := ⟨_, rfl⟩
  obtain ⟨pb, hpb⟩ : ∃ b, b = w.heap.size := ⟨_, rfl⟩
  obtain ⟨ib, hib⟩ : ∃ b, b = w.heap.size + 1 := ⟨_, rfl⟩
  obtain ⟨kb, hkb⟩ : ∃ b, b = w.heap.size + 1 + 1 := ⟨_, rfl⟩
  obtain ⟨rb, hrb⟩ : ∃ b, b = w.heap.size + 1 + 1 + 1 := ⟨_, rfl⟩
  have HA : Hid (BdAt w d x pb ib kb rb (kvA true q) W4) := by
    refine ⟨?_, ?_, ?_, ?_, ?_⟩
    · rw [hW4, hpb]; exact BoxC.step (boxc_new _ _ _ rfl) (bl_alloc (bl_alloc (bl_alloc (Below.refl _ _))))
    · rw [hW4, hib]; exact BoxC.step (boxc_new _ _ _ (by simp)) (bl_alloc (bl_alloc (Below.refl _ _)))
    · rw [hW4, hkb]; exact BoxC.step (boxc_new _ _ _ (by simp)) (bl_alloc (Below.refl _ _))
    · rw [hW4, hrb]; exact boxc_new _ _ _ (by simp)
    · rw [hW4]; exact bl_alloc (bl_alloc (bl_alloc (bl_alloc (Below.refl _ _))))
  have HKL := hid h
  have HNR : Hid (w.heap.size ≤ pb ∧ w.heap.size ≤ ib ∧ w.heap.size ≤ kb ∧ w.heap.size ≤ rb ∧ ¬ kb = rb ∧ ¬ rb = kb ∧ ¬ kb = ib ∧ ¬ kb = pb ∧ ¬ rb = ib ∧ ¬ rb = pb) := ⟨by omega, by omega, by omega, by omega, by omega, by omega, by omega, by omega, by omega, by omega⟩
  have HX := hid hx
  have HOK := hid hok
  have HD := hid hd
  have HND := hid (fun w => rneeds x hx.op w)
  have EW := hid hW4
  have EP := hid hpb
  have EI := hid hib
  have EK := hid hkb
  have ER := hid hrb
  have hin := needs_in hx.r hx.s
  have hln := needs_len x
  obtain ⟨l, hl⟩ : ∃ l, l = needsL x := ⟨_, rfl⟩
  rw [← hl] at HND hin hln
  have EL := hid hl
  have HIN := hid hin
  obtain ⟨n, hn⟩ : ∃ n, n = l.length := ⟨_, rfl⟩
  have ENL := hid hn
  obtain ⟨R, hR⟩ : ∃ R, R = BhIs S d.ts x s w := ⟨_, rfl⟩
  rw [← hR]
  have ERR := hid hR
  dsimp only [ProgD.v, InsD.v] at HND ⊢
  dsimp only [kvA, zeroK] at EW
  have HSL := hid hsl
  have HOP := hid hop
  clear hop
  clear hW4 hpb hib hkb hrb h hx hok hd hl hin hR hsl
  rw [← hn] at hln
  go_enter Try.func14, Try.ntmps14
  go_upto_region 1 with fail
  rw [← EW.out, ← ER.out, ← EK.out, ← EI.out, ← EP.out]
  clear EW ER EK EI EP
  have i0 : W4.cell? ⟨ib, 0, none⟩ = some (.int .i64 x.op) := HA.out.i.cell 0
  have i1 : W4.cell? ⟨ib, 1, none⟩ = some (.int .i64 x.r) := HA.out.i.cell 1
  have i2 : W4.cell? ⟨ib, 2, none⟩ = some (.int .i64 x.s) := HA.out.i.cell 2
  have i3 : W4.cell? ⟨ib, 3, none⟩ = some (.int .i64 x.k) := HA.out.i.cell 3
  have i4 : W4.cell? ⟨ib, 4, none⟩ = some (.int .i64 x.to) := HA.out.i.cell 4
  have i5 : W4.cell? ⟨ib, 5, none⟩ = some (.int .u64 x.n) := HA.out.i.cell 5
  have hil := HA.out.i.lt
  go_wp2_with fail
  refine (HND.out _).mono ?_
  rintro e w5 ⟨la, lc, rfl, hla, hb5⟩
  have HA5 := hid (HA.out.step hb5)
  have HLA := hid hla
  rw [← ENL.out]
  clear HND HA i0 i1 i2 i3 i4 i5 hil hla hb5 hn
  obtain ⟨g1, o1, e1, n1, c1⟩ := HKL.out.st.pos (by decide)
  have HC1 := hid c1
  have HKC : Hid (∀ w', BoxC w' kb (kvA true q) 54 → w'.cell? ⟨kb, 1, none⟩ = some (.slice (some ⟨g1, o1, none⟩) 10 q.st.c)) := fun w' hk => by
    have h1 : w'.cell? ⟨kb, 1, none⟩ = some (.slice q.st.a q.st.n q.st.c) := hk.cell 1
    rw [e1, n1] at h1
    exact h1
  clear e1 n1 c1
  go_upto_region 2 with fail
  go_wp2
  haveI inhB : ∀ w : World, Inhabited (BelowBy w) := fun w => ⟨⟨w, Below.refl _ _⟩⟩
  go_loopw [9] (fun v wr => ∃ j : Nat, j ≤ n ∧ v = .int .i64 j ∧ Hid (Below w5.heap.size w5 wr) ∧ Hid (∀ t z, t < j → l[t]? = some z → (s.reg z.toNat).set = true)) (fun v _ => n - (intOf v).toNat)
  case atStart => exact ⟨0, Nat.zero_le _, rfl, Below.refl _ _, fun t z ht => absurd ht (Nat.not_lt_zero _)⟩
  case round =>
    obtain ⟨j, hj, rfl, hb, HS⟩ := hrel
    have A := hid (HA5.out.step hb.out)
    by_cases hlt : j < n
    · have hji : (j : Int) < (n : Int) := by omega
      have hlj : l[j]? = some l[j] := List.getElem?_eq_getElem _
      generalize l[j]'(by have := ENL.out; omega) = z at *
      obtain ⟨g, eg, cz⟩ := HLA.out j z hlj
      have hz := HIN.out z (List.mem_of_getElem? hlj)
      obtain ⟨r, rfl⟩ : ∃ r : Nat, z = r := ⟨z.toNat, by omega⟩
      have hri : (r : Int) < 10 := hz.2
      have cz2 := cell_keep cz hb.out
      have k1 := HKC.out wr A.out.k
      have r1 := cell_keep (HC1.out r (by omega)) A.out.bel
      have lg : g < wr.heap.size := World.block_lt_of_cell? _ _ cz2
      have lk : kb < wr.heap.size := World.block_lt_of_cell? _ _ k1
      have lr : g1 < wr.heap.size := World.block_lt_of_cell? _ _ r1
      have cz' := cell_by cz2
      have k1' := cell_by k1
      have r1' := cell_by r1
      obtain ⟨X, hX⟩ : ∃ X, X = (s.reg r).set := ⟨_, rfl⟩
      rw [← hX] at r1 r1'
      have HLJ := hid hlj
      have EX := hid hX
      subst eg
      clear hlj hX cz hz
      go_wp2_with fail
      refine wp_region_quiet_below (by kernel_rfl) (by kernel_rfl) ?_
      repeat (go_big_quiet_step (fail))
      refine wpQuiet_nil ?_
      intro wq hw'
      obtain ⟨⟨_, hwq⟩, hw''⟩ := hw'
      subst hw''
      have AQ := hid (A.out.step hwq)
      have HBQ := hid (bl_step hb.out hwq)
      clear cz2 k1 r1 cz' k1' r1' lg lk lr hwq A hb
      cases X
      · have hrd : readyD s x = false := by
          cases e : readyD s x
          · rfl
          · have := needs_ready.2 e r (by rw [← EL.out]; exact List.mem_of_getElem? HLJ.out)
            rw [Int.toNat_natCast, ← EX.out] at this
            cases this
        have ewr : wrongD d.ts s x = 15 := by unfold wrongD; rw [if_pos hrd]
        have k0 : wq.cell? ⟨kb, 0, none⟩ = some (.bool true) := AQ.out.k.cell 0
        have k1 : wq.cell? ⟨kb, 1, none⟩ = some (.slice q.st.a q.st.n q.st.c) := AQ.out.k.cell 1
        have k2 : wq.cell? ⟨kb, 2, none⟩ = some (.slice q.ju.a q.ju.n q.ju.c) := AQ.out.k.cell 2
        have k3 : wq.cell? ⟨kb, 3, none⟩ = some (.slice q.nu.a q.nu.n q.nu.c) := AQ.out.k.cell 3
        have k4 : wq.cell? ⟨kb, 4, none⟩ = some (.slice q.ro.a q.ro.n q.ro.c) := AQ.out.k.cell 4
        have k5 : wq.cell? ⟨kb, 5, none⟩ = some (.slice q.sl.a q.sl.n q.sl.c) := AQ.out.k.cell 5
        have x0 : wq.cell? ⟨rb, 0, none⟩ = some (.bool false) := AQ.out.r.cell 0
        have x1 : wq.cell? ⟨rb, 1, none⟩ = some (.slice none 0 0) := AQ.out.r.cell 1
        have x2 : wq.cell? ⟨rb, 2, none⟩ = some (.slice none 0 0) := AQ.out.r.cell 2
        have x3 : wq.cell? ⟨rb, 3, none⟩ = some (.slice none 0 0) := AQ.out.r.cell 3
        have x4 : wq.cell? ⟨rb, 4, none⟩ = some (.slice none 0 0) := AQ.out.r.cell 4
        have x5 : wq.cell? ⟨rb, 5, none⟩ = some (.slice none 0 0) := AQ.out.r.cell 5
        have z0 := AQ.out.r.fz 0
        have z1 := AQ.out.r.fz 1
        have z2 := AQ.out.r.fz 2
        have z3 := AQ.out.r.fz 3
        have z4 := AQ.out.r.fz 4
        have z5 := AQ.out.r.fz 5
        have hlr := AQ.out.r.lt
        have hlk := AQ.out.k.lt
        have hn1 := HNR.out.2.2.2.2.1
        have hn2 := HNR.out.2.2.2.2.2.1
        have HE : Hid (∀ u0 u1 u2 u3 u4 u5, R (.returned (.tuple #[KV.v true q, .int .i64 15])) ((((((wq.setCell ⟨rb, 0, none⟩ u0).setCell ⟨rb, 1, none⟩ u1).setCell ⟨rb, 2, none⟩ u2).setCell ⟨rb, 3, none⟩ u3).setCell ⟨rb, 4, none⟩ u4).setCell ⟨rb, 5, none⟩ u5)) := fun u0 u1 u2 u3 u4 u5 => by
          have hw := HNR.out.2.2.2.1
          rw [ERR.out]
          exact ⟨q, N, by rw [ewr], fun e0 => absurd (ewr.symm.trans e0) (by decide), hput1 (hput1 (hput1 (hput1 (hput1 (hput1 AQ.out.bel hw _ _) hw _ _) hw _ _) hw _ _) hw _ _) hw _ _⟩
        clear AQ HBQ HS hrd ewr HLJ EX ERR HX HOK HD HKL
        go_wp2
        exact bodyPost_ret (v := .tuple #[KV.v true q, .int .i64 15]) (by simp [results, Try.results14, go_sem, *]) rfl (HE.out _ _ _ _ _ _)
      · have HS2 : Hid (∀ t z, t < j + 1 → l[t]? = some z → (s.reg z.toNat).set = true) := fun t z ht hz => by
          rcases Nat.lt_or_ge t j with h | h
          · exact HS.out t z h hz
          · obtain rfl : t = j := by omega
            rw [HLJ.out] at hz
            cases hz
            rw [Int.toNat_natCast]
            exact EX.out.symm
        clear AQ HS HLJ EX
        go_wp2
        go_roundw
        case rel => exact ⟨j + 1, by omega, by go_num, HBQ, HS2⟩
        case measure => simp [intOf]; omega
    · have hji : ¬ (j : Int) < (n : Int) := by omega
      have HRD : Hid (readyD s x = true) := needs_ready.1 fun z hz => by
        rw [← EL.out] at hz
        obtain ⟨t, ht, rfl⟩ := List.getElem_of_mem hz
        exact HS.out t _ (by have := ENL.out; omega) (List.getElem?_eq_getElem ht)
      have k0 : wr.cell? ⟨kb, 0, none⟩ = some (.bool true) := A.out.k.cell 0
      have k1 : wr.cell? ⟨kb, 1, none⟩ = some (.slice q.st.a q.st.n q.st.c) := A.out.k.cell 1
      have k2 : wr.cell? ⟨kb, 2, none⟩ = some (.slice q.ju.a q.ju.n q.ju.c) := A.out.k.cell 2
      have k3 : wr.cell? ⟨kb, 3, none⟩ = some (.slice q.nu.a q.nu.n q.nu.c) := A.out.k.cell 3
      have k4 : wr.cell? ⟨kb, 4, none⟩ = some (.slice q.ro.a q.ro.n q.ro.c) := A.out.k.cell 4
      have k5 : wr.cell? ⟨kb, 5, none⟩ = some (.slice q.sl.a q.sl.n q.sl.c) := A.out.k.cell 5
      have hlk := A.out.k.lt
      have HO := hid (kown S hS true q s N wr (HKL.out.step A.out.bel))
      dsimp only [KV.v] at HO
      clear HS HC1 HKC HIN EL HLA hb HA5
      go_wp2_with fail
      refine HO.out.mono ?_
      rintro e w6 ⟨q2, rfl, hk6, hb6⟩
      have A6 := hid (A.out.step hb6)
      have HK6 := hid hk6
      have HAR := A
      have HB6 := hid hb6
      clear HO A hk6 hb6 k0 k1 k2 k3 k4 k5 hlk hji
      have y0 : w6.cell? ⟨kb, 0, none⟩ = some (.bool true) := A6.out.k.cell 0
      have y1 : w6.cell? ⟨kb, 1, none⟩ = some (.slice q.st.a q.st.n q.st.c) := A6.out.k.cell 1
      have y2 : w6.cell? ⟨kb, 2, none⟩ = some (.slice q.ju.a q.ju.n q.ju.c) := A6.out.k.cell 2
      have y3 : w6.cell? ⟨kb, 3, none⟩ = some (.slice q.nu.a q.nu.n q.nu.c) := A6.out.k.cell 3
      have y4 : w6.cell? ⟨kb, 4, none⟩ = some (.slice q.ro.a q.ro.n q.ro.c) := A6.out.k.cell 4
      have y5 : w6.cell? ⟨kb, 5, none⟩ = some (.slice q.sl.a q.sl.n q.sl.c) := A6.out.k.cell 5
      have z0 := A6.out.k.fz 0
      have z1 := A6.out.k.fz 1
      have z2 := A6.out.k.fz 2
      have z3 := A6.out.k.fz 3
      have z4 := A6.out.k.fz 4
      have z5 := A6.out.k.fz 5
      have hlk := A6.out.k.lt
      obtain ⟨W7, hW7⟩ : ∃ W, W = (((((w6.setCell ⟨kb, 0, none⟩ (.bool true)).setCell ⟨kb, 1, none⟩ (.slice q2.st.a q2.st.n q2.st.c)).setCell ⟨kb, 2, none⟩ (.slice q2.ju.a q2.ju.n q2.ju.c)).setCell ⟨kb, 3, none⟩ (.slice q2.nu.a q2.nu.n q2.nu.c)).setCell ⟨kb, 4, none⟩ (.slice q2.ro.a q2.ro.n q2.ro.c)).setCell ⟨kb, 5, none⟩ (.slice q2.sl.a q2.sl.n q2.sl.c) := ⟨_, rfl⟩
      obtain ⟨W0, hW0⟩ : ∃ W, W = (((((wr.setCell ⟨kb, 0, none⟩ (.bool true)).setCell ⟨kb, 1, none⟩ (.slice q2.st.a q2.st.n q2.st.c)).setCell ⟨kb, 2, none⟩ (.slice q2.ju.a q2.ju.n q2.ju.c)).setCell ⟨kb, 3, none⟩ (.slice q2.nu.a q2.nu.n q2.nu.c)).setCell ⟨kb, 4, none⟩ (.slice q2.ro.a q2.ro.n q2.ro.c)).setCell ⟨kb, 5, none⟩ (.slice q2.sl.a q2.sl.n q2.sl.c) := ⟨_, rfl⟩
      have A0 : Hid (BdAt w d x pb ib kb rb (kvA true q2) W0) := by
        have hn := HNR.out
        have hw := hn.2.2.1
        rw [hW0]
        exact ⟨(((((HAR.out.p.far hn.2.2.2.2.2.2.2.1 _ _).far hn.2.2.2.2.2.2.2.1 _ _).far hn.2.2.2.2.2.2.2.1 _ _).far hn.2.2.2.2.2.2.2.1 _ _).far hn.2.2.2.2.2.2.2.1 _ _).far hn.2.2.2.2.2.2.2.1 _ _, (((((HAR.out.i.far hn.2.2.2.2.2.2.1 _ _).far hn.2.2.2.2.2.2.1 _ _).far hn.2.2.2.2.2.2.1 _ _).far hn.2.2.2.2.2.2.1 _ _).far hn.2.2.2.2.2.2.1 _ _).far hn.2.2.2.2.2.2.1 _ _, (((((HAR.out.k.put 0 _).put 1 _).put 2 _).put 3 _).put 4 _).put 5 _, (((((HAR.out.r.far hn.2.2.2.2.1 _ _).far hn.2.2.2.2.1 _ _).far hn.2.2.2.2.1 _ _).far hn.2.2.2.2.1 _ _).far hn.2.2.2.2.1 _ _).far hn.2.2.2.2.1 _ _, hput1 (hput1 (hput1 (hput1 (hput1 (hput1 HAR.out.bel hw _ _) hw _ _) hw _ _) hw _ _) hw _ _) hw _ _⟩
      have HB7 : Hid (Below W0.heap.size W0 W7) := by
        rw [hW7, hW0]
        exact bl_both (bl_both (bl_both (bl_both (bl_both (bl_both HB6.out _ _) _ _) _ _) _ _) _ _) _ _
      have hsz : W0.heap.size = wr.heap.size := by rw [hW0]; simp [World.setCell]
      have HK8 : Hid (KOwn W0.heap.size S q2 s N W7) := by
        rw [hW7, hsz]
        have c0 := A6.out.k
        have c1 := c0.put 0 (.bool true)
        have c2 := c1.put 1 (.slice q2.st.a q2.st.n q2.st.c)
        have c3 := c2.put 2 (.slice q2.ju.a q2.ju.n q2.ju.c)
        have c4 := c3.put 3 (.slice q2.nu.a q2.nu.n q2.nu.c)
        have c5 := c4.put 4 (.slice q2.ro.a q2.ro.n q2.ro.c)
        exact ⟨(((((HK6.out.1.off c0 _ _).off c1 _ _).off c2 _ _).off c3 _ _).off c4 _ _).off c5 _ _, HK6.out.2⟩
      have HLO : Hid (w.heap.size ≤ W0.heap.size) := A0.out.bel.size
      have HK7 := hid (HK8.out.low HLO.out)
      have A7 := hid (A0.out.step HB7.out)
      have E7 := hid hW7
      clear hW7 hW0 hsz A6 HK6 HAR HB6 HKL
      go_upto_region 8 with fail
      rw [← E7.out]
      clear E7 y0 y1 y2 y3 y4 y5 z0 z1 z2 z3 z4 z5 hlk
      have i0 : W7.cell? ⟨ib, 0, none⟩ = some (.int .i64 x.op) := A7.out.i.cell 0
      have hil := A7.out.i.lt
      have hop := HOP.out
      obtain ⟨r, hr⟩ : ∃ r : Nat, x.r = r := ⟨x.r.toNat, by have := HX.out.r; omega⟩
      have hr10 : r < 10 := by have := HX.out.r; omega
      have hri : (r : Int) < 10 := by omega
      obtain ⟨nn, hnn⟩ : ∃ r : Nat, x.n = r := ⟨x.n.toNat, by have := HX.out.n; omega⟩
      have HNL : Hid (nn < 18446744073709551616) := by have := HX.out.n; show _ < _; omega
      obtain ⟨g1, g2, g3, g4, ka⟩ := HK7.out.1.blocks
      obtain ⟨⟨a1, n1, c1⟩, ⟨a2, n2, c2⟩, ⟨a3, n3, c3⟩, ⟨a4, n4, c4⟩, ⟨a5, n5, c5⟩⟩ := q2
      obtain rfl : a1 = some ⟨g1, 0, none⟩ := ka.e1
      obtain rfl : a2 = some ⟨g2, 0, none⟩ := ka.e2
      obtain rfl : a3 = some ⟨g3, 0, none⟩ := ka.e3
      obtain rfl : a4 = some ⟨g4, 0, none⟩ := ka.e4
      obtain rfl : n1 = 10 := ka.n1
      obtain rfl : n2 = 10 := ka.n2
      obtain rfl : n3 = 10 := ka.n3
      obtain rfl : n4 = 10 := ka.n4
      have HKA := hid ka
      have HR := hid hr
      have HNN := hid hnn
      have hn1 := HNR.out.2.2.2.2.1
      have hn2 := HNR.out.2.2.2.2.2.1
      have hn3 := HNR.out.2.2.2.2.2.2.1
      rw [hop] at i0
      obtain ⟨rs, hrs⟩ : ∃ r : Nat, x.s = r := ⟨x.s.toNat, by have := HX.out.s (by omega); omega⟩
      have hs10 : rs < 10 := by have := HX.out.s (by omega); omega
      have hsi : (rs : Int) < 10 := by omega
      have HRS := hid hrs
      have ewr : wrongD d.ts s x = 0 := by
        have ha : askedD d.ts s x = true := by
          unfold askedD
          rw [if_neg (by omega), if_neg (by omega)]
        unfold wrongD
        rw [if_neg (by rw [HRD.out]; decide), if_neg (by omega), if_neg (by omega), if_neg (by rw [ha]; decide)]
      have HEW := hid ewr
      have ebh : bhD d.ts s x = s.setR r ((s.reg r).bin x.k (s.reg rs)) := by
        unfold bhD behindD
        rw [if_neg (by omega), if_neg (by omega), if_neg (by omega), if_pos (by omega), hr, hrs, Int.toNat_natCast, Int.toNat_natCast]
      have HEB := hid ebh
      have HKZ0 := hid (BdK.mk A7.out HK7.out.1)
      have HN7 := hid HK7.out.2
      obtain ⟨JA, hJA⟩ : ∃ b, b = (s.reg r).just.isSome := ⟨_, rfl⟩
      obtain ⟨JB, hJB⟩ : ∃ b, b = (s.reg rs).just.isSome := ⟨_, rfl⟩
      obtain ⟨RM, hRM⟩ : ∃ z, z = roomZ (s.reg r).room := ⟨_, rfl⟩
      obtain ⟨NR, hNR⟩ : ∃ n, n = N r := ⟨_, rfl⟩
      obtain ⟨NS, hNS⟩ : ∃ n, n = N rs := ⟨_, rfl⟩
      have hrm : -1 ≤ RM ∧ RM ≤ 600 := by
        rw [hRM]
        cases e : (s.reg r).room with
        | none => simp [roomZ]
        | some m => have := (HOK.out r).2.1 m e; simp only [roomZ]; omega
      have hnrl : NR < 18446744073709551616 := by rw [hNR]; exact (HN7.out r hr10).1
      have hnsl : NS < 18446744073709551616 := by rw [hNS]; exact (HN7.out rs hs10).1
      have q2c := HKZ0.out.k2 ka
      have q3c := HKZ0.out.k3 ka
      have q4c := HKZ0.out.k4 ka
      have i1 := HKZ0.out.i1 hr
      have i2 := HKZ0.out.i2 hrs
      have rgr := HKZ0.out.k.reg ka hr10
      have rgs := HKZ0.out.k.reg ka hs10
      have c2r := rgr.c2
      have c3r := rgr.c3
      have c4r := rgr.c4
      have c2s := rgs.c2
      have c3s := rgs.c3
      have l2 := rgr.l2
      have l3 := rgr.l3
      have l4 := rgr.l4
      have hlk := A7.out.k.lt
      rw [← hJA] at c2r
      rw [← hJB] at c2s
      rw [← hRM] at c4r
      rw [← hNR] at c3r
      rw [← hNS] at c3s
      have HC : Hid (∀ w', Below W7.heap.size W7 w' → w'.cell? ⟨kb, 2, none⟩ = some (.slice (some ⟨g2, 0, none⟩) 10 c2) ∧ w'.cell? ⟨kb, 3, none⟩ = some (.slice (some ⟨g3, 0, none⟩) 10 c3) ∧ w'.cell? ⟨ib, 2, none⟩ = some (.int .i64 (rs : Int)) ∧ w'.cell? ⟨g2, rs, none⟩ = some (.bool JB) ∧ w'.cell? ⟨g3, rs, none⟩ = some (.int .u64 (NS : Int))) := fun w' hb => ⟨cell_keep q2c hb, cell_keep q3c hb, cell_keep i2 hb, cell_keep c2s hb, cell_keep c3s hb⟩
      have HKS : Hid (∀ w', Below W7.heap.size W7 w' → Calls Try.prog 29 #[.agg #[.bool true, .slice (some ⟨g1, 0, none⟩) 10 c1, .slice (some ⟨g2, 0, none⟩) 10 c2, .slice (some ⟨g3, 0, none⟩) 10 c3, .slice (some ⟨g4, 0, none⟩) 10 c4, .slice a5 n5 c5], .int .i64 (r : Int)] w' (KDone W0 S true (⟨⟨some ⟨g1, 0, none⟩, 10, c1⟩, ⟨some ⟨g2, 0, none⟩, 10, c2⟩, ⟨some ⟨g3, 0, none⟩, 10, c3⟩, ⟨some ⟨g4, 0, none⟩, 10, c4⟩, ⟨a5, n5, c5⟩⟩ : KV) (s.setR r RD.any))) := fun w' hb => ksome (t := true) (HK8.out.step hb) (bl_step HB7.out hb) r hr10
      have HA7 := A7
      have HJA := hid hJA
      have HJB := hid hJB
      have HRM := hid hRM
      have HNR' := hid hNR
      have HNS := hid hNS
      have HRMB := hid hrm
      have q2c' := cell_by q2c
      have q3c' := cell_by q3c
      have q4c' := cell_by q4c
      have i1' := cell_by i1
      have i2' := cell_by i2
      have c2r' := cell_by c2r
      have c3r' := cell_by c3r
      have c4r' := cell_by c4r
      have c2s' := cell_by c2s
      have c3s' := cell_by c3s
      clear ewr ebh ka HRD HX hop hr hnn hrs A7 HK7 HK8 HB7 rgr rgs hJA hJB hRM hNR hNS hrm
      go_wp2_with fail
      go_cut [10, 11, 12] (fun v10 v11 v12 wx => ∃ (jj : Bool) (z : Nat), v10 = .int .i64 RM ∧ v11 = .bool jj ∧ v12 = .int .u64 (z : Int) ∧ Hid (jj = (JA && JB)) ∧ Hid (z = (NR + NS) % 18446744073709551616) ∧ Hid (Below W7.heap.size W7 wx))
      case first =>
        cases JA
        all_goals
          refine wp_region_quiet_below (by kernel_rfl) (by kernel_rfl) ?_
          repeat (go_big_quiet_step (fail))
          refine wpQuiet_nil ?_
          intro wq hw'
          obtain ⟨⟨_, hwq⟩, hw''⟩ := hw'
          subst hw''
          go_wp2_with fail
          go_meet
          refine ⟨_, (NR + NS) % 18446744073709551616, by simp, rfl, ?_, by show _ = _; simp, rfl, hwq⟩
          simp [IntKind.wrap, IntKind.bits, IntKind.signed]
      case rest =>
        obtain ⟨jj, z, rfl, rfl, rfl, HJJ, HZ, HBX⟩ := hcut
        obtain ⟨u2, u3, u4, u5, u6⟩ := HC.out _ HBX.out
        clear q2c q3c q4c i1 i2 c2r c3r c4r c2s c3s q2c' q3c' q4c' i1' i2' c2r' c3r' c4r' c2s' c3s'
        go_upto_region 18 with fail
        go_cut [13] from 141 to 161 (fun v13 wx => v13 = .bool (JB && (decide (0 ≤ RM) && decide ((NS : Int) ≤ RM))) ∧ Hid (Below W7.heap.size W7 wx))
        case first =>
          have hrm := HRMB.out
          have l2' := World.block_lt_of_cell? _ _ u5
          have l3' := World.block_lt_of_cell? _ _ u6
          have lk' := World.block_lt_of_cell? _ _ u2
          have li' := World.block_lt_of_cell? _ _ u4
          cases JB
          · go_wp2_with fail
            go_meet
            exact ⟨by simp, HBX⟩
          · by_cases h0 : 0 ≤ RM
            · obtain ⟨m0, rfl⟩ : ∃ m0 : Nat, RM = (m0 : Int) := ⟨RM.toNat, by omega⟩
              have hm0 : m0 ≤ 600 := by omega
              have hwm : IntKind.u64.wrap (m0 : Int) = (m0 : Int) := by simp [IntKind.wrap, IntKind.bits, IntKind.signed]; omega
              clear hrm h0
              go_wp2_with fail
              go_meet
              exact ⟨by simp, HBX⟩
            · have h0' : decide (0 ≤ RM) = false := decide_eq_false h0
              have h0'' : ¬ RM ≥ 0 := h0
              go_wp2_with fail
              go_meet
              exact ⟨by simp [h0'], HBX⟩
        case rest =>
          obtain ⟨rfl, HBY⟩ := hcut
          obtain ⟨u2, u3, u4, u5, u6⟩ := HC.out _ HBY.out
          have A := HA7.out.step HBY.out
          have k0 := (A.k.cell 0).trans (rfl : _ = some (Value.bool true))
          have k1 := (A.k.cell 1).trans (rfl : _ = some (Value.slice (some ⟨g1, 0, none⟩) 10 c1))
          have k2 := (A.k.cell 2).trans (rfl : _ = some (Value.slice (some ⟨g2, 0, none⟩) 10 c2))
          have k3 := (A.k.cell 3).trans (rfl : _ = some (Value.slice (some ⟨g3, 0, none⟩) 10 c3))
          have k4 := (A.k.cell 4).trans (rfl : _ = some (Value.slice (some ⟨g4, 0, none⟩) 10 c4))
          have k5 := (A.k.cell 5).trans (rfl : _ = some (Value.slice a5 n5 c5))
          have i1 := (HKZ0.out.step HBY.out).i1 HR.out
          have hlk := A.k.lt
          have hil := A.i.lt
          have HKS2 := hid (HKS.out _ HBY.out)
          obtain ⟨FF, hFF⟩ : ∃ b, b = (JB && (decide (0 ≤ RM) && decide ((NS : Int) ≤ RM))) := ⟨_, rfl⟩
          rw [← hFF]
          have HFF := hid hFF
          clear A HC HKS hFF
          go_wp2_with fail
          refine HKS2.out.mono ?_
          rintro e w8 ⟨rfl, ⟨N8, hk8⟩, hb8⟩
          have HK := hid (BdK.mk (A0.out.step hb8) (hk8.low HLO.out).1)
          have HN8 := hid hk8.2
          clear HKS2 hk8 hb8 k0 k1 k2 k3 k4 k5 hlk i1 hil u2 u3 u4 u5 u6
          have k0 : w8.cell? ⟨kb, 0, none⟩ = some (.bool true) := HK.out.a.k.cell 0
          have k1 : w8.cell? ⟨kb, 1, none⟩ = some (.slice (some ⟨g1, 0, none⟩) 10 c1) := HK.out.a.k.cell 1
          have k2 : w8.cell? ⟨kb, 2, none⟩ = some (.slice (some ⟨g2, 0, none⟩) 10 c2) := HK.out.a.k.cell 2
          have k3 : w8.cell? ⟨kb, 3, none⟩ = some (.slice (some ⟨g3, 0, none⟩) 10 c3) := HK.out.a.k.cell 3
          have k4 : w8.cell? ⟨kb, 4, none⟩ = some (.slice (some ⟨g4, 0, none⟩) 10 c4) := HK.out.a.k.cell 4
          have k5 : w8.cell? ⟨kb, 5, none⟩ = some (.slice a5 n5 c5) := HK.out.a.k.cell 5
          have hlk := HK.out.a.k.lt
          have y0 := HK.out.a.k.fz 0
          have y1 := HK.out.a.k.fz 1
          have y2 := HK.out.a.k.fz 2
          have y3 := HK.out.a.k.fz 3
          have y4 := HK.out.a.k.fz 4
          have y5 := HK.out.a.k.fz 5
          obtain ⟨W9, hW9⟩ : ∃ W, W = ((((((w8.setCell ⟨kb, 0, none⟩ (.bool true)).setCell ⟨kb, 1, none⟩ (.slice (some ⟨g1, 0, none⟩) 10 c1)).setCell ⟨kb, 2, none⟩ (.slice (some ⟨g2, 0, none⟩) 10 c2)).setCell ⟨kb, 3, none⟩ (.slice (some ⟨g3, 0, none⟩) 10 c3)).setCell ⟨kb, 4, none⟩ (.slice (some ⟨g4, 0, none⟩) 10 c4)).setCell ⟨kb, 5, none⟩ (.slice a5 n5 c5)) := ⟨_, rfl⟩
          have HKZ := hid (HK.out.again HNR.out.2.2.2.2.2.2.1 HNR.out.2.2.2.2.2.2.2.1 HNR.out.2.2.2.2.1 HNR.out.2.2.1)
          dsimp only at HKZ
          rw [← hW9] at HKZ
          have E9 := hid hW9
          clear hW9 HA7 A0 HK HKZ0 HBX HBY
          go_upto_region 21 with fail
          rw [← E9.out]
          clear E9 k0 k1 k2 k3 k4 k5 hlk y0 y1 y2 y3 y4 y5
          have hA := HKZ.out.a
          have k0 : W9.cell? ⟨kb, 0, none⟩ = some (.bool true) := hA.k.cell 0
          have k1 : W9.cell? ⟨kb, 1, none⟩ = some (.slice (some ⟨g1, 0, none⟩) 10 c1) := hA.k.cell 1
          have k2 : W9.cell? ⟨kb, 2, none⟩ = some (.slice (some ⟨g2, 0, none⟩) 10 c2) := hA.k.cell 2
          have k3 : W9.cell? ⟨kb, 3, none⟩ = some (.slice (some ⟨g3, 0, none⟩) 10 c3) := hA.k.cell 3
          have k4 : W9.cell? ⟨kb, 4, none⟩ = some (.slice (some ⟨g4, 0, none⟩) 10 c4) := hA.k.cell 4
          have k5 : W9.cell? ⟨kb, 5, none⟩ = some (.slice a5 n5 c5) := hA.k.cell 5
          have hlk := hA.k.lt
          have x0 : W9.cell? ⟨rb, 0, none⟩ = some (.bool false) := hA.r.cell 0
          have x1 : W9.cell? ⟨rb, 1, none⟩ = some (.slice none 0 0) := hA.r.cell 1
          have x2 : W9.cell? ⟨rb, 2, none⟩ = some (.slice none 0 0) := hA.r.cell 2
          have x3 : W9.cell? ⟨rb, 3, none⟩ = some (.slice none 0 0) := hA.r.cell 3
          have x4 : W9.cell? ⟨rb, 4, none⟩ = some (.slice none 0 0) := hA.r.cell 4
          have x5 : W9.cell? ⟨rb, 5, none⟩ = some (.slice none 0 0) := hA.r.cell 5
          have z0 := hA.r.fz 0
          have z1 := hA.r.fz 1
          have z2 := hA.r.fz 2
          have z3 := hA.r.fz 3
          have z4 := hA.r.fz 4
          have z5 := hA.r.fz 5
          have hlr := hA.r.lt
          have i3 := HKZ.out.i3
          have i1 := HKZ.out.i1 HR.out
          have hil := hA.i.lt
          by_cases hK3 : x.k = 3
          · rw [hK3] at i3
            have HEB3 : Hid (bhD d.ts s x = s.setR r ⟨true, sumO (s.reg r).just (s.reg rs).just, lessO (s.reg r).room (s.reg rs).just⟩) := by show _ = _; rw [HEB.out, hK3, bin3]
            have HLR : Hid (roomZ (lessO (s.reg r).room (s.reg rs).just) = if FF = true then RM - NS else -1) := by
              show _ = _
              rw [HFF.out, HRM.out, HJB.out, HNS.out]
              exact less_room (HN7.out rs hs10).2
            have HSJ : Hid ((sumO (s.reg r).just (s.reg rs).just).isSome = jj) := by show _ = _; rw [HJJ.out, HJA.out, HJB.out]; exact sum_just _ _
            have HSP : Hid (((s.setR r ⟨true, sumO (s.reg r).just (s.reg rs).just, lessO (s.reg r).room (s.reg rs).just⟩).reg r).just.isSome = jj) := by show _ = _; simp only [SD.setR, if_true]; exact HSJ.out
            have HNK : Hid (jj = true → numOk (s.setR r ⟨true, sumO (s.reg r).just (s.reg rs).just, lessO (s.reg r).room (s.reg rs).just⟩) (fun j => if j = r then z else N8 j)) := fun _ j hj => by
              by_cases e : j = r
              · simp only [if_pos e, SD.setR]
                refine ⟨by rw [HZ.out]; omega, fun n hn => ?_⟩
                rw [HZ.out, HNR'.out, HNS.out]
                exact sum_num (HN7.out r hr10).2 (HN7.out rs hs10).2 n hn
              · simp only [if_neg e, SD.setR]
                have := HN8.out j hj
                simp only [SD.setR, if_neg e] at this
                exact this
            have HNK0 : Hid (jj = false → numOk (s.setR r ⟨true, sumO (s.reg r).just (s.reg rs).just, lessO (s.reg r).room (s.reg rs).just⟩) N8) := fun h0 j hj => by
              have h8 := HN8.out j hj
              by_cases e : j = r
              · simp only [if_pos e, SD.setR] at h8 ⊢
                refine ⟨h8.1, fun n hn => ?_⟩
                have := HSJ.out
                rw [hn, h0] at this
                cases this
              · simp only [if_neg e, SD.setR] at h8 ⊢
                exact h8
            have cc4 := (HKZ.out.k.reg HKA.out hr10).c4
            have f4 := (HKZ.out.k.reg HKA.out hr10).f4
            have l4 := (HKZ.out.k.reg HKA.out hr10).l4
            have ne4 : ¬ g4 = rb ∧ ¬ g4 = kb ∧ ¬ g4 = ib := by
              obtain ⟨g, e, _, cur, hh⟩ := HKZ.out.k.ro.block (by omega)
              have e : some (Addr.mk g4 0 none) = some ⟨g, 0, none⟩ := e
              cases e
              refine ⟨fun e => ?_, fun e => ?_, fun e => ?_⟩
              · have := hA.r; subst e; rw [BoxC, hh] at this; simp at this
              · have := hA.k; subst e; rw [BoxC, hh] at this; simp at this
              · have := hA.i; subst e; rw [BoxC, hh] at this; simp at this
            obtain ⟨m1, m2, m3⟩ := ne4
            have HK3 := hid hK3
            clear hA hK3
            cases FF
            · cases jj
              · have HLM : Hid (roomZ ((s.setR r ⟨true, sumO (s.reg r).just (s.reg rs).just, lessO (s.reg r).room (s.reg rs).just⟩).reg r).room = -1) := by show _ = _; simp only [SD.setR, if_true]; rw [HLR.out, if_neg (by decide)]
                have HE : Hid (∀ u0 u1 u2 u3 u4 u5, R (.returned (.tuple #[KV.v true (⟨⟨some ⟨g1, 0, none⟩, 10, c1⟩, ⟨some ⟨g2, 0, none⟩, 10, c2⟩, ⟨some ⟨g3, 0, none⟩, 10, c3⟩, ⟨some ⟨g4, 0, none⟩, 10, c4⟩, ⟨a5, n5, c5⟩⟩ : KV), .int .i64 0])) ((((((W9.setCell ⟨rb, 0, none⟩ u0).setCell ⟨rb, 1, none⟩ u1).setCell ⟨rb, 2, none⟩ u2).setCell ⟨rb, 3, none⟩ u3).setCell ⟨rb, 4, none⟩ u4).setCell ⟨rb, 5, none⟩ u5)) := fun u0 u1 u2 u3 u4 u5 => by
                  rw [ERR.out]
                  exact bd_end (s' := s.setR r ⟨true, sumO (s.reg r).just (s.reg rs).just, lessO (s.reg r).room (s.reg rs).just⟩) (HKZ.out.congr (fun j => by by_cases e : j = r <;> simp [e, SD.setR, RD.any]) (fun j => if e : j = r then (by subst e; exact Eq.trans (by first | (simp; done) | simp [SD.setR, RD.any]) HSP.out.symm) else (by simp [e, SD.setR, RD.any])) (fun _ => rfl) (fun j => if e : j = r then (by subst e; exact Eq.trans (by first | (simp; done) | simp [SD.setR, RD.any, roomZ]) HLM.out.symm) else (by simp [e, SD.setR, RD.any])) (fun _ => rfl)) (HNK0.out (by simp)) HEW.out HEB3.out HNR.out.2.2.2.1 _ _ _ _ _ _
                clear HKZ HN8 HEW HEB HEB3 HNK HNK0 HLR HSJ HSP HLM
                go_wp2
                exact bodyPost_ret (v := .tuple #[KV.v true (⟨⟨some ⟨g1, 0, none⟩, 10, c1⟩, ⟨some ⟨g2, 0, none⟩, 10, c2⟩, ⟨some ⟨g3, 0, none⟩, 10, c3⟩, ⟨some ⟨g4, 0, none⟩, 10, c4⟩, ⟨a5, n5, c5⟩⟩ : KV), .int .i64 0]) (by simp [results, Try.results14, go_sem, *]) rfl (HE.out _ _ _ _ _ _)
              · have HLM : Hid (roomZ ((s.setR r ⟨true, sumO (s.reg r).just (s.reg rs).just, lessO (s.reg r).room (s.reg rs).just⟩).reg r).room = -1) := by show _ = _; simp only [SD.setR, if_true]; rw [HLR.out, if_neg (by decide)]
                clear k0 k1 k2 k3 k4 k5 hlk x0 x1 x2 x3 x4 x5 z0 z1 z2 z3 z4 z5 hlr
                go_wp2_with fail
                clear i3 i1 hil cc4 f4 l4
                refine wp_region_rowsJ (some 193 :: some 194 :: some 195 :: some 196 :: some 197 :: some 198 :: some 199 :: some 200 :: some 201 :: some 202 :: none :: some 203 :: none :: []) (by kernel_rfl) (by kernel_rfl) (fun d hd => by simp only [List.mem_cons, List.not_mem_nil, or_false, Option.some.injEq, reduceCtorEq, false_or] at hd; show d < 305; omega) (fun i => (((.pointer (some ⟨kb, 2, none⟩)) :: (.slice (some ⟨g2, 0, none⟩) 10 c2) :: (.pointer (some ⟨ib, 1, none⟩)) :: (.int .i64 (r : Int)) :: (.pointer (some ⟨kb, 3, none⟩)) :: (.slice (some ⟨g3, 0, none⟩) 10 c3) :: (.pointer (some ⟨ib, 1, none⟩)) :: (.int .i64 (r : Int)) :: (.int .u64 (z : Int)) :: (.pointer (some ⟨g2, r, none⟩)) :: (undef) :: (.pointer (some ⟨g3, r, none⟩)) :: (undef) :: [] : List Value)).getD i undef) (fun done w1 => BdK w d x pb ib kb rb S (⟨⟨some ⟨g1, 0, none⟩, 10, c1⟩, ⟨some ⟨g2, 0, none⟩, 10, c2⟩, ⟨some ⟨g3, 0, none⟩, 10, c3⟩, ⟨some ⟨g4, 0, none⟩, 10, c4⟩, ⟨a5, n5, c5⟩⟩ : KV) (fun j => ((s.setR r RD.any).reg j).set) (fun j => if done 10 = true ∧ j = r then true else ((s.setR r RD.any).reg j).just.isSome) (fun j => if done 12 = true ∧ j = r then z else N8 j) (fun j => roomZ ((s.setR r RD.any).reg j).room) ((s.setR r RD.any).slot) w1) (BdK.congr (HKZ.out.step (Below.refl _ _).drew) (fun _ => by simp) (fun _ => by simp) (fun _ => by simp) (fun _ => by simp) (fun _ => rfl)) ?_ ?_
                · intro i o hi ho done a1 w1 hj hdi hold hdep
                  have t4 : a1.tmps[4]? = some (.pointer (some ⟨ib, 0, none⟩)) := hold 4 (by decide)
                  have t5 : a1.tmps[5]? = some (.pointer (some ⟨kb, 0, none⟩)) := hold 5 (by decide)
                  have hrg := hj.k.reg HKA.out hr10
                  have hi : i < 13 := hi
                  rcases (show i = 0 ∨ i = 1 ∨ i = 2 ∨ i = 3 ∨ i = 4 ∨ i = 5 ∨ i = 6 ∨ i = 7 ∨ i = 8 ∨ i = 9 ∨ i = 10 ∨ i = 11 ∨ i = 12 by omega) with rfl | rfl | rfl | rfl | rfl | rfl | rfl | rfl | rfl | rfl | rfl | rfl | rfl
                  all_goals
                    simp only [List.getElem?_cons_succ, List.getElem?_cons_zero, Option.some.injEq] at ho
                    subst ho
                  · exact ⟨w1, .inl (by simp [execOp, go_sem, t5]), hj⟩
                  · have hv : a1.tmps[193]? = some (.pointer (some ⟨kb, 2, none⟩)) := (hdep { on := 0, ground := .data } (by simp) rfl).2 _ rfl
                    have hc := hj.k2 HKA.out
                    exact ⟨w1, .inl (by simp [execOp, go_sem, hv, hc]), hj⟩
                  · exact ⟨w1, .inl (by simp [execOp, go_sem, t4]), hj⟩
                  · have hv : a1.tmps[195]? = some (.pointer (some ⟨ib, 1, none⟩)) := (hdep { on := 2, ground := .data } (by simp) rfl).2 _ rfl
                    have hc := hj.i1 HR.out
                    exact ⟨w1, .inl (by simp [execOp, go_sem, hv, hc]), hj⟩
                  · exact ⟨w1, .inl (by simp [execOp, go_sem, t5]), hj⟩
                  · have hv : a1.tmps[197]? = some (.pointer (some ⟨kb, 3, none⟩)) := (hdep { on := 4, ground := .data } (by simp) rfl).2 _ rfl
                    have hc := hj.k3 HKA.out
                    exact ⟨w1, .inl (by simp [execOp, go_sem, hv, hc]), hj⟩
                  · exact ⟨w1, .inl (by simp [execOp, go_sem, t4]), hj⟩
                  · have hv : a1.tmps[199]? = some (.pointer (some ⟨ib, 1, none⟩)) := (hdep { on := 6, ground := .data } (by simp) rfl).2 _ rfl
                    have hc := hj.i1 HR.out
                    exact ⟨w1, .inl (by simp [execOp, go_sem, hv, hc]), hj⟩
                  · have tm : a1.tmps[12]? = some (.int .u64 (z : Int)) := hold 12 (by decide)
                    exact ⟨w1, .inl (by simp [execOp, go_sem, tm]), hj⟩
                  · have hv : a1.tmps[194]? = some (.slice (some ⟨g2, 0, none⟩) 10 c2) := (hdep { on := 1, ground := .data } (by simp) rfl).2 _ rfl
                    have hv2 : a1.tmps[196]? = some (.int .i64 (r : Int)) := (hdep { on := 3, ground := .data } (by simp) rfl).2 _ rfl
                    exact ⟨w1, .inl (by simp [execOp, go_sem, hv, hv2, hri]), hj⟩
                  · have hv : a1.tmps[202]? = some (.pointer (some ⟨g2, r, none⟩)) := (hdep { on := 9, ground := .data } (by simp) rfl).2 _ rfl
                    refine ⟨w1.setCell ⟨g2, r, none⟩ (.bool true), .inr ⟨rfl, by simp [execOp, go_sem, hv, hrg.c2, hrg.f2]⟩, ?_⟩
                    exact (hj.putB HKA.out hr10 true).congr (fun _ => rfl) (fun j => by by_cases e : j = r <;> simp [e, hdi]) (fun _ => rfl) (fun _ => rfl) (fun _ => rfl)
                  · have hv : a1.tmps[198]? = some (.slice (some ⟨g3, 0, none⟩) 10 c3) := (hdep { on := 5, ground := .data } (by simp) rfl).2 _ rfl
                    have hv2 : a1.tmps[200]? = some (.int .i64 (r : Int)) := (hdep { on := 7, ground := .data } (by simp) rfl).2 _ rfl
                    exact ⟨w1, .inl (by simp [execOp, go_sem, hv, hv2, hri]), hj⟩
                  · have hv : a1.tmps[203]? = some (.pointer (some ⟨g3, r, none⟩)) := (hdep { on := 11, ground := .data } (by simp) rfl).2 _ rfl
                    have hv2 : a1.tmps[201]? = some (.int .u64 (z : Int)) := (hdep { on := 8, ground := .data } (by simp) rfl).2 _ rfl
                    refine ⟨w1.setCell ⟨g3, r, none⟩ (.int .u64 (z : Int)), .inr ⟨rfl, by simp [execOp, go_sem, hv, hv2, hrg.c3, hrg.f3]⟩, ?_⟩
                    exact (hj.putN HKA.out hr10 z).congr (fun _ => rfl) (fun _ => rfl) (fun j => by by_cases e : j = r <;> simp [e, hdi]) (fun _ => rfl) (fun _ => rfl)
                · intro wz hz
                  simp only [putsO, Act.put, List.length_cons, List.length_nil, List.getD_cons_zero, List.getD_cons_succ, List.setIfInBounds_toArray, List.set_cons_succ, List.set_cons_zero]
                  have HQ := hid hz
                  have hA := hz.a
                  have k0 : wz.cell? ⟨kb, 0, none⟩ = some (.bool true) := hA.k.cell 0
                  have k1 : wz.cell? ⟨kb, 1, none⟩ = some (.slice (some ⟨g1, 0, none⟩) 10 c1) := hA.k.cell 1
                  have k2 : wz.cell? ⟨kb, 2, none⟩ = some (.slice (some ⟨g2, 0, none⟩) 10 c2) := hA.k.cell 2
                  have k3 : wz.cell? ⟨kb, 3, none⟩ = some (.slice (some ⟨g3, 0, none⟩) 10 c3) := hA.k.cell 3
                  have k4 : wz.cell? ⟨kb, 4, none⟩ = some (.slice (some ⟨g4, 0, none⟩) 10 c4) := hA.k.cell 4
                  have k5 : wz.cell? ⟨kb, 5, none⟩ = some (.slice a5 n5 c5) := hA.k.cell 5
                  have hlk := hA.k.lt
                  have x0 : wz.cell? ⟨rb, 0, none⟩ = some (.bool false) := hA.r.cell 0
                  have x1 : wz.cell? ⟨rb, 1, none⟩ = some (.slice none 0 0) := hA.r.cell 1
                  have x2 : wz.cell? ⟨rb, 2, none⟩ = some (.slice none 0 0) := hA.r.cell 2
                  have x3 : wz.cell? ⟨rb, 3, none⟩ = some (.slice none 0 0) := hA.r.cell 3
                  have x4 : wz.cell? ⟨rb, 4, none⟩ = some (.slice none 0 0) := hA.r.cell 4
                  have x5 : wz.cell? ⟨rb, 5, none⟩ = some (.slice none 0 0) := hA.r.cell 5
                  have z0 := hA.r.fz 0
                  have z1 := hA.r.fz 1
                  have z2 := hA.r.fz 2
                  have z3 := hA.r.fz 3
                  have z4 := hA.r.fz 4
                  have z5 := hA.r.fz 5
                  have hlr := hA.r.lt
                  have HE : Hid (∀ u0 u1 u2 u3 u4 u5, R (.returned (.tuple #[KV.v true (⟨⟨some ⟨g1, 0, none⟩, 10, c1⟩, ⟨some ⟨g2, 0, none⟩, 10, c2⟩, ⟨some ⟨g3, 0, none⟩, 10, c3⟩, ⟨some ⟨g4, 0, none⟩, 10, c4⟩, ⟨a5, n5, c5⟩⟩ : KV), .int .i64 0])) ((((((wz.setCell ⟨rb, 0, none⟩ u0).setCell ⟨rb, 1, none⟩ u1).setCell ⟨rb, 2, none⟩ u2).setCell ⟨rb, 3, none⟩ u3).setCell ⟨rb, 4, none⟩ u4).setCell ⟨rb, 5, none⟩ u5)) := fun u0 u1 u2 u3 u4 u5 => by
                    rw [ERR.out]
                    exact bd_end (s' := s.setR r ⟨true, sumO (s.reg r).just (s.reg rs).just, lessO (s.reg r).room (s.reg rs).just⟩) (HQ.out.congr (fun j => by by_cases e : j = r <;> simp [e, SD.setR, RD.any]) (fun j => if e : j = r then (by subst e; exact Eq.trans (by first | (simp; done) | simp [SD.setR, RD.any]) HSP.out.symm) else (by simp [e, SD.setR, RD.any])) (fun j => by by_cases e : j = r <;> simp [e]) (fun j => if e : j = r then (by subst e; exact Eq.trans (by first | (simp; done) | simp [SD.setR, RD.any, roomZ]) HLM.out.symm) else (by simp [e, SD.setR, RD.any])) (fun _ => rfl)) (HNK.out (by simp)) HEW.out HEB3.out HNR.out.2.2.2.1 _ _ _ _ _ _
                  clear hz hA HQ HKZ HN8 HEW HEB HEB3 HNK HNK0 HLR HSJ HSP
                  go_wp2
                  exact bodyPost_ret (v := .tuple #[KV.v true (⟨⟨some ⟨g1, 0, none⟩, 10, c1⟩, ⟨some ⟨g2, 0, none⟩, 10, c2⟩, ⟨some ⟨g3, 0, none⟩, 10, c3⟩, ⟨some ⟨g4, 0, none⟩, 10, c4⟩, ⟨a5, n5, c5⟩⟩ : KV), .int .i64 0]) (by simp [results, Try.results14, go_sem, *]) rfl (HE.out _ _ _ _ _ _)
            · have hfit : 0 ≤ RM ∧ (NS : Int) ≤ RM := by
                have := HFF.out.symm
                simp only [Bool.and_eq_true, decide_eq_true_eq] at this
                exact this.2
              obtain ⟨zz, hzz⟩ : ∃ zz, zz = RM - (NS : Int) := ⟨_, rfl⟩
              have hrm := HRMB.out
              have wz1 : IntKind.i64.wrap (NS : Int) = (NS : Int) := wrap_small _ (by omega) (by omega)
              have wz2 : IntKind.i64.wrap (RM - (NS : Int)) = zz := by rw [wrap_small _ (by omega) (by omega)]; exact hzz.symm
              have HLZ : Hid (roomZ ((s.setR r ⟨true, sumO (s.reg r).just (s.reg rs).just, lessO (s.reg r).room (s.reg rs).just⟩).reg r).room = zz) := by show _ = _; simp only [SD.setR, if_true]; rw [HLR.out, if_pos rfl, hzz]
              have HKZ2 := hid (HKZ.out.putZ HKA.out hr10 zz)
              have HZZ := hid hzz
              have HFT := hid hfit
              clear hzz hfit hrm
              cases jj
              · have HE : Hid (∀ u0 u1 u2 u3 u4 u5, R (.returned (.tuple #[KV.v true (⟨⟨some ⟨g1, 0, none⟩, 10, c1⟩, ⟨some ⟨g2, 0, none⟩, 10, c2⟩, ⟨some ⟨g3, 0, none⟩, 10, c3⟩, ⟨some ⟨g4, 0, none⟩, 10, c4⟩, ⟨a5, n5, c5⟩⟩ : KV), .int .i64 0])) (((((((W9.setCell ⟨g4, r, none⟩ (.int .i64 zz)).setCell ⟨rb, 0, none⟩ u0).setCell ⟨rb, 1, none⟩ u1).setCell ⟨rb, 2, none⟩ u2).setCell ⟨rb, 3, none⟩ u3).setCell ⟨rb, 4, none⟩ u4).setCell ⟨rb, 5, none⟩ u5)) := fun u0 u1 u2 u3 u4 u5 => by
                  rw [ERR.out]
                  exact bd_end (s' := s.setR r ⟨true, sumO (s.reg r).just (s.reg rs).just, lessO (s.reg r).room (s.reg rs).just⟩) (HKZ2.out.congr (fun j => by by_cases e : j = r <;> simp [e, SD.setR, RD.any]) (fun j => if e : j = r then (by subst e; exact Eq.trans (by first | (simp; done) | simp [SD.setR, RD.any]) HSP.out.symm) else (by simp [e, SD.setR, RD.any])) (fun _ => rfl) (fun j => if e : j = r then (by subst e; exact Eq.trans (by first | (simp; done) | simp [SD.setR, RD.any, roomZ]) HLZ.out.symm) else (by simp [e, SD.setR, RD.any])) (fun _ => rfl)) (HNK0.out (by simp)) HEW.out HEB3.out HNR.out.2.2.2.1 _ _ _ _ _ _
                clear HKZ HKZ2 HN8 HEW HEB HEB3 HNK HNK0 HLR HSJ HSP HLZ
                go_wp2
                exact bodyPost_ret (v := .tuple #[KV.v true (⟨⟨some ⟨g1, 0, none⟩, 10, c1⟩, ⟨some ⟨g2, 0, none⟩, 10, c2⟩, ⟨some ⟨g3, 0, none⟩, 10, c3⟩, ⟨some ⟨g4, 0, none⟩, 10, c4⟩, ⟨a5, n5, c5⟩⟩ : KV), .int .i64 0]) (by simp [results, Try.results14, go_sem, *]) rfl (HE.out _ _ _ _ _ _)
              · obtain ⟨WA, hWA⟩ : ∃ W, W = W9.setCell ⟨g4, r, none⟩ (.int .i64 zz) := ⟨_, rfl⟩
                rw [← hWA] at HKZ2
                have EA := hid hWA
                clear hWA x0 x1 x2 x3 x4 x5 z0 z1 z2 z3 z4 z5 hlr
                go_upto_region 23 with fail
                rw [← EA.out]
                clear EA k0 k1 k2 k3 k4 k5 hlk i3 i1 hil cc4 f4 l4
                have i3 := HKZ2.out.i3
                rw [HK3.out] at i3
                have hil := HKZ2.out.a.i.lt
                go_wp2_with fail
                clear i3 hil
                refine wp_region_rowsJ (some 193 :: some 194 :: some 195 :: some 196 :: some 197 :: some 198 :: some 199 :: some 200 :: some 201 :: some 202 :: none :: some 203 :: none :: []) (by kernel_rfl) (by kernel_rfl) (fun d hd => by simp only [List.mem_cons, List.not_mem_nil, or_false, Option.some.injEq, reduceCtorEq, false_or] at hd; show d < 305; omega) (fun i => (((.pointer (some ⟨kb, 2, none⟩)) :: (.slice (some ⟨g2, 0, none⟩) 10 c2) :: (.pointer (some ⟨ib, 1, none⟩)) :: (.int .i64 (r : Int)) :: (.pointer (some ⟨kb, 3, none⟩)) :: (.slice (some ⟨g3, 0, none⟩) 10 c3) :: (.pointer (some ⟨ib, 1, none⟩)) :: (.int .i64 (r : Int)) :: (.int .u64 (z : Int)) :: (.pointer (some ⟨g2, r, none⟩)) :: (undef) :: (.pointer (some ⟨g3, r, none⟩)) :: (undef) :: [] : List Value)).getD i undef) (fun done w1 => BdK w d x pb ib kb rb S (⟨⟨some ⟨g1, 0, none⟩, 10, c1⟩, ⟨some ⟨g2, 0, none⟩, 10, c2⟩, ⟨some ⟨g3, 0, none⟩, 10, c3⟩, ⟨some ⟨g4, 0, none⟩, 10, c4⟩, ⟨a5, n5, c5⟩⟩ : KV) (fun j => ((s.setR r RD.any).reg j).set) (fun j => if done 10 = true ∧ j = r then true else ((s.setR r RD.any).reg j).just.isSome) (fun j => if done 12 = true ∧ j = r then z else N8 j) (fun j => (if j = r then zz else roomZ ((s.setR r RD.any).reg j).room)) ((s.setR r RD.any).slot) w1) (BdK.congr (HKZ2.out.step (Below.refl _ _).drew) (fun _ => by simp) (fun _ => by simp) (fun _ => by simp) (fun _ => by simp) (fun _ => rfl)) ?_ ?_
                · intro i o hi ho done a1 w1 hj hdi hold hdep
                  have t4 : a1.tmps[4]? = some (.pointer (some ⟨ib, 0, none⟩)) := hold 4 (by decide)
                  have t5 : a1.tmps[5]? = some (.pointer (some ⟨kb, 0, none⟩)) := hold 5 (by decide)
                  have hrg := hj.k.reg HKA.out hr10
                  have hi : i < 13 := hi
                  rcases (show i = 0 ∨ i = 1 ∨ i = 2 ∨ i = 3 ∨ i = 4 ∨ i = 5 ∨ i = 6 ∨ i = 7 ∨ i = 8 ∨ i = 9 ∨ i = 10 ∨ i = 11 ∨ i = 12 by omega) with rfl | rfl | rfl | rfl | rfl | rfl | rfl | rfl | rfl | rfl | rfl | rfl | rfl
                  all_goals
                    simp only [List.getElem?_cons_succ, List.getElem?_cons_zero, Option.some.injEq] at ho
                    subst ho
                  · exact ⟨w1, .inl (by simp [execOp, go_sem, t5]), hj⟩
                  · have hv : a1.tmps[193]? = some (.pointer (some ⟨kb, 2, none⟩)) := (hdep { on := 0, ground := .data } (by simp) rfl).2 _ rfl
                    have hc := hj.k2 HKA.out
                    exact ⟨w1, .inl (by simp [execOp, go_sem, hv, hc]), hj⟩
                  · exact ⟨w1, .inl (by simp [execOp, go_sem, t4]), hj⟩
                  · have hv : a1.tmps[195]? = some (.pointer (some ⟨ib, 1, none⟩)) := (hdep { on := 2, ground := .data } (by simp) rfl).2 _ rfl
                    have hc := hj.i1 HR.out
                    exact ⟨w1, .inl (by simp [execOp, go_sem, hv, hc]), hj⟩
                  · exact ⟨w1, .inl (by simp [execOp, go_sem, t5]), hj⟩
                  · have hv : a1.tmps[197]? = some (.pointer (some ⟨kb, 3, none⟩)) := (hdep { on := 4, ground := .data } (by simp) rfl).2 _ rfl
                    have hc := hj.k3 HKA.out
                    exact ⟨w1, .inl (by simp [execOp, go_sem, hv, hc]), hj⟩
                  · exact ⟨w1, .inl (by simp [execOp, go_sem, t4]), hj⟩
                  · have hv : a1.tmps[199]? = some (.pointer (some ⟨ib, 1, none⟩)) := (hdep { on := 6, ground := .data } (by simp) rfl).2 _ rfl
                    have hc := hj.i1 HR.out
                    exact ⟨w1, .inl (by simp [execOp, go_sem, hv, hc]), hj⟩
                  · have tm : a1.tmps[12]? = some (.int .u64 (z : Int)) := hold 12 (by decide)
                    exact ⟨w1, .inl (by simp [execOp, go_sem, tm]), hj⟩
                  · have hv : a1.tmps[194]? = some (.slice (some ⟨g2, 0, none⟩) 10 c2) := (hdep { on := 1, ground := .data } (by simp) rfl).2 _ rfl
                    have hv2 : a1.tmps[196]? = some (.int .i64 (r : Int)) := (hdep { on := 3, ground := .data } (by simp) rfl).2 _ rfl
                    exact ⟨w1, .inl (by simp [execOp, go_sem, hv, hv2, hri]), hj⟩
                  · have hv : a1.tmps[202]? = some (.pointer (some ⟨g2, r, none⟩)) := (hdep { on := 9, ground := .data } (by simp) rfl).2 _ rfl
                    refine ⟨w1.setCell ⟨g2, r, none⟩ (.bool true), .inr ⟨rfl, by simp [execOp, go_sem, hv, hrg.c2, hrg.f2]⟩, ?_⟩
                    exact (hj.putB HKA.out hr10 true).congr (fun _ => rfl) (fun j => by by_cases e : j = r <;> simp [e, hdi]) (fun _ => rfl) (fun _ => rfl) (fun _ => rfl)
                  · have hv : a1.tmps[198]? = some (.slice (some ⟨g3, 0, none⟩) 10 c3) := (hdep { on := 5, ground := .data } (by simp) rfl).2 _ rfl
                    have hv2 : a1.tmps[200]? = some (.int .i64 (r : Int)) := (hdep { on := 7, ground := .data } (by simp) rfl).2 _ rfl
                    exact ⟨w1, .inl (by simp [execOp, go_sem, hv, hv2, hri]), hj⟩
                  · have hv : a1.tmps[203]? = some (.pointer (some ⟨g3, r, none⟩)) := (hdep { on := 11, ground := .data } (by simp) rfl).2 _ rfl
                    have hv2 : a1.tmps[201]? = some (.int .u64 (z : Int)) := (hdep { on := 8, ground := .data } (by simp) rfl).2 _ rfl
                    refine ⟨w1.setCell ⟨g3, r, none⟩ (.int .u64 (z : Int)), .inr ⟨rfl, by simp [execOp, go_sem, hv, hv2, hrg.c3, hrg.f3]⟩, ?_⟩
                    exact (hj.putN HKA.out hr10 z).congr (fun _ => rfl) (fun _ => rfl) (fun j => by by_cases e : j = r <;> simp [e, hdi]) (fun _ => rfl) (fun _ => rfl)
                · intro wz hz
                  simp only [putsO, Act.put, List.length_cons, List.length_nil, List.getD_cons_zero, List.getD_cons_succ, List.setIfInBounds_toArray, List.set_cons_succ, List.set_cons_zero]
                  have HQ := hid hz
                  have hA := hz.a
                  have k0 : wz.cell? ⟨kb, 0, none⟩ = some (.bool true) := hA.k.cell 0
                  have k1 : wz.cell? ⟨kb, 1, none⟩ = some (.slice (some ⟨g1, 0, none⟩) 10 c1) := hA.k.cell 1
                  have k2 : wz.cell? ⟨kb, 2, none⟩ = some (.slice (some ⟨g2, 0, none⟩) 10 c2) := hA.k.cell 2
                  have k3 : wz.cell? ⟨kb, 3, none⟩ = some (.slice (some ⟨g3, 0, none⟩) 10 c3) := hA.k.cell 3
                  have k4 : wz.cell? ⟨kb, 4, none⟩ = some (.slice (some ⟨g4, 0, none⟩) 10 c4) := hA.k.cell 4
                  have k5 : wz.cell? ⟨kb, 5, none⟩ = some (.slice a5 n5 c5) := hA.k.cell 5
                  have hlk := hA.k.lt
                  have x0 : wz.cell? ⟨rb, 0, none⟩ = some (.bool false) := hA.r.cell 0
                  have x1 : wz.cell? ⟨rb, 1, none⟩ = some (.slice none 0 0) := hA.r.cell 1
                  have x2 : wz.cell? ⟨rb, 2, none⟩ = some (.slice none 0 0) := hA.r.cell 2
                  have x3 : wz.cell? ⟨rb, 3, none⟩ = some (.slice none 0 0) := hA.r.cell 3
                  have x4 : wz.cell? ⟨rb, 4, none⟩ = some (.slice none 0 0) := hA.r.cell 4
                  have x5 : wz.cell? ⟨rb, 5, none⟩ = some (.slice none 0 0) := hA.r.cell 5
                  have z0 := hA.r.fz 0
                  have z1 := hA.r.fz 1
                  have z2 := hA.r.fz 2
                  have z3 := hA.r.fz 3
                  have z4 := hA.r.fz 4
                  have z5 := hA.r.fz 5
                  have hlr := hA.r.lt
                  have HE : Hid (∀ u0 u1 u2 u3 u4 u5, R (.returned (.tuple #[KV.v true (⟨⟨some ⟨g1, 0, none⟩, 10, c1⟩, ⟨some ⟨g2, 0, none⟩, 10, c2⟩, ⟨some ⟨g3, 0, none⟩, 10, c3⟩, ⟨some ⟨g4, 0, none⟩, 10, c4⟩, ⟨a5, n5, c5⟩⟩ : KV), .int .i64 0])) ((((((wz.setCell ⟨rb, 0, none⟩ u0).setCell ⟨rb, 1, none⟩ u1).setCell ⟨rb, 2, none⟩ u2).setCell ⟨rb, 3, none⟩ u3).setCell ⟨rb, 4, none⟩ u4).setCell ⟨rb, 5, none⟩ u5)) := fun u0 u1 u2 u3 u4 u5 => by
                    rw [ERR.out]
                    exact bd_end (s' := s.setR r ⟨true, sumO (s.reg r).just (s.reg rs).just, lessO (s.reg r).room (s.reg rs).just⟩) (HQ.out.congr (fun j => by by_cases e : j = r <;> simp [e, SD.setR, RD.any]) (fun j => if e : j = r then (by subst e; exact Eq.trans (by first | (simp; done) | simp [SD.setR, RD.any]) HSP.out.symm) else (by simp [e, SD.setR, RD.any])) (fun j => by by_cases e : j = r <;> simp [e]) (fun j => if e : j = r then (by subst e; exact Eq.trans (by first | (simp; done) | simp [SD.setR, RD.any, roomZ]) HLZ.out.symm) else (by simp [e, SD.setR, RD.any])) (fun _ => rfl)) (HNK.out (by simp)) HEW.out HEB3.out HNR.out.2.2.2.1 _ _ _ _ _ _
                  clear hz hA HQ HKZ HN8 HEW HEB HEB3 HNK HNK0 HLR HSJ HSP
                  go_wp2
                  exact bodyPost_ret (v := .tuple #[KV.v true (⟨⟨some ⟨g1, 0, none⟩, 10, c1⟩, ⟨some ⟨g2, 0, none⟩, 10, c2⟩, ⟨some ⟨g3, 0, none⟩, 10, c3⟩, ⟨some ⟨g4, 0, none⟩, 10, c4⟩, ⟨a5, n5, c5⟩⟩ : KV), .int .i64 0]) (by simp [results, Try.results14, go_sem, *]) rfl (HE.out _ _ _ _ _ _)
          · have hKb : (x.k == 3) = false := by simpa using hK3
            have HEB2 : Hid (bhD d.ts s x = s.setR r RD.any) := by show _ = _; rw [HEB.out, bin_no _ _ hK3]
            have HK3 := hid hK3
            clear hK3 hA
            have HE : Hid (∀ u0 u1 u2 u3 u4 u5, R (.returned (.tuple #[KV.v true (⟨⟨some ⟨g1, 0, none⟩, 10, c1⟩, ⟨some ⟨g2, 0, none⟩, 10, c2⟩, ⟨some ⟨g3, 0, none⟩, 10, c3⟩, ⟨some ⟨g4, 0, none⟩, 10, c4⟩, ⟨a5, n5, c5⟩⟩ : KV), .int .i64 0])) ((((((W9.setCell ⟨rb, 0, none⟩ u0).setCell ⟨rb, 1, none⟩ u1).setCell ⟨rb, 2, none⟩ u2).setCell ⟨rb, 3, none⟩ u3).setCell ⟨rb, 4, none⟩ u4).setCell ⟨rb, 5, none⟩ u5)) := fun u0 u1 u2 u3 u4 u5 => by
              rw [ERR.out]
              exact bd_end (s' := s.setR r RD.any) HKZ.out HN8.out HEW.out HEB2.out HNR.out.2.2.2.1 _ _ _ _ _ _
            clear HKZ HN8 HEW HEB HEB2 HK3
            go_wp2
            exact bodyPost_ret (v := .tuple #[KV.v true (⟨⟨some ⟨g1, 0, none⟩, 10, c1⟩, ⟨some ⟨g2, 0, none⟩, 10, c2⟩, ⟨some ⟨g3, 0, none⟩, 10, c3⟩, ⟨some ⟨g4, 0, none⟩, 10, c4⟩, ⟨a5, n5, c5⟩⟩ : KV), .int .i64 0]) (by simp [results, Try.results14, go_sem, *]) rfl (HE.out _ _ _ _ _ _)
end Go.Proofs.Ytmohffibkpecpaa
