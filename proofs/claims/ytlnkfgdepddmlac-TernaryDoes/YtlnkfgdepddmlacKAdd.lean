/- What Add of the document's own table by masks does. -/
import Derived.Test.YtlnkfgdepddmlacKTo
import Derived.Test.YtlnkfgdepddmlacMAdd2
namespace Go.Proofs.Ytlnkfgdepddmlac
open Go.RowKit Mth

theorem meet_bits (a b m n : Nat) : ((a ^^^ b) &&& m &&& n = 0) ↔ (b &&& (n &&& m) = a &&& (n &&& m)) := by
  constructor
  · intro h
    apply Nat.eq_of_testBit_eq
    intro j
    have h1 := congrArg (fun x => x.testBit j) h
    simp only [Nat.testBit_and, Nat.testBit_xor, Nat.zero_testBit] at h1
    simp only [Nat.testBit_and]
    cases ha : a.testBit j <;> cases hb : b.testBit j <;> cases hm : m.testBit j <;> cases hn : n.testBit j <;> simp_all
  · intro h
    apply Nat.eq_of_testBit_eq
    intro j
    have h1 := congrArg (fun x => x.testBit j) h
    simp only [Nat.testBit_and] at h1
    simp only [Nat.testBit_and, Nat.testBit_xor, Nat.zero_testBit]
    cases ha : a.testBit j <;> cases hb : b.testBit j <;> cases hm : m.testBit j <;> cases hn : n.testBit j <;> simp_all

/-- the numbers of one round -/
theorem kmeet_nums {yk ym ek em : Int} (h1 : N64 yk) (h2 : N64 ym) (h3 : N64 ek) (h4 : N64 em) : ∃ b a1 a2, bits .and .u64 em ym = b ∧ bits .and .u64 ek b = a1 ∧ bits .and .u64 yk b = a2 ∧ (a1 = a2 ↔ (yk.toNat ^^^ ek.toNat) &&& ym.toNat &&& em.toNat = 0) := by
  obtain ⟨A, rfl⟩ := Int.eq_ofNat_of_zero_le h1.1
  obtain ⟨M, rfl⟩ := Int.eq_ofNat_of_zero_le h2.1
  obtain ⟨C, rfl⟩ := Int.eq_ofNat_of_zero_le h3.1
  obtain ⟨D, rfl⟩ := Int.eq_ofNat_of_zero_le h4.1
  have hA : A < 18446744073709551616 := by have := h1.2; omega
  have hM : M < 18446744073709551616 := by have := h2.2; omega
  have hC : C < 18446744073709551616 := by have := h3.2; omega
  have hD : D < 18446744073709551616 := by have := h4.2; omega
  have hB : D &&& M < 18446744073709551616 := Nat.lt_of_le_of_lt Nat.and_le_left hD
  refine ⟨_, _, _, rfl, rfl, rfl, ?_⟩
  rw [u64_and_nat D M hD hM, u64_and_nat C _ hC hB, u64_and_nat A _ hA hB]
  simp only [Int.toNat_natCast]
  rw [meet_bits]
  omega

def KAddDone (w w' : World) (B r : Nat) (keys most : Int) (E : List TE) (e : TE) (q : Ending) : Prop := q = .returned (.int .i64 (addCM keys most E e)) ∧ KTo w w' B r keys most (if addCM keys most E e = 0 then E ++ [e] else E)

theorem kadd_keep {w w' : World} {B r : Nat} {keys most : Int} {E : List TE} {e : TE} {c : Int} (t : KRws w B r keys most E) (hb : Below w.heap.size w w') (hc : addCM keys most E e = c) (h0 : c ≠ 0) : KAddDone w w' B r keys most E e (.returned (.int .i64 c)) := by
  refine ⟨by rw [hc], ?_⟩
  rw [if_neg (by rw [hc]; exact h0)]
  exact KTo.same t hb

/-- the head may be written -/
theorem kstore_ok {wA w6 : World} {B r : Nat} {keys most : Int} {E : List TE} {la : Option Addr} {cap : Nat} (t : KRws wA B r keys most E) (h4 : wA.cell? ⟨r, 4, none⟩ = some (.slice la E.length cap)) (hg : wA.grownBy w6 (Value.slice la E.length cap).ownBlock) : w6.cell? ⟨r, 4, none⟩ = some (.slice la E.length cap) ∧ w6.frozen? ⟨r, 4, none⟩ = false := by
  obtain ⟨la', cap'', h4', hr⟩ := t.lst
  rw [h4] at h4'
  simp only [Option.some.injEq, Value.slice.injEq, true_and] at h4'
  obtain ⟨rfl, rfl⟩ := h4'
  have hpp : w6.heap[r]? = wA.heap[r]? := by
    refine hg.block r (World.block_lt_of_cell? wA _ t.hd.c0) (fun e => ?_)
    cases la with
    | none => cases e
    | some ad =>
      obtain ⟨a', m', c', hc'⟩ := hr.2 ad.block (by rw [← hr.at0 ad rfl])
      have : r = ad.block := by simpa [Value.ownBlock] using e
      rw [← this, t.hd.c0] at hc'
      cases hc'
  exact ⟨(World.cell?_of_block (w := wA) (w' := w6) (a := ⟨r, 4, none⟩) hpp).trans h4, (World.frozen?_of_block (w := wA) (w' := w6) (a := ⟨r, 4, none⟩) hpp).trans t.f4⟩

/-- an entry more -/
theorem kadd_end {w wA w6 : World} {B r : Nat} {keys most : Int} {E : List TE} {e : TE} {la : Option Addr} {cap g cap' : Nat} {ds : List MD} {d : MD} (t : KRws w B r keys most E) (hb : Below w.heap.size w wA) (h4 : w.cell? ⟨r, 4, none⟩ = some (.slice la E.length cap))
    (hlen : ds.length = E.length) (hgd : ∀ (i : Nat) (d : MD) (e : TE), ds[i]? = some d → E[i]? = some e → d.good wA e ∧ d.new 0 ∧ d.ln = 0) (hd : d.good wA e) (hn : d.new 0) (hln : d.ln = 0) (hg : GoodM keys e) (hns : ¬ ∃ x ∈ E, SameP x e) (hnc : ¬ ClashM E e) (hfl : (E.length : Int) < most)
    (hgr : wA.grownBy w6 (Value.slice la E.length cap).ownBlock) (ho : w6.ownsRow B 33 6 (.slice (some ⟨g, 0, none⟩) (E.length + 1) cap') (E.length + 1) (ds.flatMap MD.cells ++ d.cells)) (hfr : la = some ⟨g, 0, none⟩ ∨ wA.heap.size ≤ g) :
    KAddDone w (w6.setCell ⟨r, 4, none⟩ (.slice (some ⟨g, 0, none⟩) (E.length + 1) cap')) B r keys most E e (.returned (.int .i64 0)) := by
  have hcode : addCM keys most E e = 0 := by unfold addCM; rw [if_pos hg, if_neg hns, if_neg hnc, if_neg (by omega)]
  refine ⟨by rw [hcode], ?_⟩
  rw [if_pos hcode]
  obtain ⟨la2, cap2, h42, hrow⟩ := t.lst
  rw [h4] at h42
  simp only [Option.some.injEq, Value.slice.injEq, true_and] at h42
  obtain ⟨rfl, rfl⟩ := h42
  have hrA := hrow.step hb
  have hdA := t.hd.step hb
  have hP := mrow_push hrA hlen hgd hd hn hln hgr ho
  have hh : ∀ ad, la = some ad → ∃ a m c, wA.cell? ⟨ad.block, 0, none⟩ = some (.slice a m c) := fun ad e => hrA.2 ad.block (by rw [e, ← hrA.at0 ad e])
  have hrr : w6.cell? ⟨r, 0, none⟩ = some (.int .i64 3) := by
    have hpp : w6.heap[r]? = wA.heap[r]? := by
      refine hgr.block r (World.block_lt_of_cell? wA _ hdA.c0) (fun e => ?_)
      cases la with
      | none => cases e
      | some ad =>
        obtain ⟨a', m', c', hc'⟩ := hh ad rfl
        have : r = ad.block := by simpa [Value.ownBlock] using e
        rw [← this, hdA.c0] at hc'
        cases hc'
    exact (World.cell?_of_block (w := wA) (w' := w6) (a := ⟨r, 0, none⟩) hpp).trans hdA.c0
  refine krws_new t hb h4 hgr (fun v => ?_) (by simp) (fun x hx => ?_) (fun g' e' => ?_)
  · refine hP.keep (fun g' e' => ?_) (fun a m zs f h => ?_)
    · refine Below.heap_setCell _ _ _ _ (fun e2 => ?_)
      obtain ⟨a', m', c', hc'⟩ := hP.2 g' e'
      rw [e2, hrr] at hc'
      cases hc'
    · exact has_keep (la := none) (n := 0) (cap := 0) (w6 := w6) (World.grownBy.refl w6 _) (by simp) hrr 4 v f h
  · rcases List.mem_append.1 hx with h | h
    · exact t.good x h
    · rcases List.mem_cons.1 h with rfl | h
      · exact hg
      · cases h
  · have eg : g = g' := by simpa using e'
    subst eg
    rcases hfr with h | h
    · exact .inl h
    · exact .inr (Nat.le_trans hb.size h)

set_option maxHeartbeats 8000000 in
set_option maxRecDepth 40000 in
theorem kadd_any {w : World} {B r : Nat} {keys most : Int} {E : List TE} {f : MD} {e : TE} (t : KRws w B r keys most E) (hf : f.good w e) (hn : E.length ≤ 100000) :
    Calls Try.prog 13 #[.pointer (some ⟨r, 0, none⟩), f.ev] w fun q w' => KAddDone w w' B r keys most E e q := by
  have hb0 := bl_alloc (o := f.ec) (Below.refl w.heap.size w)
  have HM := hid (kmay_any (t.step hb0).hd (hf.step hb0))
  have SX : Hid (Six (w.alloc f.ec) w.heap.size (.slice f.ka f.kn f.kc) (.slice f.ma f.mn f.mc) (.int .i64 f.ln) (.int .i64 f.pr) (.int .i64 f.ac) (.slice f.a f.n f.c)) := six_new w _ _ _ _ _ _ _
  obtain ⟨k0, k1, k2, k3, k4, k5, -, -, -, -, -, -⟩ := SX.out
  have HT := hid t
  have HF := hid hf
  have HB0 := hid hb0
  have hk3 : f.kn ≤ 1000 := hf.ks3
  clear t hf hb0
  go_enter Try.func13, Try.ntmps13
  go_wp2_with fail
  refine HM.out.mono ?_
  rintro q w1 ⟨rfl, hg1⟩
  by_cases hg : GoodM keys e
  · rw [if_pos hg]
    have HG := hid hg
    have hkk : (f.kn : Int) = keys := by have := hg.1; have := HF.out.ks.1; omega
    have hmk : f.mn = f.kn := by have := hg.1; have := hg.2.1; have := HF.out.ks.1; have := HF.out.ms.1; omega
    have HLE : Hid (∀ x ∈ E, x.ks.length = f.kn ∧ x.ms.length = f.kn) := fun x hx => by have := (HT.out.good x hx).1; have := (HT.out.good x hx).2.1; omega
    have HKK := hid hkk
    have HMK := hid hmk
    clear hkk hmk
    have B1 := hid (bl_step HB0.out hg1.below)
    have S1 := hid (SX.out.step hg1.below)
    have HA := hid (kat_any (HT.out.step B1.out) (HF.out.step B1.out) hg hn)
    clear hg1 HM k0 k1 k2 k3 k4 k5 SX HB0 hg
    obtain ⟨k0, k1, k2, k3, k4, k5, -, -, -, -, -, -⟩ := S1.out
    go_wp2_with fail
    refine HA.out.mono ?_
    rintro q w2 ⟨v, rfl, hg2, hv⟩
    have B2 := hid (bl_step B1.out hg2.below)
    have S2 := hid (S1.out.step hg2.below)
    rcases hv with ⟨rfl, hno⟩ | ⟨j, x, rfl, hjx, hsx⟩
    · have HNS : Hid (¬ ∃ x ∈ E, SameP x e) := fun ⟨x, hx, hs⟩ => hno x hx hs
      clear hno hg2 HA k0 k1 k2 k3 k4 k5 S1 B1
      go_wp2_with fail
      go_loopw [6] (fun q wr => ∃ i : Nat, i ≤ E.length ∧ q = .int .i64 i ∧ Hid (∀ t x, t < i → E[t]? = some x → ¬ (x.pr = e.pr ∧ Meets x e)) ∧ Hid (Grew w2 wr)) (fun q _ => E.length - (intOf q).toNat)
      case atStart => exact ⟨0, Nat.zero_le _, rfl, fun t x ht => absurd ht (Nat.not_lt_zero _), grew_refl _⟩
      case round =>
        obtain ⟨i, hi, rfl, hz, hgr⟩ := hrel
        have BR := hid (bl_step B2.out hgr.out.below)
        have TR := hid (HT.out.step BR.out)
        have SR := hid (S2.out.step hgr.out.below)
        obtain ⟨la, cap, r4, hrow⟩ := TR.out.lst
        have r0 := TR.out.hd.c0
        have r1 := TR.out.hd.c1
        have r3 := TR.out.hd.c3
        by_cases hlt : i < E.length
        · obtain ⟨g, d, y, rfl, hy, hat, hgd, -, -⟩ := hrow.at i hlt
          obtain ⟨c0, c1, c2, c3, c4, c5⟩ := hat
          obtain ⟨k0, k1, k2, k3, k4, k5, -, -, -, -, -, -⟩ := SR.out
          have hii : (i : Int) < (E.length : Int) := by omega
          have hxl := HLE.out y (List.mem_of_getElem? hy)
          have hdk : d.kn = f.kn := by rw [← hxl.1, hgd.ks.1]
          have hdm : d.mn = f.kn := by rw [← hxl.2, hgd.ms.1]
          have HDK := hid hdk
          have HDM := hid hdm
          have HXL := hid hxl
          clear hdk hdm hxl
          have HGD := hid hgd
          have HY := hid hy
          have HFR := hid (HF.out.step BR.out)
          obtain ⟨bm, hbm⟩ : ∃ bm, (d.pr == f.pr) = bm := ⟨_, rfl⟩
          have HBM : Hid (bm = true ↔ y.pr = e.pr) := by
            show bm = true ↔ _
            rw [← hbm, ← hgd.pr, ← HF.out.pr]; simp
          clear hgd hy hrow
          go_wp2_with fail
          go_quiet (fail)
          have HRA : Hid (∀ s, Grew w2 ((wr.drewN nq).drewN s)) := fun s => hgr.out.trans ⟨nq + s, #[], by rw [Sort.grow_empty, World.drewN_drewN]⟩
          have a4 : (wr.drewN nq).cell? ⟨r, 4, none⟩ = _ := r4
          have a1 : (wr.drewN nq).cell? ⟨r, 1, none⟩ = _ := r1
          have e0 : (wr.drewN nq).cell? ⟨g, i * 6, none⟩ = _ := c0
          have e1 : (wr.drewN nq).cell? ⟨g, i * 6 + 1, none⟩ = _ := c1
          have h0 : (wr.drewN nq).cell? ⟨w.heap.size, 0, none⟩ = _ := k0
          have h1 : (wr.drewN nq).cell? ⟨w.heap.size, 1, none⟩ = _ := k1
          have DKS := hid (show Has .u64 (wr.drewN nq) d.ka d.kn y.ks from HGD.out.ks)
          have DMS := hid (show Has .u64 (wr.drewN nq) d.ma d.mn y.ms from HGD.out.ms)
          have FKS := hid (show Has .u64 (wr.drewN nq) f.ka f.kn e.ks from HFR.out.ks)
          have FMS := hid (show Has .u64 (wr.drewN nq) f.ma f.mn e.ms from HFR.out.ms)
          have BRA : Hid (∀ s, Below w.heap.size w ((wr.drewN nq).drewN s)) := fun s => below_drewN (below_drewN BR.out nq) s
          clear c0 c1 c2 c3 c4 c5 k0 k1 k2 k3 k4 k5 r0 r1 r3 r4 hbm TR SR BR HGD HFR
          generalize wr.drewN nq = wa at *
          rw [← HKK.out] at a1
          rw [HDK.out] at e0 DKS
          rw [HDM.out] at e1 DMS
          rw [HMK.out] at h1 FMS
          go_wp2_with fail
          go_loopw [7, 8] (fun x q wi => ∃ (m : Bool) (j : Nat), j ≤ f.kn ∧ x = .bool m ∧ q = .int .i64 j ∧ Hid (m = true ↔ (y.pr = e.pr ∧ ∀ t, t < j → (nz y.ks t ^^^ nz e.ks t) &&& nz y.ms t &&& nz e.ms t = 0)) ∧ Hid (∃ s, wi = wa.drewN s)) (fun _ q _ => f.kn - (intOf q).toNat)
          case atStart => exact ⟨bm, 0, Nat.zero_le _, rfl, rfl, ⟨fun h => ⟨HBM.out.1 h, fun t ht => absurd ht (Nat.not_lt_zero _)⟩, fun h => HBM.out.2 h.1⟩, 0, rfl⟩
          case round =>
            obtain ⟨m, j, hj, rfl, rfl, hmm, hwi⟩ := hrel
            obtain ⟨s, rfl⟩ := hwi
            have b4 : (wa.drewN s).cell? ⟨r, 4, none⟩ = _ := a4
            have b1 : (wa.drewN s).cell? ⟨r, 1, none⟩ = _ := a1
            by_cases hjl : j < f.kn
            · obtain ⟨p1, o1, ea1, -, hc1⟩ := DKS.out.some (by omega)
              obtain ⟨p2, o2, ea2, -, hc2⟩ := DMS.out.some (by omega)
              obtain ⟨p3, o3, ea3, -, hc3⟩ := FKS.out.some (by omega)
              obtain ⟨p4, o4, ea4, -, hc4⟩ := FMS.out.some (by omega)
              obtain ⟨bo, x1, x2, n1, n2, n3, n4⟩ := kmeet_nums (n64_at DKS.out j) (n64_at DMS.out j) (n64_at FKS.out j) (n64_at FMS.out j)
              have N4 : Hid (x1 = x2 ↔ (nz y.ks j ^^^ nz e.ks j) &&& nz y.ms j &&& nz e.ms j = 0) := n4
              have u1 : (wa.drewN s).cell? ⟨p1, o1 + j, none⟩ = _ := hc1 j hjl
              have u2 : (wa.drewN s).cell? ⟨p2, o2 + j, none⟩ = _ := hc2 j hjl
              have u3 : (wa.drewN s).cell? ⟨p3, o3 + j, none⟩ = _ := hc3 j hjl
              have u4 : (wa.drewN s).cell? ⟨p4, o4 + j, none⟩ = _ := hc4 j hjl
              have g0 : (wa.drewN s).cell? ⟨g, i * 6, none⟩ = some (.slice (some ⟨p1, o1, none⟩) f.kn d.kc) := by rw [← ea1]; exact e0
              have g1 : (wa.drewN s).cell? ⟨g, i * 6 + 1, none⟩ = some (.slice (some ⟨p2, o2, none⟩) f.kn d.mc) := by rw [← ea2]; exact e1
              have l0 : (wa.drewN s).cell? ⟨w.heap.size, 0, none⟩ = some (.slice (some ⟨p3, o3, none⟩) f.kn f.kc) := by rw [← ea3]; exact h0
              have l1 : (wa.drewN s).cell? ⟨w.heap.size, 1, none⟩ = some (.slice (some ⟨p4, o4, none⟩) f.kn f.mc) := by rw [← ea4]; exact h1
              have HD : Hid (∀ s', ∃ s'', (wa.drewN s).drewN s' = wa.drewN s'') := fun s' => ⟨_, World.drewN_drewN _ _ _⟩
              generalize y.ks.getD j 0 = z1 at *
              generalize y.ms.getD j 0 = z2 at *
              generalize e.ks.getD j 0 = z3 at *
              generalize e.ms.getD j 0 = z4 at *
              have hjj : (j : Int) < (f.kn : Int) := by omega
              clear hc1 hc2 hc3 hc4 n4 ea1 ea2 ea3 ea4 DKS DMS FKS FMS a4 a1 e0 e1 h0 h1
              generalize wa.drewN s = wb at *
              go_wp2_with fail
              go_quiet (fail)
              have u1' : (wb.drewN nq).cell? ⟨p1, o1 + j, none⟩ = _ := u1
              have u3' : (wb.drewN nq).cell? ⟨p3, o3 + j, none⟩ = _ := u3
              have g0' : (wb.drewN nq).cell? ⟨g, i * 6, none⟩ = _ := g0
              have l0' : (wb.drewN nq).cell? ⟨w.heap.size, 0, none⟩ = _ := l0
              have b4' : (wb.drewN nq).cell? ⟨r, 4, none⟩ = _ := b4
              have HD2 : Hid (∀ s', ∃ s'', (wb.drewN nq).drewN s' = wa.drewN s'') := fun s' => by rw [World.drewN_drewN]; exact HD.out _
              clear u1 u2 u3 u4 g0 g1 l0 l1 b4 b1
              generalize wb.drewN nq = wc at *
              by_cases hx : x1 = x2
              · have hxd : (x1 != x2) = false := by simpa using hx
                have HN : Hid (m = true ↔ (y.pr = e.pr ∧ ∀ t, t < j + 1 → (nz y.ks t ^^^ nz e.ks t) &&& nz y.ms t &&& nz e.ms t = 0)) := by
                  refine hmm.out.trans ⟨fun h => ⟨h.1, fun t ht => ?_⟩, fun h => ⟨h.1, fun t ht => h.2 t (by omega)⟩⟩
                  by_cases et : t = j
                  · subst et; exact N4.out.1 hx
                  · exact h.2 t (by omega)
                clear hx
                go_wp2_with fail
                go_quiet (fail)
                go_wp2
                go_roundw
                case rel => exact ⟨m, j + 1, by omega, rfl, by go_num, HN.out, HD2.out _⟩
                case measure => simp [intOf]; omega
              · have hxd : (x1 != x2) = true := by simpa using hx
                have HN : Hid (false = true ↔ (y.pr = e.pr ∧ ∀ t, t < j + 1 → (nz y.ks t ^^^ nz e.ks t) &&& nz y.ms t &&& nz e.ms t = 0)) := ⟨fun h => (by cases h), fun h => absurd (N4.out.2 (h.2 j (by omega))) hx⟩
                clear hx
                go_wp2_with fail
                go_quiet (fail)
                go_wp2
                go_roundw
                case rel => exact ⟨false, j + 1, by omega, rfl, by go_num, HN.out, HD2.out _⟩
                case measure => simp [intOf]; omega
            · have hje : j = f.kn := by omega
              subst hje
              have HMT : Hid (m = true ↔ (y.pr = e.pr ∧ Meets y e)) := hmm.out.trans ⟨fun h => ⟨h.1, fun t ht => h.2 t (by have := HXL.out.1; omega)⟩, fun h => ⟨h.1, fun t ht => h.2 t (by have := HXL.out.1; omega)⟩⟩
              cases m with
              | true =>
                have HE := hid (kadd_keep HT.out (BRA.out s) (show addCM keys most E e = 8 by unfold addCM; rw [if_pos HG.out, if_neg HNS.out, if_pos ⟨y, List.mem_of_getElem? HY.out, HMT.out.1 rfl⟩]) (by decide))
                go_wp2
                go_ret
                exact HE.out
              | false =>
                have HZ : Hid (∀ t x, t < i + 1 → E[t]? = some x → ¬ (x.pr = e.pr ∧ Meets x e)) := fun t x ht hx => by
                  by_cases et : t = i
                  · subst et; rw [HY.out] at hx; cases hx
                    intro h; have := HMT.out.2 h; cases this
                  · exact hz.out t x (by omega) hx
                have HGS := hid (HRA.out s)
                go_wp2
                go_roundw
                case rel => exact ⟨i + 1, by omega, by go_num, HZ.out, HGS.out⟩
                case measure => simp [intOf]; omega
        · have ei : i = E.length := by omega
          subst ei
          have HNC : Hid (¬ ClashM E e) := fun ⟨x, hx, hp, hm⟩ => by
            obtain ⟨t, ht, rfl⟩ := List.getElem_of_mem hx
            exact hz.out t _ ht (List.getElem?_eq_getElem ht) ⟨hp, hm⟩
          have hpl : r < wr.heap.size := World.block_lt_of_cell? wr _ r4
          by_cases hfull : most ≤ (E.length : Int)
          · have HE : Hid (∀ s, KAddDone w (wr.drewN s) B r keys most E e (.returned (.int .i64 10))) := fun s => kadd_keep HT.out (below_drewN BR.out s) (show addCM keys most E e = 10 by unfold addCM; rw [if_pos HG.out, if_neg HNS.out, if_neg HNC.out, if_pos hfull]) (by decide)
            clear hrow TR SR BR
            go_wp2_with fail
            go_quiet (fail)
            go_wp2
            go_ret
            exact HE.out _
          · have hfl : (E.length : Int) < most := by omega
            go_wp2_with fail
            go_quiet (fail)
            go_wp2_with fail
            have B4 := hid (below_drewN BR.out nq)
            have S4 := hid (SR.out.step (below_drewN (Below.refl wr.heap.size wr) nq))
            clear hrow r0 r1 r3 r4 TR SR BR hfull
            generalize wr.drewN nq = w4 at *
            have T4 := hid (HT.out.step B4.out)
            obtain ⟨la', cap', p4, hrow⟩ := T4.out.lst
            obtain ⟨k0, k1, k2, k3, k4, k5, -, -, -, -, -, -⟩ := S4.out
            have hp4 : r < w4.heap.size := World.block_lt_of_cell? w4 _ p4
            have f4 := T4.out.f4
            have hrw : r < w.heap.size := World.block_lt_of_cell? w _ HT.out.hd.c0
            have h4w : Hid (w.cell? ⟨r, 4, none⟩ = some (.slice la' E.length cap')) := by
              show w.cell? ⟨r, 4, none⟩ = _
              rw [← B4.out.cell (p := ⟨r, 4, none⟩) hrw]; exact p4
            have hbd : Below w4.heap.size w4 w4.drew := (Below.refl _ _).drew
            have HCP := hid (kkept_any (T4.out.step hbd).hd ((HF.out.step B4.out).step hbd))
            obtain ⟨⟨ds, dl, -, dow, dgd⟩, -⟩ := hrow
            have DOW := hid dow
            have DG := hid dgd
            have hbw : B ≤ w4.heap.size := Nat.le_trans HT.out.small B4.out.size
            have hiw : w.heap.size < w4.heap.size := World.block_lt_of_cell? w4 _ k0
            clear dow dgd
            go_region_law (first
              | (refine step_app6 (by rfl) _ _ (by rfl) B E.length cap' la' (ds.flatMap MD.cells) d.cells ⟨w5.heap.size, 0, none⟩ 1 (by rfl) (by rfl) ((owns_below DOW.out (bl_step hbd hb5)).alloc _) rfl (rowAt_src (rowAt_alloc w5 _) (by simp [MD.cells])) (mcells_one d) hn (by have := hb5.size; have := hbd.size; simp; omega) ?_; intro g6 c6 w6 ho6 hg6 hfr6; obtain ⟨q6, qf⟩ := kstore_ok (((T4.out.step hbd).step hb5).step (bl_alloc (Below.refl _ _))) ((bl_alloc (Below.refl w5.heap.size w5)).cell (p := ⟨r, 4, none⟩) hpl5 |>.trans q4) hg6)
              | (go_simp; go_at_call 42; refine HCP.out.mono ?_; rintro q w5 ⟨d, rfl, hgd, hnew, hln, hb5⟩; have HLN := hid hln; clear hln; have q4 : w5.cell? ⟨r, 4, none⟩ = some (.slice la' E.length cap') := ((bl_step hbd hb5).cell (p := ⟨r, 4, none⟩) hp4).trans p4; have hpl5 : r < w5.heap.size := World.block_lt_of_cell? w5 _ q4))
            all_goals
              have hal : Below w5.heap.size w5 (w5.alloc (.cells #[.slice d.ka d.kn d.kc, .slice d.ma d.mn d.mc, .int .i64 d.ln, .int .i64 d.pr, .int .i64 d.ac, .slice d.a d.n d.c] 33)) := bl_alloc (Below.refl _ _)
              have HEND := hid (kadd_end HT.out (bl_step (bl_step (bl_step B4.out hbd) hb5) hal) h4w.out dl (fun j d e hd he => ⟨(((DG.out j d e hd he).1.step hbd).step hb5).step hal, (DG.out j d e hd he).2⟩) (hgd.step hal) (hnew.mono (Nat.zero_le _)) HLN.out HG.out HNS.out HNC.out hfl hg6 ho6 hfr6)
              clear ho6 hg6 hgd hnew hb5 HCP hfr6
              go_wp2
              go_ret
              exact HEND.out
    · have HE := hid (kadd_keep HT.out B2.out (show addCM keys most E e = 7 by unfold addCM; rw [if_pos HG.out, if_pos ⟨x, List.mem_of_getElem? hjx, hsx⟩]) (by decide))
      have hj0 : ¬ (j : Int) < 0 := by omega
      clear hg2 hjx hsx HA
      go_wp2
      go_ret
      exact HE.out
  · rw [if_neg hg]
    have HE := hid (kadd_keep HT.out (bl_step HB0.out hg1.below) (show addCM keys most E e = 6 by unfold addCM; rw [if_neg hg]) (by decide))
    clear hg1 HM hg
    go_wp2
    go_ret
    exact HE.out
end Go.Proofs.Ytlnkfgdepddmlac
