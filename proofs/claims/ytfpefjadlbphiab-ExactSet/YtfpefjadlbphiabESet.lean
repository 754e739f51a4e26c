/- ExactSet answers true. -/
import Derived.Test.YtfpefjadlbphiabESetMath
import Derived.Test.YtfpefjadlbphiabESame
import Derived.Test.YtfpefjadlbphiabEBegun
import Derived.Test.YtfpefjadlbphiabESteps
import Derived.Deep.CutRange
namespace Go.Proofs.Ytfpefjadlbphiab
open Go.RowKit Go.Maps Go.Sort

/-- while the first table is filled -/
def Ph1 (w : World) (p b M : Nat) (wr : World) : Prop := (∃ C ss, Tab wr p b 2 M C ss) ∧ Below w.heap.size w wr ∧ w.heap.size ≤ b

theorem Ph1.next {w wr w' : World} {p b M : Nat} {C : List UInt8 → Option (Int × List Int)} {ss : List (List UInt8)} (h : Ph1 w p b M wr) (t : Tab w' p b 2 M C ss) {w1 : World} (h1 : Below wr.heap.size wr w1) (g : w1.grownBy w' (some b)) : Ph1 w p b M w' :=
  ⟨⟨C, ss, t⟩, (bl_step h.2.1 h1).grown g (bl_step h.2.1 h1).size (fun k hk => by cases hk; exact h.2.2), h.2.2⟩

theorem SD.at.grew {d : SD} {w w' : World} {g o : Nat} {row : Option Nat} (h : d.at w g o) (G : Grew w w' row) : d.at w' g o := by
  obtain ⟨h0, h1, h2, h3, h4, h5, h6⟩ := h
  exact ⟨G.cell h0, G.cell h1, G.cell h2, G.cell h3, G.cell h4, G.cell h5, G.cell h6⟩

theorem SD.ok.grew {d : SD} {w w' : World} {row : Option Nat} (h : d.ok w) (G : Grew w w' row) : d.ok w' := by
  obtain ⟨h0, h1, h2, h3⟩ := h
  exact ⟨h0, G.has h1, h2, G.has h3⟩

theorem SD.ok.says {d : SD} {w : World} (h : d.ok w) (s : d.small) : Says w (.agg #[.int .i64 d.ac, .slice d.a d.n d.c]) (d.ac, d.xs) :=
  ⟨d.a, d.n, d.c, rfl, h.2.2.1, by have := s.2; omega, h.2.2.2⟩

/-- while the second table is filled -/
structure Ph2 (w : World) (p b q f M : Nat) (C : List UInt8 → Option (Int × List Int)) (ss rot : List (List UInt8)) (v : Value) (k : Nat) (wr : World) : Prop where
  t : Tab wr p b 2 M C ss
  u : Tab wr q f 2 M (part C (rot.take k)) (rot.take k)
  en : Ents wr v ((rising ss).map (entOf C))
  bel : Below w.heap.size w wr
  ne : b ≠ f
  fb : w.heap.size ≤ f

theorem Ph2.next {w wr w6 w7 : World} {p b q f M j : Nat} {C : List UInt8 → Option (Int × List Int)} {ss rot : List (List UInt8)} {v : Value} {x : List UInt8} {h : Int × List Int} (P : Ph2 w p b q f M C ss rot v j wr) (hB : Below wr.heap.size wr w6)
    (u : Tab w7 q f 2 M (upd (part C (rot.take j)) x (some h)) (rot.take j ++ [x])) (hg : w6.grownBy w7 (some f)) (hx : C x = some h) (hr : rot.take (j + 1) = rot.take j ++ [x]) : Ph2 w p b q f M C ss rot v (j + 1) w7 := by
  have G := grew_below hB
  have G2 := (P.u.step hB).grew_own hg
  refine ⟨(P.t.step hB).grew G2 (by simp; exact P.ne), ?_, (P.en.grew G).grew G2, (bl_step P.bel hB).grown hg (bl_step P.bel hB).size (fun k hk => by cases hk; exact P.fb), P.ne, P.fb⟩
  rw [hr, ← part_snoc hx]
  exact u

/-- while both are asked -/
structure Ph3 (w : World) (p b q f M : Nat) (C : List UInt8 → Option (Int × List Int)) (ss rot : List (List UInt8)) (v : Value) (wr : World) : Prop where
  t : Tab wr p b 2 M C ss
  u : Tab wr q f 2 M C rot
  en : Ents wr v ((rising ss).map (entOf C))
  bel : Below w.heap.size w wr

theorem Ph3.step {w wr w' : World} {p b q f M : Nat} {C : List UInt8 → Option (Int × List Int)} {ss rot : List (List UInt8)} {v : Value} (P : Ph3 w p b q f M C ss rot v wr) (h : Below wr.heap.size wr w') : Ph3 w p b q f M C ss rot v w' :=
  ⟨P.t.step h, P.u.step h, P.en.grew (grew_below h), bl_step P.bel h⟩

theorem Ph2.done {w wr : World} {p b q f M : Nat} {C : List UInt8 → Option (Int × List Int)} {ss rot : List (List UInt8)} {v : Value} (P : Ph2 w p b q f M C ss rot v ss.length wr) (hr : rot.Perm ss) : Ph3 w p b q f M C ss rot v wr := by
  have hu := P.u
  rw [List.take_of_length_le (Nat.le_of_eq hr.length_eq), part_all (fun x => (hr.mem_iff).trans (P.t.mem x))] at hu
  exact ⟨P.t, hu, P.en, P.bel⟩

theorem old_two {w8 w9 : World} {x : Int} {a : Option Addr} {n c : Nat} (o : Obj) (hb : Below (w8.alloc (HC x a n c)).heap.size (w8.alloc (HC x a n c)) w9) :
    (w9.alloc o).cell? ⟨w8.heap.size, 0, none⟩ = some (.int .i64 x) ∧ (w9.alloc o).cell? ⟨w8.heap.size, 1, none⟩ = some (.slice a n c) ∧ w8.heap.size < w9.heap.size := by
  have h := new_two w8 (.int .i64 x) (.slice a n c) 59
  have G := grew_below (bl_alloc (o := o) hb)
  exact ⟨G.cell h.1, G.cell h.2.1, by have := hb.size; simp at this; omega⟩

/-- which entry comes next -/
theorem next_at (cut : Int) (N j : Nat) (hN : 0 < N) : ∃ cc idx : Nat, (IntKind.u64.wrap cut % (N : Int)).toNat = cc ∧ cc < N ∧ idx = (j + cc) % N ∧ idx < N ∧ (IntKind.u64.wrap cut).tmod (N : Int) = (cc : Int) ∧ ((j : Int) + (cc : Int)).tmod (N : Int) = (idx : Int) ∧ ((j : Int) + (cc : Int)) % (N : Int) = (idx : Int) := by
  have h0 : 0 ≤ IntKind.u64.wrap cut := by rw [IntKind.wrap_u64]; omega
  have h1 : 0 ≤ IntKind.u64.wrap cut % (N : Int) := Int.emod_nonneg _ (by omega)
  have h2 : IntKind.u64.wrap cut % (N : Int) < N := Int.emod_lt_of_pos _ (by omega)
  obtain ⟨cc, hcc⟩ := Int.eq_ofNat_of_zero_le h1
  have hc : cc < N := by omega
  have hi : (j + cc) % N < N := Nat.mod_lt _ hN
  have e : ((j : Int) + (cc : Int)) % (N : Int) = (((j + cc) % N : Nat) : Int) := by simp
  refine ⟨cc, (j + cc) % N, by rw [hcc]; rfl, hc, rfl, hi, ?_, ?_, e⟩
  · rw [Int.tmod_eq_emod_of_nonneg h0]; exact hcc
  · rw [Int.tmod_eq_emod_of_nonneg (by omega)]; exact e

theorem ent_says {d : ED} {w : World} {x : List UInt8} {C : List UInt8 → Option (Int × List Int)} {h : Int × List Int} (hg : d.good w (entOf C x)) (hC : C x = some h) : Says w (.agg #[.int .i64 d.act, .slice d.a d.n d.c]) h := by
  obtain ⟨_, _, _, h1, h2, h3, h4⟩ := hg
  unfold entOf at h1 h4
  rw [hC] at h1 h4
  exact ⟨d.a, d.n, d.c, by rw [h1]; rfl, h2, h3, h4⟩

theorem new_six (w : World) (v0 v1 v2 v3 v4 v5 : Value) (t : TypeId) {w6 : World} (hb : Below (w.alloc (.cells #[v0, v1, v2, v3, v4, v5] t)).drew.heap.size (w.alloc (.cells #[v0, v1, v2, v3, v4, v5] t)).drew w6) : w6.cell? ⟨w.heap.size, 0, none⟩ = some v0 :=
  (hb.cell (p := ⟨w.heap.size, 0, none⟩) (by simp)).trans (by simp)

set_option maxHeartbeats 8000000 in
set_option maxRecDepth 40000 in
theorem set_main (most cut : Int) (a : Option Addr) (n c : Nat) (S : List SD) (w : World) (h : Steps w a n S) :
    Calls Try.prog 7 #[.int .i64 most, .slice a n c, .int .i64 cut] w fun e w' => e = .returned (.bool true) ∧ Below w.heap.size w w' := by
  have HS := hid h
  clear h
  by_cases h1000 : (1000 : Int) < most
  · clear HS
    go_enter Try.func7, Try.ntmps7
    go_wp2_with fail
    refine (exact_begun _).mono ?_
    rintro e w1 ⟨rfl, hb1⟩
    go_wp2
    go_ret
    exact ⟨rfl, hb1⟩
  · go_enter Try.func7, Try.ntmps7
    go_wp2_with fail
    refine (exact_begun _).mono ?_
    rintro e w1 ⟨rfl, hb1⟩
    have HB1 := hid hb1
    clear hb1
    go_wp2_with fail
    refine (great_any (HS.out.grew (grew_below HB1.out))).mono ?_
    rintro e w2 ⟨ht, rfl⟩
    rcases ht with rfl | ⟨rfl, hn, hsm⟩
    · clear HS
      go_wp2
      go_ret
      exact ⟨rfl, HB1.out⟩
    · have HSM := hid hsm
      clear hsm
      go_wp2_with fail
      refine (new_any 2 most _).mono ?_
      rintro e w3 ⟨rfl, t3, hb3⟩
      have P0 : Ph1 w (w2.heap.size + 1) w2.heap.size (min (max most 0) 100000).toNat w3 := ⟨⟨_, _, t3⟩, bl_step HB1.out hb3, HB1.out.size⟩
      have hM : (min (max most 0) 100000).toNat ≤ 100000 := by omega
      generalize hMe : (min (max most 0) 100000).toNat = M at *
      have HME := hid hMe
      clear hMe
      generalize w2.heap.size + 1 = p at *
      generalize w2.heap.size = b at *
      clear t3 hb3 HB1
      go_wp2_with fail
      go_loopw [8] (fun q wr => ∃ k : Nat, k ≤ n ∧ q = .int .i64 k ∧ Ph1 w p b M wr) (fun q _ => n - (intOf q).toNat)
      case atStart => exact ⟨0, Nat.zero_le _, rfl, P0⟩
      case round =>
        obtain ⟨k, hk, rfl, hP⟩ := hrel
        clear P0
        by_cases hlt : k < n
        · have hd : S[k]? = some (S[k]'(by have := HS.out.1; omega)) := List.getElem?_eq_getElem _
          have hsd := HSM.out _ (List.getElem_mem (l := S) (n := k) (by have := HS.out.1; omega))
          obtain ⟨g, off, rfl, hat, hok⟩ := (HS.out.grew (grew_below hP.2.1)).2 k _ hd
          clear hd
          generalize S[k]'(by have := HS.out.1; omega) = d at *
          have HP := hid hP
          obtain ⟨⟨C, ss, t⟩, _⟩ := hP
          have HT := hid t
          have HOK := hid hok
          have HSD := hid hsd
          have HAT := hid hat
          obtain ⟨h0, h1, h2, h3, h4, h5, h6⟩ := hat
          clear t hok hsd
          have hki : (k : Int) < (n : Int) := by omega
          by_cases hdo : d.doo = 2
          · have e2 : (d.doo == 2) = true := by simp [hdo]
            clear hdo
            go_wp2_with (go_at_call 29; refine (drop_some HT.out (by omega) HOK.out.2.1).mono ?_; rintro e w' ⟨x, C', ss', rfl, t', hg'⟩)
            have HN := hid (HP.out.next t' (Below.refl _ _) hg')
            clear t' hg'
            go_roundw
            case rel => exact ⟨k + 1, by omega, by go_num, HN.out⟩
            case measure => simp [intOf]; omega
          · have e2 : (d.doo == 2) = false := by simpa using hdo
            clear hdo
            go_wp2_with fail
            go_region_with (first
              | (go_at_call 31; refine (hitOf_any _ _ _ _ _ _ _ _ _ _ _ _ _).mono ?_; rintro e w4 ⟨rfl, hb4⟩; have HB4 := hid (bl_step (Below.refl wr.heap.size wr).drew hb4); obtain ⟨i0, i1, i2, i3, i4, i5, i6⟩ := HAT.out.grew (grew_below HB4.out))
              | (go_at_call 30; refine (add_some (HT.out.step HB4.out) (by omega) hM (HOK.out.grew (grew_below HB4.out)).2.1 ((HOK.out.grew (grew_below HB4.out)).says HSD.out)).mono ?_; rintro e w5 ⟨x, C', ss', rfl, t', hg'⟩))
            all_goals
              have HN := hid (HP.out.next t' HB4.out hg')
              clear t' hg'
              go_wp2
              go_roundw
              case rel => exact ⟨k + 1, by omega, by go_num, HN.out⟩
              case measure => simp [intOf]; omega
        · obtain ⟨⟨C, ss, t⟩, hB, hbb⟩ := hP
          have hEl : ((rising ss).map (entOf C)).length = ss.length := by rw [List.length_map, rising_length]
          have hss := t.most
          have HT := hid t
          have HB := hid hB
          clear t hB
          go_wp2_with fail
          refine (all_any HT.out (by omega) hM).mono ?_
          rintro e w4 ⟨v, rfl, hE, hb4⟩
          obtain ⟨g, cap, rfl⟩ := ents_len hE
          rw [hEl] at hE
          have HE := hid hE
          have T4 := hid (HT.out.step hb4)
          have B4 := hid (bl_step HB.out hb4)
          clear hE hb4 HT HB
          rw [hEl]
          go_wp2_with fail
          refine (new_any 2 most _).mono ?_
          rw [HME.out]
          rintro e w5 ⟨rfl, u5, hb5⟩
          have hne : b ≠ w4.heap.size := by obtain ⟨es, cl, hh⟩ := T4.out.isMap; have := (Array.getElem?_eq_some_iff.1 hh).1; omega
          have P5 : ∀ cc, Ph2 w p b (w4.heap.size + 1) w4.heap.size M C ss (turned (rising ss) cc) (.slice (some ⟨g, 0, none⟩) ss.length cap) 0 w5 := fun cc => ⟨T4.out.step hb5, by rw [List.take_zero, part_none]; exact u5, HE.out.grew (grew_below hb5), bl_step B4.out hb5, hne, B4.out.size⟩
          generalize w4.heap.size + 1 = q at *
          generalize w4.heap.size = f at *
          clear T4 B4 HE u5 hb5 hne
          go_wp2_with fail
          go_loopw [11] (fun x wr => ∃ k : Nat, k ≤ ss.length ∧ x = .int .i64 k ∧ Ph2 w p b q f M C ss (turned (rising ss) (IntKind.u64.wrap cut % (ss.length : Int)).toNat) (.slice (some ⟨g, 0, none⟩) ss.length cap) k wr) (fun x _ => ss.length - (intOf x).toNat)
          case atStart => exact ⟨0, Nat.zero_le _, rfl, P5 _⟩
          case round =>
            obtain ⟨j, hj, rfl, hP⟩ := hrel
            clear P5
            by_cases hlt2 : j < ss.length
            · have hji : (j : Int) < (ss.length : Int) := by omega
              obtain ⟨cc, idx, hcc, hcN, hidx, hiN, m1, m2, m3⟩ := next_at cut ss.length j (by omega)
              rw [hcc] at hP
              have nd : (rising ss).Nodup := (rising_perm ss).nodup_iff.2 hP.t.nd
              obtain ⟨x, hx, hxm, hxn, hxt⟩ := turned_next (zs := rising ss) (c := cc) (k := j) nd (by rw [rising_length]; exact hcN) (by rw [rising_length]; exact hlt2)
              rw [rising_length, ← hidx] at hx
              have hxs := rising_mem.1 hxm
              have hxl := hP.t.len x hxs
              obtain ⟨h, hC⟩ : ∃ h, C x = some h := Option.isSome_iff_exists.1 ((hP.t.mem x).1 hxs)
              obtain ⟨d, hgd, hgl, d0, d1, d2, d3, d4, d5⟩ := ents_at (E := (rising ss).map (entOf C)) (w := wr) (g := g) (cap := cap) (by rw [hEl]; exact hP.en) idx (by rw [hEl]; exact hiN)
              have hge : ((rising ss).map (entOf C))[idx]'(by rw [hEl]; exact hiN) = entOf C x := by
                rw [List.getElem_map]
                rw [List.getElem?_eq_some_iff] at hx
                obtain ⟨_, hx⟩ := hx
                rw [hx]
              rw [hge] at hgd
              have hkn : d.kn = 2 := by
                have := hgd.2.2.1.1
                unfold entOf at this
                rw [Mth.un_length, hxl] at this
                omega
              have HG := hid hgd
              have HP := hid hP
              have HX := hid (And.intro hxn hxt)
              have HCX := hid hC
              have HXL := hid hxl
              have HCC := hid hcc
              clear hgd hP hxn hxt hC hxl hcc hge hx hxs hxm nd hidx
              obtain ⟨dka, dkn, dkc, dact, da, dn, dc⟩ := d
              simp only at hkn d0 d4 d5
              subst hkn
              have hcN' : (cc : Int) < (ss.length : Int) := by omega
              have hiN' : (idx : Int) < (ss.length : Int) := by omega
              have hs5 : (ss.length : Int) ≤ 100000 := by omega
              have HNM := hid (Mth.nm_un x 2 HXL.out)
              have HPN : Hid ((part C ((turned (rising ss) cc).take j) (Mth.nm (Mth.un x))).isSome = false) := by
                rw [HNM.out]; unfold part; rw [if_neg HX.out.1]; rfl
              have HLN : Hid (((turned (rising ss) cc).take j).length < M) := by
                have := List.length_take_le j (turned (rising ss) cc)
                exact (by omega : ((turned (rising ss) cc).take j).length < M)
              go_wp2_with fail
              go_region_with (first
                | (go_at_call 31; refine (hitOf_any _ _ _ _ _ _ _ _ _ _ _ _ _).mono ?_; rintro e w6 ⟨rfl, hb6⟩; have HB6 := hid (bl_step ((bl_alloc (Below.refl wr.heap.size wr)).drew) hb6); have m0 := new_six _ _ _ _ _ _ _ _ hb6)
                | (go_at_call 30; refine (add_good (HP.out.u.step HB6.out) (by omega) hM (HG.out.grew (grew_below HB6.out)).2.2.1 HPN.out HLN.out (ent_says (HG.out.grew (grew_below HB6.out)) HCX.out)).mono ?_; rintro e w7 ⟨rfl, u7, hg7⟩))
              all_goals
                have u7' := u7
                have hC2 := HCX.out
                simp only [entOf, HNM.out] at u7'
                have HNX := hid (HP.out.next HB6.out u7' hg7 hC2 HX.out.2)
                clear u7 u7' hg7 hC2
                go_wp2
                go_roundw
                case rel => exact ⟨j + 1, by omega, by go_num, by rw [HCC.out]; exact HNX.out⟩
                case measure => simp [intOf]; omega
            · have ej : j = ss.length := by omega
              subst ej
              generalize hrot : turned (rising ss) (IntKind.u64.wrap cut % (ss.length : Int)).toNat = rot at *
              have hperm : rot.Perm ss := by rw [← hrot]; exact (turned_perm _ _).trans (rising_perm ss)
              have P3 := hP.done hperm
              have HRR := hid (rising_same hperm)
              have hrl := hperm.length_eq
              clear hP hperm hrot
              go_wp2_with fail
              go_loopw [13] (fun x wr => ∃ i : Nat, i ≤ n ∧ x = .int .i64 i ∧ Ph3 w p b q f M C ss rot (.slice (some ⟨g, 0, none⟩) ss.length cap) wr) (fun x _ => n - (intOf x).toNat)
              case atStart => exact ⟨0, Nat.zero_le _, rfl, P3⟩
              case round =>
                obtain ⟨i, hi, rfl, hP⟩ := hrel
                clear P3
                by_cases hlt3 : i < n
                · have hd : S[i]? = some (S[i]'(by have := HS.out.1; omega)) := List.getElem?_eq_getElem _
                  obtain ⟨gl, off, rfl, hat, hok⟩ := (HS.out.grew (grew_below hP.bel)).2 i _ hd
                  clear hd
                  generalize S[i]'(by have := HS.out.1; omega) = d at *
                  have HP := hid hP
                  have HOK := hid hok
                  have HAT := hid hat
                  obtain ⟨h0, h1, h2, h3, h4, h5, h6⟩ := hat
                  clear hok hP HSM
                  have hki : (i : Int) < (n : Int) := by omega
                  go_wp2_with fail
                  refine (find_any HP.out.t (by omega) HOK.out.2.1).mono ?_
                  rintro e w8 ⟨v1, rfl, hs1, hb8⟩
                  have hs1' := hs1
                  obtain ⟨a1, n1, c1, rfl, _⟩ := hs1
                  have B8 := hid (bl_alloc (o := HC ((found C 2 d.kn d.ks).getD (0, [])).1 a1 n1 c1) hb8)
                  have HS1 := hid (hs1'.grew (grew_below (bl_alloc (o := HC ((found C 2 d.kn d.ks).getD (0, [])).1 a1 n1 c1) (Below.refl w8.heap.size w8))))
                  obtain ⟨i0, i1, i2, i3, i4, i5, i6⟩ := HAT.out.grew (grew_below B8.out)
                  clear hs1' hb8 h0 h1 h2 h3 h4 h5 h6
                  go_wp2_with fail
                  refine (find_any (HP.out.u.step B8.out) (by omega) (HOK.out.grew (grew_below B8.out)).2.1).mono ?_
                  rintro e w9 ⟨v2, rfl, hs2, hb9⟩
                  have hs2' := hs2
                  obtain ⟨a2, n2, c2, rfl, _⟩ := hs2
                  have HS2 := hid (hs2'.grew (grew_below (bl_alloc (o := HC ((found C 2 d.kn d.ks).getD (0, [])).1 a2 n2 c2) (Below.refl w9.heap.size w9))))
                  have HS1' := hid (HS1.out.grew (grew_below (bl_alloc (o := HC ((found C 2 d.kn d.ks).getD (0, [])).1 a2 n2 c2) hb9)))
                  have B9 := hid (bl_alloc (o := HC ((found C 2 d.kn d.ks).getD (0, [])).1 a2 n2 c2) (bl_step B8.out hb9))
                  obtain ⟨y0, y1, y2⟩ := old_two (HC ((found C 2 d.kn d.ks).getD (0, [])).1 a2 n2 c2) hb9
                  clear hs2' hb9 HS1 B8 i0 i1 i2 i3 i4 i5 i6
                  have hoo : ((found C 2 d.kn d.ks).isSome != (found C 2 d.kn d.ks).isSome) = false := by simp
                  generalize (found C 2 d.kn d.ks).isSome = ok at *
                  generalize ((found C 2 d.kn d.ks).getD (0, [])) = h at *
                  go_wp2_with (go_at_call 34; refine (same_hit HS1'.out HS2.out).mono ?_; rintro e w11 ⟨rfl, hb11⟩)
                  have HN := hid (HP.out.step (bl_step B9.out hb11))
                  clear hb11
                  go_roundw
                  case rel => exact ⟨i + 1, by omega, by go_num, HN.out⟩
                  case measure => simp [intOf]; omega
                · have HP := hid hP
                  clear hP HS HSM
                  have hself : ((ss.length : Int) == (ss.length : Int)) = true := by simp
                  go_wp2_with fail
                  refine (all_any HP.out.u (by omega) hM).mono ?_
                  rw [HRR.out]
                  rintro e w8 ⟨v2, rfl, hE2, hb8⟩
                  have HP8 := hid (HP.out.step hb8)
                  have HE2 := hid hE2
                  clear hE2 hb8 HP
                  go_wp2_with fail
                  refine (same_entries (by rw [hEl]; omega) HE2.out HP8.out.en).mono ?_
                  rintro e w9 ⟨rfl, hb9⟩
                  have HP9 := hid (HP8.out.step hb9)
                  clear hb9 HP8 HE2
                  go_wp2_with fail
                  refine (len_any HP9.out.u).mono ?_
                  rintro e w10 ⟨rfl, rfl⟩
                  rw [hrl]
                  go_wp2_with fail
                  refine (len_any HP9.out.t).mono ?_
                  rintro e w11 ⟨rfl, rfl⟩
                  go_wp2_with fail
                  refine (len_any HP9.out.t).mono ?_
                  rintro e w12 ⟨rfl, rfl⟩
                  go_wp2
                  go_ret
                  exact ⟨rfl, HP9.out.bel⟩
end Go.Proofs.Ytfpefjadlbphiab
