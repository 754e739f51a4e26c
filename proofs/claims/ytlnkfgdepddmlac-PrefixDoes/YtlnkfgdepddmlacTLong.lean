/- PrefixLongest answers true. -/
import Derived.Test.YtlnkfgdepddmlacTLongMath
import Derived.Deep.CutRange
import Derived.Deep.RegionHeld3
namespace Go.Proofs.Ytlnkfgdepddmlac
open Go.RowKit Mth

/-- while the table is filled -/
def Ph1 (w : World) (p : Nat) (wd : Int) (wr : World) : Prop := (∃ C es, Tab wr w.heap.size p wd 100 C es ∧ es.length ≤ 100) ∧ Below w.heap.size w wr

theorem addE_le {C : Told2} {es : List (Nat × Nat)} {wd : Int} {key : Nat} {n : Int} (h : es.length ≤ 100) : (addE C es wd 100 key n).length ≤ 100 := by
  unfold addE
  by_cases hc : addCode C es wd 100 key n = 0
  · rw [if_pos hc, List.length_append, List.length_singleton]
    unfold addCode at hc
    split at hc
    · split at hc
      · omega
      · split at hc
        · omega
        · omega
    · omega
  · rw [if_neg hc]; exact h

theorem dropE_le {C : Told2} {es : List (Nat × Nat)} {wd : Int} {key : Nat} {n : Int} (h : es.length ≤ 100) : (dropE C es wd key n).length ≤ 100 := by
  unfold dropE
  split
  · have := List.length_erase_le (a := place wd key n) (l := es); omega
  · exact h

theorem Ph1.next {w wr w5 w6 : World} {p : Nat} {wd : Int} {C : Told2} {es : List (Nat × Nat)} (h : Ph1 w p wd wr) (hb : Below wr.heap.size wr w5) (t : TabTo w5 w6 w.heap.size p wd 100 C es) (hl : es.length ≤ 100) : Ph1 w p wd w6 :=
  ⟨⟨C, es, t.t, hl⟩, (bl_step h.2 hb).trans t.bel⟩

theorem fst_lt {w : World} {B : Nat} {a : Option Addr} {n c : Nat} {ks : List Int} (h : Lst w B a n c [(fst ks : Int)]) : fst ks < 18446744073709551616 := by
  have := h.2.2.1.nums (fst ks : Int) (by simp)
  omega

theorem lst_says {w : World} {B : Nat} {a : Option Addr} {n c : Nat} {xs : List Int} {x : Int} (h : Lst w B a n c xs) (hn : n ≤ 20) : Says w (.agg #[.int .i64 x, .slice a n c]) (x, xs) := ⟨a, n, c, rfl, h.1, by omega, h.2.2.1⟩

theorem lst_cell {w : World} {B : Nat} {b off c : Nat} {k : Int} (h : Lst w B (some ⟨b, off, none⟩) 1 c [k]) : w.cell? ⟨b, off, none⟩ = some (.int .u64 k) := by
  obtain ⟨b', off', e, _, hc⟩ := h.2.2.1.some (by omega)
  simp only [Option.some.injEq, Addr.mk.injEq, and_true] at e
  obtain ⟨rfl, rfl⟩ := e
  exact hc 0 (by omega)

/-- an entry and its key stay -/
theorem keep7 {w w' : World} {s g o : Nat} {ka : Option Addr} {kn kc : Nat} {x1 x2 x3 x4 x5 : Value} {k : Int} (h : w.cell? ⟨s, 0, none⟩ = some (.slice ka kn kc) ∧ w.cell? ⟨s, 1, none⟩ = some x1 ∧ w.cell? ⟨s, 2, none⟩ = some x2 ∧ w.cell? ⟨s, 3, none⟩ = some x3 ∧ w.cell? ⟨s, 4, none⟩ = some x4 ∧ w.cell? ⟨s, 5, none⟩ = some x5 ∧ w.cell? ⟨g, o, none⟩ = some (.int .u64 k)) (m : Moved w w') :
    w'.cell? ⟨s, 0, none⟩ = some (.slice ka kn kc) ∧ w'.cell? ⟨s, 1, none⟩ = some x1 ∧ w'.cell? ⟨s, 2, none⟩ = some x2 ∧ w'.cell? ⟨s, 3, none⟩ = some x3 ∧ w'.cell? ⟨s, 4, none⟩ = some x4 ∧ w'.cell? ⟨s, 5, none⟩ = some x5 ∧ w'.cell? ⟨g, o, none⟩ = some (.int .u64 k) := by
  obtain ⟨h0, h1, h2, h3, h4, h5, h6⟩ := h
  have t := tight_slice ka kn kc
  exact ⟨m.cell h0 h0 t, m.cell h1 h0 t, m.cell h2 h0 t, m.cell h3 h0 t, m.cell h4 h0 t, m.cell h5 h0 t, m.cell h6 h6 (tight_u64 _)⟩

/-- an entry of a list, and what was found, stay -/
theorem keep8 {w w' : World} {s o g : Nat} {ka ya : Option Addr} {kn kc yn yc : Nat} {x1 x2 x3 x4 x5 y0 : Value} (h : w.cell? ⟨s, o, none⟩ = some (.slice ka kn kc) ∧ w.cell? ⟨s, o + 1, none⟩ = some x1 ∧ w.cell? ⟨s, o + 2, none⟩ = some x2 ∧ w.cell? ⟨s, o + 3, none⟩ = some x3 ∧ w.cell? ⟨s, o + 4, none⟩ = some x4 ∧ w.cell? ⟨s, o + 5, none⟩ = some x5 ∧ w.cell? ⟨g, 0, none⟩ = some y0 ∧ w.cell? ⟨g, 1, none⟩ = some (.slice ya yn yc)) (m : Moved w w') :
    w'.cell? ⟨s, o, none⟩ = some (.slice ka kn kc) ∧ w'.cell? ⟨s, o + 1, none⟩ = some x1 ∧ w'.cell? ⟨s, o + 2, none⟩ = some x2 ∧ w'.cell? ⟨s, o + 3, none⟩ = some x3 ∧ w'.cell? ⟨s, o + 4, none⟩ = some x4 ∧ w'.cell? ⟨s, o + 5, none⟩ = some x5 ∧ w'.cell? ⟨g, 0, none⟩ = some y0 ∧ w'.cell? ⟨g, 1, none⟩ = some (.slice ya yn yc) := by
  obtain ⟨h0, h1, h2, h3, h4, h5, h6, h7⟩ := h
  have t := tight_slice ka kn kc
  have t' := tight_slice ya yn yc
  exact ⟨m.cell h0 h0 t, m.cell h1 h0 t, m.cell h2 h0 t, m.cell h3 h0 t, m.cell h4 h0 t, m.cell h5 h0 t, m.cell h6 h7 t', m.cell h7 h7 t'⟩

set_option maxHeartbeats 8000000 in
set_option maxRecDepth 40000 in
theorem long_main (wd : Int) (key : Nat) (hkey : key < 18446744073709551616) (a : Option Addr) (n c : Nat) (S : List SD) (w : World) (h : Steps w a n S) :
    Calls Try.prog 4 #[.int .i64 wd, .slice a n c, .int .u64 key] w fun e w' => e = .returned (.bool true) ∧ Below w.heap.size w w' := by
  have HS := hid h
  clear h
  go_enter Try.func4, Try.ntmps4
  go_wp2_with fail
  refine (prefix_begun _).mono ?_
  rintro e w1 ⟨rfl, hb1⟩
  have HB1 := hid hb1
  clear hb1
  go_wp2_with fail
  refine (great_any (HS.out.step HB1.out)).mono ?_
  rintro e w2 ⟨ht, rfl⟩
  rcases ht with rfl | ⟨rfl, hn, hsm⟩
  · clear HS
    go_wp2
    go_ret
    exact ⟨rfl, HB1.out⟩
  · have HSM := hid hsm
    clear hsm
    by_cases g1 : wd < 1
    · clear HS HSM
      go_wp2
      go_ret
      exact ⟨rfl, HB1.out⟩
    · by_cases g2 : 64 < wd
      · clear HS HSM
        go_wp2
        go_ret
        exact ⟨rfl, HB1.out⟩
      · go_wp2_with fail
        refine (new_any wd 100 _ w.heap.size HB1.out.size).mono ?_
        rintro e w3 ⟨rfl, t3, hb3⟩
        have P0 : Ph1 w w2.heap.size wd w3 := ⟨⟨_, _, t3, by simp⟩, bl_step HB1.out hb3⟩
        generalize w2.heap.size = p at *
        clear t3 hb3 HB1
        go_wp2_with fail
        go_loopw [8] (fun q wr => ∃ k : Nat, k ≤ n ∧ q = .int .i64 k ∧ Ph1 w p wd wr) (fun q _ => n - (intOf q).toNat)
        case atStart => exact ⟨0, Nat.zero_le _, rfl, P0⟩
        case round =>
          obtain ⟨k, hk, rfl, hP⟩ := hrel
          clear P0
          by_cases hlt : k < n
          · have hd : S[k]? = some (S[k]'(by have := HS.out.1; omega)) := List.getElem?_eq_getElem _
            have hsd := HSM.out _ (List.getElem_mem (l := S) (n := k) (by have := HS.out.1; omega))
            obtain ⟨g, off, rfl, hat, hok⟩ := (HS.out.step hP.2).2 k _ hd
            clear hd
            generalize S[k]'(by have := HS.out.1; omega) = d at *
            have HP := hid hP
            obtain ⟨⟨C, es, t, hes⟩, _⟩ := hP
            have HT := hid t
            have HOK := hid hok
            have HSD := hid hsd
            have HAT := hid hat
            obtain ⟨h0, h1, h2, h3, h4, h5, h6⟩ := hat
            clear t hok hsd
            have hki : (k : Int) < (n : Int) := by omega
            go_wp2_with fail
            refine (oneKey_any HOK.out.1 HOK.out.2.1 (by have := HSD.out.1; omega) HOK.out.2.2.1 HOK.out.2.2.2.1 (by have := HSD.out.2.1; omega) HOK.out.2.2.2.2.1 HOK.out.2.2.2.2.2 (by have := HSD.out.2.2; omega)).mono ?_
            rintro e w4 ⟨kg, ko, kc, aa, ca, rfl, lk, la, hb4⟩
            have hal : Below w4.heap.size w4 (w4.alloc (EC (some ⟨kg, ko, none⟩) 1 kc none 0 0 d.ln 0 d.ac aa d.n ca)) := bl_alloc (Below.refl _ _)
            have hb5 := bl_step hb4 hal
            have hkl := fst_lt lk
            have LK := hid (lk.step hal)
            have LA := hid (la.step hal)
            have HB5 := hid hb5
            have SX := hid (six_new w4 (.slice (some ⟨kg, ko, none⟩) 1 kc) (.slice none 0 0) (.int .i64 d.ln) (.int .i64 0) (.int .i64 d.ac) (.slice aa d.n ca) 33)
            obtain ⟨i0, i1, i2, i3, i4, i5, i6⟩ := HAT.out.moved (moved_below hb5)
            clear h0 h1 h2 h3 h4 h5 h6 lk la hb4 hal hb5
            go_upto_region 10 with fail
            generalize w4.alloc (EC (some ⟨kg, ko, none⟩) 1 kc none 0 0 d.ln 0 d.ac aa d.n ca) = w5 at *
            generalize w4.heap.size = eb at *
            obtain ⟨x0, x1, x2, x3, x4, x5, _, _, _, _, _, _⟩ := SX.out
            have kk := lst_cell LK.out
            by_cases hdo : d.doo = 2
            · have e2 : (d.doo == 2) = true := by simp [hdo]
              clear hdo i1 i2 i3 i4 i5 i6
              have HD := hid (drop_any (key := fst d.ks) (n := d.ln) ((HT.out.step HB5.out).step (Below.refl w5.heap.size w5).drew) hkl (by omega))
              go_wp2_with fail
              go_region_held3 (fun w' => w'.cell? ⟨eb, 0, none⟩ = some (.slice (some ⟨kg, ko, none⟩) 1 kc) ∧ w'.cell? ⟨eb, 1, none⟩ = some (.slice none 0 0) ∧ w'.cell? ⟨eb, 2, none⟩ = some (.int .i64 d.ln) ∧ w'.cell? ⟨eb, 3, none⟩ = some (.int .i64 0) ∧ w'.cell? ⟨eb, 4, none⟩ = some (.int .i64 d.ac) ∧ w'.cell? ⟨eb, 5, none⟩ = some (.slice aa d.n ca) ∧ w'.cell? ⟨kg, ko, none⟩ = some (.int .u64 (fst d.ks)))
                (first
                  | go_keep
                  | (go_split_ands
                     first
                     | exact keep7 ⟨by assumption, by assumption, by assumption, by assumption, by assumption, by assumption, by assumption⟩ t6.mov))
                (first
                  | (go_at_call 16; refine HD.out.mono ?_; rintro e w6 ⟨rfl, t6⟩))
              all_goals
                have HN := hid (HP.out.next (bl_step HB5.out (Below.refl w5.heap.size w5).drew) t6 (dropE_le hes))
                clear t6
                go_wp2
                go_roundw
                case rel => exact ⟨k + 1, by omega, by go_num, HN.out⟩
                case measure => simp [intOf]; omega
            · have e2 : (d.doo == 2) = false := by simpa using hdo
              clear hdo i1 i2 i3 i4 i5 i6
              go_wp2_with fail
              go_region_held3 (fun w' => w'.cell? ⟨eb, 0, none⟩ = some (.slice (some ⟨kg, ko, none⟩) 1 kc) ∧ w'.cell? ⟨eb, 1, none⟩ = some (.slice none 0 0) ∧ w'.cell? ⟨eb, 2, none⟩ = some (.int .i64 d.ln) ∧ w'.cell? ⟨eb, 3, none⟩ = some (.int .i64 0) ∧ w'.cell? ⟨eb, 4, none⟩ = some (.int .i64 d.ac) ∧ w'.cell? ⟨eb, 5, none⟩ = some (.slice aa d.n ca) ∧ w'.cell? ⟨kg, ko, none⟩ = some (.int .u64 (fst d.ks)))
                (first
                  | go_keep
                  | (go_split_ands
                     first
                     | exact keep7 ⟨by assumption, by assumption, by assumption, by assumption, by assumption, by assumption, by assumption⟩ (moved_below hb6)
                     | exact keep7 ⟨by assumption, by assumption, by assumption, by assumption, by assumption, by assumption, by assumption⟩ t7.mov))
                (first
                  | (go_at_call 12; refine (hitOf_any _ _ _ _ _ _ _ _ _ _ _ _ _).mono ?_; rintro e w6 ⟨rfl, hb6⟩; have HB6 := hid (bl_step (bl_step HB5.out (Below.refl w5.heap.size w5).drew) hb6))
                  | (go_at_call 11; refine (add_any (HT.out.step HB6.out) hkl (lst_says ((LA.out.step (Below.refl w5.heap.size w5).drew).step hb6) HSD.out.2.2) (by omega)).mono ?_; rintro e w7 ⟨rfl, t7⟩))
              all_goals
                have HN := hid (HP.out.next HB6.out t7 (addE_le hes))
                clear t7 hb6
                go_wp2
                go_roundw
                case rel => exact ⟨k + 1, by omega, by go_num, HN.out⟩
                case measure => simp [intOf]; omega
          · obtain ⟨⟨C, es, t, hes⟩, hB⟩ := hP
            obtain ⟨W, rfl⟩ := Int.eq_ofNat_of_zero_le (show 0 ≤ wd by omega)
            have hW1 : 1 ≤ W := by omega
            have hW64 : W ≤ 64 := by omega
            have hwid : wid (W : Int) = W := by unfold wid; rw [if_pos (by omega)]; rfl
            have hK0 : key % 2 ^ W < 2 ^ W := Nat.mod_lt _ (Nat.two_pow_pos _)
            have hKn := and_num key W hkey hW64
            rw [← mask_all W hW1 hW64] at hKn
            have h264 : 2 ^ W ≤ 2 ^ 64 := Nat.pow_le_pow_right (by decide) hW64
            generalize hKK : key % 2 ^ W = K at *
            have hK64 : K < 18446744073709551616 := by omega
            have HT := hid t
            have HB := hid hB
            have HKW := hid hK0
            clear t hB h264 hKK HS HSM hK0
            go_wp2_with fail
            refine (ones_any _ _).mono ?_
            rintro e w3 ⟨rfl, rfl⟩
            go_wp2_with fail
            refine (find_any (key := K) HT.out hK64).mono ?_
            rintro e w4 ⟨v, rfl, hs, hb4⟩
            have hf : foundIn C W K = best C W K (W + 1) := by unfold foundIn; rw [Int.toNat_natCast, if_pos ⟨by omega, by omega, HKW.out⟩]
            rw [hf] at hs ⊢
            generalize hR : best C W K (W + 1) = R at *
            have HR := hid hR
            have hs' := hs
            obtain ⟨fa, fn, fc, rfl, _⟩ := hs
            have HSAY := hid (hs'.moved (moved_alloc w4 (HC (R.getD ((0, []), 0)).1.1 fa fn fc)))
            have T5 := hid ((HT.out.step hb4).step (bl_alloc (o := HC (R.getD ((0, []), 0)).1.1 fa fn fc) (Below.refl w4.heap.size w4)))
            have B5 := hid (bl_alloc (o := HC (R.getD ((0, []), 0)).1.1 fa fn fc) (bl_step HB.out hb4))
            have hq := new_two w4 (.int .i64 (R.getD ((0, []), 0)).1.1) (.slice fa fn fc) 40
            have HQ := hid hq
            clear hs' hb4 HT HB hf hR hq hKn
            go_wp2_with fail
            refine (all_any T5.out (by omega)).mono ?_
            rintro e w6 ⟨ea, ec, rfl, hE, hb6⟩
            have HE := hid hE
            have HSAY6 := hid (HSAY.out.moved (moved_below hb6))
            have B6 := hid (bl_step B5.out hb6)
            have q0 : w6.cell? ⟨w4.heap.size, 0, none⟩ = some (.int .i64 (R.getD ((0, []), 0)).1.1) := (hb6.cell (p := ⟨w4.heap.size, 0, none⟩) (by simp)).trans HQ.out.1
            have q1 : w6.cell? ⟨w4.heap.size, 1, none⟩ = some (.slice fa fn fc) := (hb6.cell (p := ⟨w4.heap.size, 1, none⟩) (by simp)).trans HQ.out.2.1
            have PM := hid T5.out.perm
            have MM := hid T5.out.mem
            have RG := hid T5.out.rng
            rw [hwid] at PM RG
            have hEq : allOf C (W : Int) = (pre C (W + 1) 0 0).map (entOf C W) := by unfold allOf; rw [hwid]
            rw [hEq] at HE
            generalize hL : pre C (W + 1) 0 0 = L at *
            generalize w4.heap.size = hb at *
            clear hE hb6 HSAY T5 B5 HQ hEq hL
            go_wp2_with fail
            go_loopw [14, 15] (fun x q wr => ∃ (i : Nat) (b : Int), i ≤ es.length ∧ q = .int .i64 i ∧ x = .int .i64 b ∧ BestOf L W K i b ∧ Hid (∃ s, wr = w6.drewN s)) (fun _ q _ => es.length - (intOf q).toNat)
            case atStart => exact ⟨0, -1, Nat.zero_le _, rfl, rfl, bestOf_zero _ _ _, 0, rfl⟩
            case round =>
              obtain ⟨i, b, hi, rfl, rfl, hbest, hwr⟩ := hrel
              have hLl : L.length = es.length := PM.out.length_eq
              have HER : Hid (Ents wr ea es.length (L.map (entOf C W))) := by obtain ⟨s, e⟩ := hwr; rw [e]; exact HE.out.moved (moved_below (drew_below w6 s))
              by_cases hlt2 : i < es.length
              · have hx : L[i]? = some (L[i]'(by omega)) := List.getElem?_eq_getElem _
                have hxm : L[i]'(by omega) ∈ L := List.getElem_mem _
                generalize L[i]'(by omega) = x at *
                obtain ⟨m, v⟩ := x
                have hm := (RG.out m v ((MM.out m v).1 ((PM.out.mem_iff).1 hxm))).1
                obtain ⟨lo, r, q, kv, n1, n2, n3, n4, n5, n6⟩ := round_nums W K m v hm hW64 HKW.out
                have hEi : (L.map (entOf C W))[i]? = some (entOf C W (m, v)) := by rw [List.getElem?_map, hx]; rfl
                obtain ⟨g, kb, ko, kc, aa, an, ac, rfl, c0, c1, c2, c3, c4, c5, ck, _⟩ := ent_cells HER.out hEi rfl
                have e4 : (((entOf C W (m, v)).ln)) = (m : Int) := rfl
                have e5 : (((v, (0 : Nat)).1 * 2 ^ (W - m) : Nat) : Int) = (kv : Int) := by rw [n4]
                have ck' : wr.cell? ⟨kb, ko, none⟩ = some (.int .u64 (kv : Int)) := by rw [n4]; exact ck
                rw [e4] at c2
                have HX := hid hx
                have HER2 := hid HER.out
                have HBS := hid hbest
                have HN5 := hid n5
                have HN6 := hid n6
                clear ck c1 c3 c4 c5 e4 e5 hx hxm hEi n4 n5 n6 HER hbest
                have hii : (i : Int) < (es.length : Int) := by omega
                by_cases hhad : Had W K (m, v)
                · have nhad := HN5.out hhad
                  have HBS2 := hid HBS.out
                  rcases HBS2.out with ⟨rfl, _⟩ | ⟨k', z, rfl, hk', hz, _, _⟩
                  · have HNX := hid (bestOf_first HBS.out HX.out hhad)
                    clear HN5 HN6 hhad HBS HBS2
                    go_wp2_with fail
                    refine (ones_any _ _).mono ?_
                    rintro e w7 ⟨rfl, rfl⟩
                    rw [n1]
                    go_wp2_with fail
                    go_quiet (fail)
                    go_wp2
                    go_roundw
                    case rel => exact ⟨i + 1, _, by omega, by go_num, rfl, HNX.out, (by obtain ⟨s, e⟩ := hwr; rw [e]; exact ⟨_, World.drewN_drewN _ _ _⟩)⟩
                    case measure => simp [intOf]; omega
                  · obtain ⟨mz, vz⟩ := z
                    have hEk : (L.map (entOf C W))[k']? = some (entOf C W (mz, vz)) := by rw [List.getElem?_map, hz]; rfl
                    obtain ⟨g', _, _, _, _, _, _, eg, _, _, cz, _⟩ := ent_cells HER2.out hEk rfl
                    have eg' : g' = g := by simpa using eg.symm
                    subst eg'
                    have e6 : (((entOf C W (mz, vz)).ln)) = (mz : Int) := rfl
                    rw [e6] at cz
                    have hk0 : ¬ (k' : Int) < 0 := by omega
                    have hki : (k' : Int) < (es.length : Int) := by omega
                    by_cases hmore : mz < m
                    · have HNX := hid (bestOf_more HBS.out hz HX.out hhad hmore)
                      have hmi : (mz : Int) < (m : Int) := by omega
                      clear HN5 HN6 hhad HBS HBS2 hz hEk eg e6 HER2 hmore
                      go_wp2_with fail
                      refine (ones_any _ _).mono ?_
                      rintro e w7 ⟨rfl, rfl⟩
                      rw [n1]
                      go_wp2_with fail
                      go_quiet (fail)
                      go_wp2
                      go_roundw
                      case rel => exact ⟨i + 1, _, by omega, by go_num, rfl, HNX.out, (by obtain ⟨s, e⟩ := hwr; rw [e]; exact ⟨_, World.drewN_drewN _ _ _⟩)⟩
                      case measure => simp [intOf]; omega
                    · have HNX := hid (bestOf_less HBS.out hz HX.out (by simp only; omega))
                      have hmi : ¬ (mz : Int) < (m : Int) := by omega
                      clear HN5 HN6 hhad HBS HBS2 hz hEk eg e6 HER2 hmore
                      go_wp2_with fail
                      refine (ones_any _ _).mono ?_
                      rintro e w7 ⟨rfl, rfl⟩
                      rw [n1]
                      go_wp2_with fail
                      go_quiet (fail)
                      go_wp2
                      go_roundw
                      case rel => exact ⟨i + 1, _, by omega, by go_num, rfl, HNX.out, (by obtain ⟨s, e⟩ := hwr; rw [e]; exact ⟨_, World.drewN_drewN _ _ _⟩)⟩
                      case measure => simp [intOf]; omega
                · have nhad := HN6.out hhad
                  have HNX := hid (bestOf_skip HBS.out HX.out hhad)
                  clear HN5 HN6 hhad HBS HER2
                  go_wp2_with fail
                  refine (ones_any _ _).mono ?_
                  rintro e w7 ⟨rfl, rfl⟩
                  rw [n1]
                  go_wp2_with fail
                  go_quiet (fail)
                  go_wp2
                  go_roundw
                  case rel => exact ⟨i + 1, _, by omega, by go_num, rfl, HNX.out, (by obtain ⟨s, e⟩ := hwr; rw [e]; exact ⟨_, World.drewN_drewN _ _ _⟩)⟩
                  case measure => simp [intOf]; omega
              · have ei : i = es.length := by omega
                subst ei
                have hmem : ∀ n v, (n, v) ∈ L ↔ (C n v).isSome = true := fun n v => (PM.out.mem_iff).trans (MM.out n v)
                rcases hbest with ⟨rfl, hno⟩ | ⟨k', y, rfl, hk', hy, hmy, hmax⟩
                · have hRn : R = none := by
                    rw [← HR.out]
                    exact none_had hmem fun x hx => by
                      obtain ⟨j, hj, rfl⟩ := List.getElem_of_mem hx
                      exact hno j (by omega) _ (List.getElem?_eq_getElem hj)
                  subst hRn
                  have HW := hid hwr
                  clear hwr HE HER hmem hno HSAY6 q0 q1
                  go_wp2
                  go_ret
                  exact ⟨rfl, by obtain ⟨s, e⟩ := HW.out; rw [e]; exact below_drewN B6.out s⟩
                · have hym : y ∈ L := List.mem_of_getElem? hy
                  have hRs := long_had hmem (fun n v h => (RG.out n v h).1) hym hmy (fun x hx hmx => by
                    obtain ⟨j, hj, rfl⟩ := List.getElem_of_mem hx
                    exact hmax j (by omega) _ (List.getElem?_eq_getElem hj) hmx)
                  rw [HR.out] at hRs
                  subst hRs
                  obtain ⟨m, v⟩ := y
                  have hEk : (L.map (entOf C W))[k']? = some (entOf C W (m, v)) := by rw [List.getElem?_map, hy]; rfl
                  obtain ⟨g, kb, ko, kc, aa, an, ac, rfl, c0, c1, c2, c3, c4, c5, ck, hsay⟩ := ent_cells HER.out hEk rfl
                  have hki : (k' : Int) < (es.length : Int) := by omega
                  have hk0 : ¬ (k' : Int) < 0 := by omega
                  have qr0 : wr.cell? ⟨hb, 0, none⟩ = some (.int .i64 ((C m v).getD (0, [])).1) := by obtain ⟨s, e⟩ := hwr; rw [e]; exact q0
                  have qr1 : wr.cell? ⟨hb, 1, none⟩ = some (.slice fa fn fc) := by obtain ⟨s, e⟩ := hwr; rw [e]; exact q1
                  have SR : Hid (Says wr (.agg #[.int .i64 ((C m v).getD (0, [])).1, .slice fa fn fc]) ((C m v).getD (0, []))) := by obtain ⟨s, e⟩ := hwr; rw [e]; exact HSAY6.out.moved (moved_below (drew_below w6 s))
                  have SE : Hid (Says wr (.agg #[.int .i64 ((C m v).getD (0, [])).1, .slice aa an ac]) ((C m v).getD (0, []))) := hsay
                  have BR : Hid (Below w.heap.size w wr) := by obtain ⟨s, e⟩ := hwr; rw [e]; exact below_drewN B6.out s
                  have d2 : wr.cell? ⟨g, k' * 6 + 2, none⟩ = some (.int .i64 (m : Int)) := c2
                  have d4 : wr.cell? ⟨g, k' * 6 + 4, none⟩ = some (.int .i64 ((C m v).getD (0, [])).1) := c4
                  simp only [Option.getD_some, Option.isSome_some]
                  generalize (C m v).getD (0, []) = h at *
                  have hmm : ((m : Int) == (m : Int)) = true := by simp
                  clear c2 c4 hwr HER HE hEk hsay HSAY6 q0 q1 ck hmem hmax hym hy hmy HR
                  go_wp2_with fail
                  go_region_held3 (fun w' => w'.cell? ⟨g, k' * 6, none⟩ = some (.slice (some ⟨kb, ko, none⟩) 1 kc) ∧ w'.cell? ⟨g, k' * 6 + 1, none⟩ = some (.slice none 0 0) ∧ w'.cell? ⟨g, k' * 6 + 2, none⟩ = some (.int .i64 (m : Int)) ∧ w'.cell? ⟨g, k' * 6 + 3, none⟩ = some (.int .i64 0) ∧ w'.cell? ⟨g, k' * 6 + 4, none⟩ = some (.int .i64 h.1) ∧ w'.cell? ⟨g, k' * 6 + 5, none⟩ = some (.slice aa an ac) ∧ w'.cell? ⟨hb, 0, none⟩ = some (.int .i64 h.1) ∧ w'.cell? ⟨hb, 1, none⟩ = some (.slice fa fn fc))
                    (first
                      | go_keep
                      | (go_split_ands
                         first
                         | exact keep8 ⟨by assumption, by assumption, by assumption, by assumption, by assumption, by assumption, by assumption, by assumption⟩ (moved_below hb7)
                         | exact keep8 ⟨by assumption, by assumption, by assumption, by assumption, by assumption, by assumption, by assumption, by assumption⟩ (moved_below hb8)))
                    (first
                      | (go_at_call 12; refine (hitOf_any _ _ _ _ _ _ _ _ _ _ _ _ _).mono ?_; rintro e w7 ⟨rfl, hb7⟩; have HB7 := hid (bl_step (Below.refl wr.heap.size wr).drew hb7))
                      | (go_at_call 20; refine (same_hit (SR.out.moved (moved_below HB7.out)) (SE.out.moved (moved_below HB7.out))).mono ?_; rintro e w8 ⟨rfl, hb8⟩))
                  all_goals
                    have HB8 := hid (bl_step (bl_step BR.out HB7.out) hb8)
                    clear hb7 hb8
                    go_wp2
                    go_ret
                    exact ⟨rfl, HB8.out⟩
end Go.Proofs.Ytlnkfgdepddmlac
