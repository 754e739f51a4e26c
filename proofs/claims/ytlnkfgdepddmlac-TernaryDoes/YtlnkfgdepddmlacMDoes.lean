/- TernaryDoes answers true. -/
import Derived.Test.YtlnkfgdepddmlacMArms
import Derived.Test.YtlnkfgdepddmlacMFirst
import Derived.Test.YtlnkfgdepddmlacKFind
import Derived.Test.YtlnkfgdepddmlacKAll
namespace Go.Proofs.Ytlnkfgdepddmlac
open Go.RowKit Mth

abbrev KC3 (keys most : Int) : Obj := .cells #[.int .i64 3, .int .i64 keys, .int .i64 0, .int .i64 most, .slice none 0 0] 30

theorem krows_begun (w : World) (B : Nat) (hB : B ≤ w.heap.size) (keys most : Int) : KRws (w.alloc (KC3 keys most)) B w.heap.size keys most [] :=
  ⟨⟨by simp, by simp, by simp, by simp⟩, by simp, hB, ⟨none, 0, by simp, mrow_nil _ _⟩, by simp⟩

theorem td_begun {w w3 : World} {p : Nat} {keys most : Int} (h : Below w.heap.size w w3) (t : MTab w3 w.heap.size p keys most []) : TD w p w3.heap.size keys most 0 (w3.alloc (KC3 keys most)) := by
  have hb := bl_alloc (o := KC3 keys most) (Below.refl w3.heap.size w3)
  refine ⟨⟨[], [], t.step hb, krows_begun w3 _ h.size keys most, fun k h1 h2 => ?_, List.Perm.refl _, by simp⟩, bl_step h hb⟩
  have k1 := t.two_lt ((two_stay (hb.block p (World.block_lt_of_cell? w3 _ t.c0)) k).1 h1)
  rcases h2 with rfl | ⟨n, c, h2⟩
  · omega
  · simp at h2

theorem mlen_grow {w : World} {B p : Nat} {keys most : Int} {T : List TE} (t : MTab w B p keys most T) :
    Calls Try.prog 33 #[.pointer (some ⟨p, 0, none⟩)] w fun e w' => e = .returned (.int .i64 T.length) ∧ ∃ q os, w' = Sort.grow (w.drewN q) os :=
  (mlen_any t).mono fun _ _ ⟨he, hw⟩ => ⟨he, 0, #[], by rw [hw, Sort.grow_empty]; rfl⟩

set_option maxHeartbeats 400000 in
set_option maxRecDepth 20000 in
theorem same_hit3 {w : World} {u v : Value} {h : HitM} (su : Says w u h) (sv : Says w v h) :
    Calls Try.prog 20 #[u, v] w fun e w' => e = .returned (.bool true) ∧ Grew w w' := by
  obtain ⟨a, n, c, rfl, _, hs, hu⟩ := su
  obtain ⟨b, m, d, rfl, _, _, hv⟩ := sv
  have e : m = n := by rw [← hu.1, ← hv.1]
  subst e
  have hx : (h.1 == h.1) = true := by simp
  have HU := hid hu
  have HV := hid hv
  clear hu hv
  go_enter Try.func20, Try.ntmps20
  go_wp2_with (go_at_call 48; refine (same_nums _ _ hs HU.out.alloc.alloc HV.out.alloc.alloc).mono ?_; rintro e w1 ⟨rfl, s1, rfl⟩)
  go_ret
  exact ⟨rfl, grew_alloc2 _ _ _ _⟩

theorem own_good {w w' : World} {ak am aa : Option Addr} {kn mn n ck cm ca : Nat} {ln pr ac : Int} {ks ms xs : List Int} {B : Nat} (lk : Lst w B ak kn ck ks) (lm : Lst w B am mn cm ms) (la : Lst w B aa n ca xs) (h1 : kn ≤ 20) (h2 : mn ≤ 20) (h3 : n ≤ 20) (hb : Below w.heap.size w w') : (MD.mk ak kn ck am mn cm ln pr ac aa n ca).good w' ⟨ks, ms, pr, ac, xs⟩ :=
  ⟨lk.1, Nat.le_trans h1 (by omega), lk.2.2.1.step hb, lm.1, Nat.le_trans h2 (by omega), lm.2.2.1.step hb, rfl, rfl, la.1, Nat.le_trans h3 (by omega), la.2.2.1.step hb⟩

theorem own_fresh {w : World} {ak am aa : Option Addr} {kn mn n ck cm ca : Nat} {ln pr ac : Int} {ks ms xs : List Int} {B : Nat} (lk : Lst w B ak kn ck ks) (lm : Lst w B am mn cm ms) (la : Lst w B aa n ca xs) : (MD.mk ak kn ck am mn cm ln pr ac aa n ca).new 0 :=
  ⟨(lk.mono (Nat.zero_le _)).2.2.2, (lm.mono (Nat.zero_le _)).2.2.2, (la.mono (Nat.zero_le _)).2.2.2⟩

set_option maxHeartbeats 8000000 in
set_option maxRecDepth 40000 in
theorem mdoes_main (keys most : Int) (a : Option Addr) (n c : Nat) (S : List SD) (w : World) (h : Steps w a n S) :
    Calls Try.prog 5 #[.int .i64 keys, .int .i64 most, .slice a n c] w fun e w' => e = .returned (.bool true) ∧ Below w.heap.size w w' := by
  have HS := hid h
  clear h
  go_enter Try.func5, Try.ntmps5
  go_wp2_with fail
  refine (ternary_begun _).mono ?_
  rintro e w1 ⟨rfl, hb1⟩
  have HB1 := hid hb1
  clear hb1
  go_wp2_with fail
  refine (great_any (HS.out.step HB1.out)).mono ?_
  rintro e w2 ⟨ht, rfl⟩
  rcases ht with rfl | ⟨rfl, hn, hsm⟩
  · clear HS
    go_wp2
    go_ret
    exact ⟨rfl, HB1.out⟩
  by_cases hk0 : keys < 0
  · clear HS hsm
    go_wp2
    go_ret
    exact ⟨rfl, HB1.out⟩
  by_cases hk20 : 20 < keys
  · clear HS hsm
    go_wp2
    go_ret
    exact ⟨rfl, HB1.out⟩
  · have HSM := hid hsm
    clear hsm
    go_wp2_with fail
    refine (mnew_any keys most _ w.heap.size HB1.out.size).mono ?_
    rintro e w3 ⟨rfl, t3, hb3⟩
    have P0 : Hid (TD w w2.heap.size w3.heap.size keys most 0 (w3.alloc (KC3 keys most))) := td_begun (bl_step HB1.out hb3) t3
    generalize w2.heap.size = p at *
    clear t3 hb3 HB1
    go_wp2_with fail
    generalize w3.alloc (KC3 keys most) = w4 at *
    generalize w3.heap.size = r at *
    go_loopw [9] (fun q wr => ∃ k : Nat, k ≤ n ∧ q = .int .i64 k ∧ TD w p r keys most k wr) (fun q _ => n - (intOf q).toNat)
    case atStart => exact ⟨0, Nat.zero_le _, rfl, P0.out⟩
    case round =>
      obtain ⟨k, hk, rfl, hP⟩ := hrel
      clear P0
      by_cases hlt : k < n
      · have hd : S[k]? = some (S[k]'(by have := HS.out.1; omega)) := List.getElem?_eq_getElem _
        have hsd := HSM.out _ (List.getElem_mem (l := S) (n := k) (by have := HS.out.1; omega))
        obtain ⟨g0, off0, e0, hat0, hok0⟩ := HS.out.2 k _ hd
        obtain ⟨g, off, rfl, hat, hok⟩ := (HS.out.step hP.2).2 k _ hd
        simp only [Option.some.injEq, Addr.mk.injEq, and_true] at e0
        obtain ⟨rfl, rfl⟩ := e0
        have hgl : g < w.heap.size := World.block_lt_of_cell? w _ hat0.1
        have HOK := hid hok0
        have HATW := hid hat0
        clear hd hat0 hok0
        generalize S[k]'(by have := HS.out.1; omega) = d at *
        have HPB := hid hP.2
        obtain ⟨⟨T, E, t, rw0, hap, hpm, hTl⟩, -⟩ := hP
        have HT := hid t
        have HR := hid rw0
        have HAP := hid hap
        have HPM := hid hpm
        have HLE := hid hTl
        have HSD := hid hsd
        have HAT := hid hat
        obtain ⟨h0, h1, h2, h3, h4, h5, h6⟩ := hat
        have OWN := hid (ownEntry_any (ln := d.ln) (pr := d.pr) (ac := d.ac) hok.1 hok.2.1 (by have := hsd.1; omega) hok.2.2.1 hok.2.2.2.1 (by have := hsd.2.1; omega) hok.2.2.2.2.1 hok.2.2.2.2.2 (by have := hsd.2.2; omega))
        clear t hok hsd rw0 hap hpm hTl
        have hki : (k : Int) < (n : Int) := by omega
        go_wp2_with fail
        refine OWN.out.mono ?_
        rintro e w5 ⟨ak, ck, am, cm, aa, ca, rfl, lk, lm, la, hb4⟩
        have hal : Below w5.heap.size w5 (w5.alloc (EC ak d.kn ck am d.mn cm d.ln d.pr d.ac aa d.n ca)) := bl_alloc (Below.refl _ _)
        have hb5 := bl_step hb4 hal
        have heb : wr.heap.size ≤ w5.heap.size := hb4.size
        have FG : Hid (MD.good (MD.mk ak d.kn ck am d.mn cm d.ln d.pr d.ac aa d.n ca) (w5.alloc (EC ak d.kn ck am d.mn cm d.ln d.pr d.ac aa d.n ca)) d.te) := own_good lk lm la HSD.out.1 HSD.out.2.1 HSD.out.2.2 hal
        have FN := hid (own_fresh (ln := d.ln) (pr := d.pr) (ac := d.ac) lk lm la)
        have HB5 := hid hb5
        have SX := hid (six_new w5 (.slice ak d.kn ck) (.slice am d.mn cm) (.int .i64 d.ln) (.int .i64 d.pr) (.int .i64 d.ac) (.slice aa d.n ca) 33)
        obtain ⟨i0, i1, i2, i3, i4, i5, i6⟩ := HAT.out.moved (moved_below hb5)
        clear h0 h1 h2 h3 h4 h5 h6 lk lm la hb4 hal hb5 OWN
        go_upto_region 12 with fail
        generalize w5.alloc (EC ak d.kn ck am d.mn cm d.ln d.pr d.ac aa d.n ca) = w6 at *
        generalize w5.heap.size = eb at *
        have SXX := SX.out
        obtain ⟨x0, x1, x2, x3, x4, x5, -, -, -, -, -, -⟩ := SXX
        have hel : eb < w6.heap.size := World.block_lt_of_cell? w6 _ x0
        have hdw : Below w6.heap.size w6 w6.drew := (Below.refl _ _).drew
        have B6 := hid (bl_step HB5.out hdw)
        have FG6 := hid (FG.out.step hdw)
        have FC6 : Hid ((MD.mk ak d.kn ck am d.mn cm d.ln d.pr d.ac aa d.n ca).at w6.drew eb 0) := ⟨x0, x1, x2, x3, x4, x5⟩
        have HA := madd_any (HT.out.step B6.out) FG6.out (by have := HLE.out; omega)
        have HC := mchg_any (HT.out.step B6.out) FG6.out (by have := HLE.out; omega)
        have HD := mdrop_any (HT.out.step B6.out) FG6.out (by have := HLE.out; omega)
        dsimp only [MD.ev] at HA HC HD
        have HAA := hid HA
        have HCC := hid HC
        have HDD := hid HD
        clear HA HC HD hdw
        rcases Classical.em (d.doo = 0) with dc | dc
        case' inl =>
          have e0 : (d.doo == 0) = true := by simp [dc]
          clear dc
          go_wp2_with fail
          go_region_held3 (fun w' => w'.cell? ⟨eb, 0, none⟩ = some (.slice ak d.kn ck) ∧ w'.cell? ⟨eb, 1, none⟩ = some (.slice am d.mn cm) ∧ w'.cell? ⟨eb, 2, none⟩ = some (.int .i64 d.ln) ∧ w'.cell? ⟨eb, 3, none⟩ = some (.int .i64 d.pr) ∧ w'.cell? ⟨eb, 4, none⟩ = some (.int .i64 d.ac) ∧ w'.cell? ⟨eb, 5, none⟩ = some (.slice aa d.n ca) ∧ w'.cell? ⟨g, off + k * 7 + 1, none⟩ = some (.slice d.ka d.kn d.kc) ∧ w'.cell? ⟨g, off + k * 7 + 2, none⟩ = some (.slice d.ma d.mn d.mc) ∧ w'.cell? ⟨g, off + k * 7 + 3, none⟩ = some (.int .i64 d.ln) ∧ w'.cell? ⟨g, off + k * 7 + 4, none⟩ = some (.int .i64 d.pr) ∧ w'.cell? ⟨g, off + k * 7 + 5, none⟩ = some (.int .i64 d.ac) ∧ w'.cell? ⟨g, off + k * 7 + 6, none⟩ = some (.slice d.a d.n d.c))
            (first
              | go_keep
              | (go_split_ands
                 first
                 | exact keepME ⟨by assumption, by assumption, by assumption, by assumption, by assumption, by assumption, by assumption, by assumption, by assumption, by assumption, by assumption, by assumption⟩ ke8 kg8
                 | exact keepME ⟨by assumption, by assumption, by assumption, by assumption, by assumption, by assumption, by assumption, by assumption, by assumption, by assumption, by assumption, by assumption⟩ ke9 kg9))
            (first
              | (go_at_call 29; refine HAA.out.mono ?_; rintro q8 w8 ⟨rfl, t8⟩; have F8 := hid (t8); have S8 := hid (krws_beside (HT.out.step B6.out) (HR.out.step B6.out) (HAP.out.step HT.out HR.out B6.out) F8.out.fr).1; have HK := kadd_perm (f := d.md) (e := d.te) HPM.out S8.out ((HOK.out.moved (moved_below ((bl_step HPB.out B6.out).trans F8.out.bel))).good HSD.out) (by have := HLE.out; have := HPM.out.length_eq; omega); dsimp only [MD.ev, SD.md] at HK; have HKK := hid HK; clear HK; have ke8 := mnew_stay HT.out B6.out F8.out.fr heb hel; have kg8 := F8.out.bel.block g hgl)
              | (go_at_call 13; refine HKK.out.mono ?_; rintro q9 w9 ⟨rfl, E', t9, hp9⟩; have ke9 := knew_stay HR.out (head_stay HT.out HR.out HAP.out B6.out F8.out.fr) t9.fr heb (Nat.lt_of_lt_of_le hel F8.out.fr.size); have kg9 := t9.bel.block g hgl))
          all_goals
            have MID := hid (mmid_next HPB.out HT.out HR.out HAP.out B6.out FC6.out heb FG6.out FN.out F8.out t9 hp9 (addT_le HLE.out))
            clear t8 t9 hp9 F8 S8 HKK ke8 kg8 ke9 kg9 HAA HCC HDD HT HR HAP HPB B6 FC6 FG6 HPM HLE e0 x0 x1 x2 x3 x4 x5 i0 i1 i2 i3 i4 i5 i6 hel heb
            generalize addCM keys most T d.te = cc at *
            generalize w9 = wm at *
            have hcc : (cc != cc) = false := by simp

        case' inr =>
          have e1 : (d.doo == 0) = false := by simpa using dc
          clear dc
          rcases Classical.em (d.doo = 1) with dc | dc
          case' inl =>
            have e0 : (d.doo == 1) = true := by simp [dc]
            clear dc
            go_wp2_with fail
            go_region_held3 (fun w' => w'.cell? ⟨eb, 0, none⟩ = some (.slice ak d.kn ck) ∧ w'.cell? ⟨eb, 1, none⟩ = some (.slice am d.mn cm) ∧ w'.cell? ⟨eb, 2, none⟩ = some (.int .i64 d.ln) ∧ w'.cell? ⟨eb, 3, none⟩ = some (.int .i64 d.pr) ∧ w'.cell? ⟨eb, 4, none⟩ = some (.int .i64 d.ac) ∧ w'.cell? ⟨eb, 5, none⟩ = some (.slice aa d.n ca) ∧ w'.cell? ⟨g, off + k * 7 + 1, none⟩ = some (.slice d.ka d.kn d.kc) ∧ w'.cell? ⟨g, off + k * 7 + 2, none⟩ = some (.slice d.ma d.mn d.mc) ∧ w'.cell? ⟨g, off + k * 7 + 3, none⟩ = some (.int .i64 d.ln) ∧ w'.cell? ⟨g, off + k * 7 + 4, none⟩ = some (.int .i64 d.pr) ∧ w'.cell? ⟨g, off + k * 7 + 5, none⟩ = some (.int .i64 d.ac) ∧ w'.cell? ⟨g, off + k * 7 + 6, none⟩ = some (.slice d.a d.n d.c))
              (first
                | go_keep
                | (go_split_ands
                   first
                   | exact keepME ⟨by assumption, by assumption, by assumption, by assumption, by assumption, by assumption, by assumption, by assumption, by assumption, by assumption, by assumption, by assumption⟩ ke8 kg8
                   | exact keepME ⟨by assumption, by assumption, by assumption, by assumption, by assumption, by assumption, by assumption, by assumption, by assumption, by assumption, by assumption, by assumption⟩ ke9 kg9))
              (first
                | (go_at_call 30; refine HCC.out.mono ?_; rintro q8 w8 ⟨rfl, t8⟩; have F8 := hid (t8.1); have S8 := hid (krws_beside (HT.out.step B6.out) (HR.out.step B6.out) (HAP.out.step HT.out HR.out B6.out) F8.out.fr).1; have HK := kchg_perm (f := d.md) (e := d.te) HT.out.ok.srt HPM.out S8.out ((HOK.out.moved (moved_below ((bl_step HPB.out B6.out).trans F8.out.bel))).good HSD.out) (by have := HLE.out; have := HPM.out.length_eq; omega); dsimp only [MD.ev, SD.md] at HK; have HKK := hid HK; clear HK; have ke8 := mnew_stay HT.out B6.out F8.out.fr heb hel; have kg8 := F8.out.bel.block g hgl)
                | (go_at_call 15; refine HKK.out.mono ?_; rintro q9 w9 ⟨rfl, E', t9, hp9⟩; have ke9 := knew_stay HR.out (head_stay HT.out HR.out HAP.out B6.out F8.out.fr) t9.fr heb (Nat.lt_of_lt_of_le hel F8.out.fr.size); have kg9 := t9.bel.block g hgl))
            all_goals
              have MID := hid (mmid_next HPB.out HT.out HR.out HAP.out B6.out FC6.out heb FG6.out FN.out F8.out t9 hp9 (chgT_le HLE.out))
              clear t8 t9 hp9 F8 S8 HKK ke8 kg8 ke9 kg9 HAA HCC HDD HT HR HAP HPB B6 FC6 FG6 HPM HLE e0 x0 x1 x2 x3 x4 x5 i0 i1 i2 i3 i4 i5 i6 hel heb
              generalize hasCM keys T d.te = cc at *
              generalize w9 = wm at *
              have hcc : (cc != cc) = false := by simp

          case' inr =>
            have e2 : (d.doo == 1) = false := by simpa using dc
            clear dc
            rcases Classical.em (d.doo = 2) with dc | dc
            case' inl =>
              have e0 : (d.doo == 2) = true := by simp [dc]
              clear dc
              go_wp2_with fail
              go_region_held3 (fun w' => w'.cell? ⟨eb, 0, none⟩ = some (.slice ak d.kn ck) ∧ w'.cell? ⟨eb, 1, none⟩ = some (.slice am d.mn cm) ∧ w'.cell? ⟨eb, 2, none⟩ = some (.int .i64 d.ln) ∧ w'.cell? ⟨eb, 3, none⟩ = some (.int .i64 d.pr) ∧ w'.cell? ⟨eb, 4, none⟩ = some (.int .i64 d.ac) ∧ w'.cell? ⟨eb, 5, none⟩ = some (.slice aa d.n ca) ∧ w'.cell? ⟨g, off + k * 7 + 1, none⟩ = some (.slice d.ka d.kn d.kc) ∧ w'.cell? ⟨g, off + k * 7 + 2, none⟩ = some (.slice d.ma d.mn d.mc) ∧ w'.cell? ⟨g, off + k * 7 + 3, none⟩ = some (.int .i64 d.ln) ∧ w'.cell? ⟨g, off + k * 7 + 4, none⟩ = some (.int .i64 d.pr) ∧ w'.cell? ⟨g, off + k * 7 + 5, none⟩ = some (.int .i64 d.ac) ∧ w'.cell? ⟨g, off + k * 7 + 6, none⟩ = some (.slice d.a d.n d.c))
                (first
                  | go_keep
                  | (go_split_ands
                     first
                     | exact keepME ⟨by assumption, by assumption, by assumption, by assumption, by assumption, by assumption, by assumption, by assumption, by assumption, by assumption, by assumption, by assumption⟩ ke8 kg8
                     | exact keepME ⟨by assumption, by assumption, by assumption, by assumption, by assumption, by assumption, by assumption, by assumption, by assumption, by assumption, by assumption, by assumption⟩ ke9 kg9))
                (first
                  | (go_at_call 31; refine HDD.out.mono ?_; rintro q8 w8 ⟨rfl, t8⟩; have F8 := hid (t8); have S8 := hid (krws_beside (HT.out.step B6.out) (HR.out.step B6.out) (HAP.out.step HT.out HR.out B6.out) F8.out.fr).1; have HK := kdrop_perm (f := d.md) (e := d.te) HT.out.ok.srt HPM.out S8.out ((HOK.out.moved (moved_below ((bl_step HPB.out B6.out).trans F8.out.bel))).good HSD.out) (by have := HLE.out; have := HPM.out.length_eq; omega); dsimp only [MD.ev, SD.md] at HK; have HKK := hid HK; clear HK; have ke8 := mnew_stay HT.out B6.out F8.out.fr heb hel; have kg8 := F8.out.bel.block g hgl)
                  | (go_at_call 17; refine HKK.out.mono ?_; rintro q9 w9 ⟨rfl, E', t9, hp9⟩; have ke9 := knew_stay HR.out (head_stay HT.out HR.out HAP.out B6.out F8.out.fr) t9.fr heb (Nat.lt_of_lt_of_le hel F8.out.fr.size); have kg9 := t9.bel.block g hgl))
              all_goals
                have MID := hid (mmid_next HPB.out HT.out HR.out HAP.out B6.out FC6.out heb FG6.out FN.out F8.out t9 hp9 (dropT_le HLE.out))
                clear t8 t9 hp9 F8 S8 HKK ke8 kg8 ke9 kg9 HAA HCC HDD HT HR HAP HPB B6 FC6 FG6 HPM HLE e0 x0 x1 x2 x3 x4 x5 i0 i1 i2 i3 i4 i5 i6 hel heb
                generalize hasCM keys T d.te = cc at *
                generalize w9 = wm at *
                have hcc : (cc != cc) = false := by simp

            case' inr =>
              have e0 : (d.doo == 2) = false := by simpa using dc
              clear dc
              have MID : Hid (MMid w w6 p r eb keys most k (MD.mk ak d.kn ck am d.mn cm d.ln d.pr d.ac aa d.n ca) d.te) := ⟨T, E, HT.out.step HB5.out, HR.out.step HB5.out, HAP.out.step HT.out HR.out HB5.out, HPM.out, Nat.le_succ_of_le HLE.out, bl_step HPB.out HB5.out, ⟨x0, x1, x2, x3, x4, x5⟩, FG.out⟩
              have hcc : True := trivial
              clear HAA HCC HDD HT HR HAP HPB B6 FC6 FG6 HPM HLE x0 x1 x2 x3 x4 x5 i1 i2 i3 i4 i5 i6 hel heb
              go_upto_region 19 with fail
              generalize w6 = wm at *
              clear i0 e0
        all_goals
          have hMID := MID.out
          obtain ⟨T1, E1, t1, s1, ap1, pm1, ln1, bel1, c1, gd1⟩ := hMID
          have T8 := hid t1
          have R8 := hid s1
          have AP8 := hid ap1
          have PM8 := hid pm1
          have LN8 := hid ln1
          have BL8 := hid bel1
          have C8 := hid c1
          have GD8 := hid gd1
          have GK : Has .u64 wm ak d.kn d.ks := gd1.ks
          have FND := hid (mfind_any (kc := ck) t1 GK (by omega))
          have k0 : wm.cell? ⟨eb, 0, none⟩ = some (.slice ak d.kn ck) := c1.c0
          clear t1 s1 ap1 pm1 ln1 bel1 c1 gd1 GK MID SX FG FN HB5 HAT
          go_wp2_with fail
          refine FND.out.mono ?_
          rintro e wf ⟨v, rfl, hs, hbf⟩
          generalize hRf : foundM keys T1 d.ks = R at *
          have HRF := hid hRf
          have hs' := hs
          obtain ⟨fa, fn, fc, rfl, -⟩ := hs
          have hal := bl_alloc (o := HC (R.getD (0, [])).1 fa fn fc) (Below.refl wf.heap.size wf)
          have HSX := hid (hs'.moved (moved_below hal))
          have HQ := hid (new_two wf (.int .i64 (R.getD (0, [])).1) (.slice fa fn fc) 40)
          have BF := hid (bl_step hbf hal)
          have BWF := hid (bl_step BL8.out BF.out)
          obtain ⟨-, j1, -, -, -, -, -⟩ := HATW.out.moved (moved_below BWF.out)
          have RFC := hid (kfind_any (kc := d.kc) (R8.out.step BF.out) T8.out.ok PM8.out (HOK.out.moved (moved_below BWF.out)).2.1 (by have := PM8.out.length_eq; have := LN8.out; omega))
          rw [hRf] at RFC
          clear hRf hs' hal hbf k0 FND
          go_upto_region 20 with fail
          generalize wf.alloc (HC (R.getD (0, [])).1 fa fn fc) = wg at *
          generalize wf.heap.size = xb at *
          go_wp2_with fail
          refine RFC.out.mono ?_
          rintro e wh ⟨v, rfl, hs, hbh⟩
          have hs' := hs
          obtain ⟨ga, gn, gc, rfl, -⟩ := hs
          have hal := bl_alloc (o := HC (R.getD (0, [])).1 ga gn gc) (Below.refl wh.heap.size wh)
          have HSY := hid (hs'.moved (moved_below hal))
          have HQ2 := hid (new_two wh (.int .i64 (R.getD (0, [])).1) (.slice ga gn gc) 40)
          have BH := hid (bl_step hbh hal)
          have HSX2 := hid (HSX.out.moved (moved_below BH.out))
          have xbl : xb < wg.heap.size := World.block_lt_of_cell? wg _ HQ.out.1
          have q0 := (BH.out.cell (p := ⟨xb, 0, none⟩) xbl).trans HQ.out.1
          have q1 := (BH.out.cell (p := ⟨xb, 1, none⟩) xbl).trans HQ.out.2.1
          clear hs' hal hbh HSX HQ RFC HRF j1
          go_upto_region 21 with fail
          generalize wh.alloc (HC (R.getD (0, [])).1 ga gn gc) = wk at *
          generalize wh.heap.size = yb at *
          have BK := hid (bl_step BF.out BH.out)
          have TK := hid (T8.out.step BK.out)
          have RK := hid (R8.out.step BK.out)
          have AK := hid (AP8.out.step T8.out R8.out BK.out)
          have BW := hid (bl_step BL8.out BK.out)
          have GDK := hid (GD8.out.step BK.out)
          have CK := hid (C8.out.step BK.out)
          have OKK := hid ((HOK.out.moved (moved_below BW.out)).good HSD.out)
          have ATK := hid (HATW.out.moved (moved_below BW.out))
          obtain ⟨la, cap, r4, -⟩ := RK.out.lst
          rw [← PM8.out.length_eq] at r4
          have p0 := HQ2.out.1
          have p1 := HQ2.out.2.1
          have xbl2 : xb < wk.heap.size := World.block_lt_of_cell? wk _ q0
          have ybl : yb < wk.heap.size := World.block_lt_of_cell? wk _ p0
          have rbl : r < wk.heap.size := World.block_lt_of_cell? wk _ r4
          have ebl : eb < wk.heap.size := World.block_lt_of_cell? wk _ CK.out.c0
          have gbl : g < wk.heap.size := World.block_lt_of_cell? wk _ ATK.out.1
          have R4 := cell_grown (a := ⟨r, 4, none⟩) rbl r4
          have X0 := cell_grown (a := ⟨xb, 0, none⟩) xbl2 q0
          have X1 := cell_grown (a := ⟨xb, 1, none⟩) xbl2 q1
          have Y0 := cell_grown (a := ⟨yb, 0, none⟩) ybl p0
          have Y1 := cell_grown (a := ⟨yb, 1, none⟩) ybl p1
          have E0 := cell_grown (a := ⟨eb, 0, none⟩) ebl (show wk.cell? ⟨eb, 0, none⟩ = some (.slice ak d.kn ck) from CK.out.c0)
          have E1' := cell_grown (a := ⟨eb, 1, none⟩) ebl (show wk.cell? ⟨eb, 1, none⟩ = some (.slice am d.mn cm) from CK.out.c1)
          have E2 := cell_grown (a := ⟨eb, 2, none⟩) ebl (show wk.cell? ⟨eb, 2, none⟩ = some (.int .i64 d.ln) from CK.out.c2)
          have E3 := cell_grown (a := ⟨eb, 3, none⟩) ebl (show wk.cell? ⟨eb, 3, none⟩ = some (.int .i64 d.pr) from CK.out.c3)
          have E4 := cell_grown (a := ⟨eb, 4, none⟩) ebl (show wk.cell? ⟨eb, 4, none⟩ = some (.int .i64 d.ac) from CK.out.c4)
          have E5 := cell_grown (a := ⟨eb, 5, none⟩) ebl (show wk.cell? ⟨eb, 5, none⟩ = some (.slice aa d.n ca) from CK.out.c5)
          have G1 := cell_grown (a := ⟨g, off + k * 7 + 1, none⟩) gbl ATK.out.2.1
          have G2 := cell_grown (a := ⟨g, off + k * 7 + 2, none⟩) gbl ATK.out.2.2.1
          have G3 := cell_grown (a := ⟨g, off + k * 7 + 3, none⟩) gbl ATK.out.2.2.2.1
          have G4 := cell_grown (a := ⟨g, off + k * 7 + 4, none⟩) gbl ATK.out.2.2.2.2.1
          have G5 := cell_grown (a := ⟨g, off + k * 7 + 5, none⟩) gbl ATK.out.2.2.2.2.2.1
          have G6 := cell_grown (a := ⟨g, off + k * 7 + 6, none⟩) gbl ATK.out.2.2.2.2.2.2
          have HSAME := hid (fun q os => same_hit3 (HSX2.out.moved (moved_below (below_grow wk q os))) (HSY.out.moved (moved_below (below_grow wk q os))))
          have HLN := hid (fun q os => mlen_grow (TK.out.step (below_grow wk q os)))
          have HSE0 := fun q os => msame_entry (GDK.out.step (below_grow wk q os)) (OKK.out.step (below_grow wk q os)) rfl
          dsimp only [MD.ev, SD.md] at HSE0
          have HSE := hid HSE0
          generalize (R.getD (0, [])).1 = ax at *
          generalize R.isSome = bx at *
          have hbx : (bx != bx) = false := by simp
          generalize hln : (T1.length : Int) = lx at *
          have hlx : (lx != lx) = false := by simp
          clear q0 q1 p0 p1 r4 HSX2 HSY HQ2 BF BH BWF T8 R8 AP8 BL8 C8 GD8 xbl xbl2 ybl rbl ebl gbl HSE0 GDK CK OKK ATK
          refine wp_region_quiet_grown (by kernel_rfl) (by kernel_rfl) ?_
          repeat (go_big_quiet_step (first | (go_at_call 20; exact Calls.grown_of (HSAME.out _ _)) | (go_at_call 33; exact Calls.grown_of (HLN.out _ _)) | (go_at_call 34; exact Calls.grown_of (HSE.out _ _))))
          refine wpQuiet_nil ?_
          intro _ hw'
          obtain ⟨⟨nq, osq⟩, hw''⟩ := hw'
          subst hw''
          have HB2 := hid (bl_step BW.out (below_grow wk nq osq))
          have HNX : Hid (TD w p r keys most (k + 1) (Sort.grow (wk.drewN nq) osq)) := ⟨⟨T1, E1, TK.out.step (below_grow wk nq osq), RK.out.step (below_grow wk nq osq), AK.out.step TK.out RK.out (below_grow wk nq osq), PM8.out, LN8.out⟩, HB2.out⟩
          clear HSAME HLN HSE R4 X0 X1 Y0 Y1 E0 E1' E2 E3 E4 E5 G1 G2 G3 G4 G5 G6
          go_wp2
          go_roundw
          case rel => exact ⟨k + 1, by omega, by go_num, HNX.out⟩
          case measure => simp [intOf]; omega
      · have ek : k = n := by omega
        subst ek
        obtain ⟨⟨T, E, t, rw0, hap, hpm, hTl⟩, hB⟩ := hP
        have HEL := hid hpm.length_eq
        have HTL := hid hTl
        have HT := hid t
        have HR := hid rw0
        have HPM := hid hpm
        have HB := hid hB
        have HALL := hid (mall_any t (by omega))
        clear t rw0 hap hpm hB HS HSM hTl
        go_wp2_with fail
        refine HALL.out.mono ?_
        rintro e w5 ⟨a1, c1, rfl, hE1, hb1⟩
        have HE1 := hid hE1
        have B1 := hid hb1
        have KALL0 := kall_any (HR.out.step B1.out) HT.out.ok.srt HPM.out (by have := HEL.out; have := HTL.out; omega)
        rw [← HEL.out] at KALL0
        have KALL := hid KALL0
        clear hE1 hb1 HALL KALL0
        go_wp2_with fail
        refine KALL.out.mono ?_
        rintro e w6 ⟨a2, c2, rfl, hE2, hb2⟩
        have B2 := hid hb2
        have SAM := hid (msame_entries (c := c1) (d := c2) (by have := HTL.out; omega) (HE1.out.step B2.out) hE2)
        clear hE2 hb2 KALL HE1
        go_wp2_with fail
        refine SAM.out.mono ?_
        rintro e w7 ⟨rfl, hb7⟩
        have HB7 := hid (bl_step (bl_step (bl_step HB.out B1.out) B2.out) hb7)
        clear hb7 SAM
        go_wp2
        go_ret
        exact ⟨rfl, HB7.out⟩
end Go.Proofs.Ytlnkfgdepddmlac
