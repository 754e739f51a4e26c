/- PrefixDoes answers true. -/
import Derived.Test.YtlnkfgdepddmlacTLong
import Derived.Test.YtlnkfgdepddmlacRAll
import Derived.Test.YtlnkfgdepddmlacRAdd2
import Derived.Test.YtlnkfgdepddmlacLSame2
namespace Go.Proofs.Ytlnkfgdepddmlac
open Go.RowKit Mth

set_option maxHeartbeats 400000 in
set_option maxRecDepth 20000 in
theorem same_hit2 {w : World} {u v : Value} {h : HitM} (su : Says w u h) (sv : Says w v h) :
    Calls Try.prog 20 #[u, v] w fun e w' => GrowIs w w' true e := by
  obtain ⟨a, n, c, rfl, _, hs, hu⟩ := su
  obtain ⟨b, m, d, rfl, _, _, hv⟩ := sv
  have e : m = n := by rw [← hu.1, ← hv.1]
  subst e
  have hx : (h.1 == h.1) = true := by simp
  have HU := hid hu
  have HV := hid hv
  clear hu hv
  go_enter Try.func20, Try.ntmps20
  go_wp2_with (go_at_call 48; refine (same_nums _ _ hs HU.out.alloc.alloc HV.out.alloc.alloc).mono ?_; rintro e w1 ⟨rfl, s1, rfl⟩)
  go_ret
  exact ⟨rfl, s1, _, grow_two _ _ _ _⟩

theorem len_grow {w : World} {B p : Nat} {wd most : Int} {C : Told2} {es : List (Nat × Nat)} (t : Tab w B p wd most C es) :
    Calls Try.prog 21 #[.pointer (some ⟨p, 0, none⟩)] w fun e w' => e = .returned (.int .i64 es.length) ∧ ∃ q os, w' = Sort.grow (w.drewN q) os :=
  (len_any t).mono fun _ _ ⟨he, hw⟩ => ⟨he, 0, #[], by rw [hw, Sort.grow_empty]; rfl⟩

/-- both tables hold the same -/
def PD (w : World) (p r : Nat) (wd most : Int) (k : Nat) (wr : World) : Prop := (∃ C es, Tab wr w.heap.size p wd most C es ∧ Rws wr w.heap.size wr.heap.size r wd most C es ∧ es.length ≤ k) ∧ Below w.heap.size w wr

abbrev RC (wd most : Int) : Obj := .cells #[.int .i64 2, .int .i64 1, .int .i64 wd, .int .i64 most, .slice none 0 0] 30

theorem rows_begun (w : World) (B : Nat) (hB : B ≤ w.heap.size) (wd most : Int) : Rws (w.alloc (RC wd most)) B (w.alloc (RC wd most)).heap.size w.heap.size wd most (fun _ _ => none) [] := by
  refine ⟨⟨by simp, by simp, by simp, by simp⟩, by simp, hB, by simp, none, 0, by simp, ⟨[], rfl, rfl, World.ownsRow_nil _ _ _ _, fun _ => rfl, by simp⟩, fun g e => by cases e⟩

/-- in the midst of a round -/
structure Mid (w w8 : World) (p r eb : Nat) (wd most : Int) (C : Told2) (es : List (Nat × Nat)) (k kg ko kc : Nat) (key : Nat) : Prop where
  t : Tab w8 w.heap.size p wd most C es
  r : Rws w8 w.heap.size w8.heap.size r wd most C es
  len : es.length ≤ k + 1
  bel : Below w.heap.size w w8
  k0 : w8.cell? ⟨eb, 0, none⟩ = some (.slice (some ⟨kg, ko, none⟩) 1 kc)
  kk : w8.cell? ⟨kg, ko, none⟩ = some (.int .u64 (key : Int))

theorem addE_le2 {C : Told2} {es : List (Nat × Nat)} {wd most : Int} {key : Nat} {n : Int} {k : Nat} (h : es.length ≤ k) : (addE C es wd most key n).length ≤ k + 1 := by
  unfold addE
  split
  · rw [List.length_append, List.length_singleton]; omega
  · omega

theorem dropE_le2 {C : Told2} {es : List (Nat × Nat)} {wd : Int} {key : Nat} {n : Int} {k : Nat} (h : es.length ≤ k) : (dropE C es wd key n).length ≤ k + 1 := by
  unfold dropE
  split
  · have := List.length_erase_le (a := place wd key n) (l := es); omega
  · omega

/-- an entry and its key stay while the document's table is turned -/
theorem keep7o {w w' : World} {S s g o : Nat} {x0 x1 x2 x3 x4 x5 : Value} {k : Int} (h : w.cell? ⟨s, 0, none⟩ = some x0 ∧ w.cell? ⟨s, 1, none⟩ = some x1 ∧ w.cell? ⟨s, 2, none⟩ = some x2 ∧ w.cell? ⟨s, 3, none⟩ = some x3 ∧ w.cell? ⟨s, 4, none⟩ = some x4 ∧ w.cell? ⟨s, 5, none⟩ = some x5 ∧ w.cell? ⟨g, o, none⟩ = some (.int .u64 k)) (hs : S ≤ s) (hg : S ≤ g) (m : ∀ k, S ≤ k → k < w.heap.size → w'.heap[k]? = w.heap[k]?) :
    w'.cell? ⟨s, 0, none⟩ = some x0 ∧ w'.cell? ⟨s, 1, none⟩ = some x1 ∧ w'.cell? ⟨s, 2, none⟩ = some x2 ∧ w'.cell? ⟨s, 3, none⟩ = some x3 ∧ w'.cell? ⟨s, 4, none⟩ = some x4 ∧ w'.cell? ⟨s, 5, none⟩ = some x5 ∧ w'.cell? ⟨g, o, none⟩ = some (.int .u64 k) := by
  obtain ⟨h0, h1, h2, h3, h4, h5, h6⟩ := h
  have e1 := m s hs (World.block_lt_of_cell? w _ h0)
  have e2 := m g hg (World.block_lt_of_cell? w _ h6)
  have cs : ∀ i, w'.cell? ⟨s, i, none⟩ = w.cell? ⟨s, i, none⟩ := fun i => World.cell?_of_block (w := w) (w' := w') (a := ⟨s, i, none⟩) e1
  exact ⟨(cs 0).trans h0, (cs 1).trans h1, (cs 2).trans h2, (cs 3).trans h3, (cs 4).trans h4, (cs 5).trans h5, (World.cell?_of_block (w := w) (w' := w') (a := ⟨g, o, none⟩) e2).trans h6⟩

theorem lst_base {w : World} {B b off n c : Nat} {zs : List Int} (h : Lst w B (some ⟨b, off, none⟩) n c zs) (hn : 0 < n) : B ≤ b := by
  obtain ⟨b', off', e, hb, _⟩ := h.2.2.2 hn
  simp only [Option.some.injEq, Addr.mk.injEq] at e
  omega

theorem lst_arg {w : World} {B kg ko kc : Nat} {aa : Option Addr} {an ca key : Nat} {xs : List Int} (lk : Lst w B (some ⟨kg, ko, none⟩) 1 kc [(key : Int)]) (la : Lst w B aa an ca xs) (hs : an ≤ 20) (hk : key < 18446744073709551616) : Arg w kg ko kc aa an ca key xs := ⟨lk.mono (Nat.zero_le _), la.mono (Nat.zero_le _), hs, hk⟩

theorem mid_next {w wr w6 w7 w8 w9 : World} {p r eb : Nat} {wd most : Int} {C : Told2} {es : List (Nat × Nat)} {k kg ko kc key : Nat} (h0 : Below w.heap.size w wr) (h5 : Below wr.heap.size wr w6) (h7 : Below w6.heap.size w6 w7) (t8 : TabTo w7 w8 w.heap.size p wd most C es) (t9 : RowsTo w8 w9 w.heap.size wr.heap.size r wd most C es) (hl : es.length ≤ k + 1)
    (x0 : w6.cell? ⟨eb, 0, none⟩ = some (.slice (some ⟨kg, ko, none⟩) 1 kc)) (kk : w6.cell? ⟨kg, ko, none⟩ = some (.int .u64 (key : Int))) (heb : wr.heap.size ≤ eb) (hkg : wr.heap.size ≤ kg) : Mid w w9 p r eb wd most C es k kg ko kc key := by
  have x7 := (moved_below h7).cell x0 x0 (tight_slice _ _ _)
  have k7 := (moved_below h7).cell kk kk (tight_u64 _)
  have x8 := t8.mov.cell x7 x7 (tight_slice _ _ _)
  have k8 := t8.mov.cell k7 k7 (tight_u64 _)
  refine ⟨t8.t.turned t9.trn, t9.t, hl, ((bl_step (bl_step h0 h5) h7).trans t8.bel).trans t9.bel, ?_, ?_⟩
  · exact (World.cell?_of_block (w := w8) (w' := w9) (a := ⟨eb, 0, none⟩) (t9.old eb heb (World.block_lt_of_cell? w8 _ x8))).trans x8
  · exact (World.cell?_of_block (w := w8) (w' := w9) (a := ⟨kg, ko, none⟩) (t9.old kg hkg (World.block_lt_of_cell? w8 _ k8))).trans k8

set_option maxHeartbeats 8000000 in
set_option maxRecDepth 40000 in
theorem does_main (wd most : Int) (a : Option Addr) (n c : Nat) (S : List SD) (w : World) (h : Steps w a n S) :
    Calls Try.prog 3 #[.int .i64 wd, .int .i64 most, .slice a n c] w fun e w' => e = .returned (.bool true) ∧ Below w.heap.size w w' := by
  have HS := hid h
  clear h
  go_enter Try.func3, Try.ntmps3
  go_wp2_with fail
  refine (prefix_begun _).mono ?_
  rintro e w1 ⟨rfl, hb1⟩
  have HB1 := hid hb1
  clear hb1
  go_wp2_with fail
  refine (great_any (HS.out.step HB1.out)).mono ?_
  rintro e w2 ⟨ht, rfl⟩
  rcases ht with rfl | ⟨rfl, hn, hsm⟩
  · clear HS
    go_wp2
    go_ret
    exact ⟨rfl, HB1.out⟩
  · have HSM := hid hsm
    clear hsm
    go_wp2_with fail
    refine (new_any wd most _ w.heap.size HB1.out.size).mono ?_
    rintro e w3 ⟨rfl, t3, hb3⟩
    have P0 : PD w w2.heap.size w3.heap.size wd most 0 (w3.alloc (RC wd most)) := ⟨⟨_, _, t3.step (bl_alloc (Below.refl _ _)), rows_begun w3 w.heap.size (bl_step HB1.out hb3).size wd most, by simp⟩, bl_alloc (bl_step HB1.out hb3)⟩
    generalize w2.heap.size = p at *
    clear t3 hb3 HB1
    go_wp2_with fail
    generalize w3.alloc (RC wd most) = w4 at *
    generalize w3.heap.size = r at *
    go_loopw [9] (fun q wr => ∃ k : Nat, k ≤ n ∧ q = .int .i64 k ∧ PD w p r wd most k wr) (fun q _ => n - (intOf q).toNat)
    case atStart => exact ⟨0, Nat.zero_le _, rfl, P0⟩
    case round =>
      obtain ⟨k, hk, rfl, hP⟩ := hrel
      clear P0
      by_cases hlt : k < n
      · have hd : S[k]? = some (S[k]'(by have := HS.out.1; omega)) := List.getElem?_eq_getElem _
        have hsd := HSM.out _ (List.getElem_mem (l := S) (n := k) (by have := HS.out.1; omega))
        obtain ⟨g, off, rfl, hat, hok⟩ := (HS.out.step hP.2).2 k _ hd
        clear hd
        generalize S[k]'(by have := HS.out.1; omega) = d at *
        have HPB := hid hP.2
        obtain ⟨⟨C, es, t, rw0, hes⟩, -⟩ := hP
        have HT := hid t
        have HR := hid rw0
        have HOK := hid hok
        have HSD := hid hsd
        have HAT := hid hat
        obtain ⟨h0, h1, h2, h3, h4, h5, h6⟩ := hat
        clear t hok hsd rw0
        have hki : (k : Int) < (n : Int) := by omega
        go_wp2_with fail
        refine (oneKey_any HOK.out.1 HOK.out.2.1 (by have := HSD.out.1; omega) HOK.out.2.2.1 HOK.out.2.2.2.1 (by have := HSD.out.2.1; omega) HOK.out.2.2.2.2.1 HOK.out.2.2.2.2.2 (by have := HSD.out.2.2; omega)).mono ?_
        rintro e w5 ⟨kg, ko, kc, aa, ca, rfl, lk, la, hb4⟩
        have hal : Below w5.heap.size w5 (w5.alloc (EC (some ⟨kg, ko, none⟩) 1 kc none 0 0 d.ln 0 d.ac aa d.n ca)) := bl_alloc (Below.refl _ _)
        have hb5 := bl_step hb4 hal
        have hkl := fst_lt lk
        have heb : wr.heap.size ≤ w5.heap.size := hb4.size
        have hkg : wr.heap.size ≤ kg := lst_base lk (by omega)
        have LA := hid (la.step hal)
        have ARG := hid (lst_arg (lk.step hal) (la.step hal) HSD.out.2.2 hkl)
        have kk := lst_cell (lk.step hal)
        have HB5 := hid hb5
        have SX := hid (six_new w5 (.slice (some ⟨kg, ko, none⟩) 1 kc) (.slice none 0 0) (.int .i64 d.ln) (.int .i64 0) (.int .i64 d.ac) (.slice aa d.n ca) 33)
        obtain ⟨i0, -, -, -, -, -, -⟩ := HAT.out.moved (moved_below hb5)
        clear h0 h1 h2 h3 h4 h5 h6 lk la hb4 hal hb5
        go_upto_region 12 with fail
        generalize w5.alloc (EC (some ⟨kg, ko, none⟩) 1 kc none 0 0 d.ln 0 d.ac aa d.n ca) = w6 at *
        generalize w5.heap.size = eb at *
        obtain ⟨x0, x1, x2, x3, x4, x5, -, -, -, -, -, -⟩ := SX.out
        rcases Classical.em (d.doo = 0) with dc | dc
        case' inl =>
          have e0 : (d.doo == 0) = true := by simp [dc]
          clear dc
          go_wp2_with fail
          go_region_held3 (fun w' => w'.cell? ⟨eb, 0, none⟩ = some (.slice (some ⟨kg, ko, none⟩) 1 kc) ∧ w'.cell? ⟨eb, 1, none⟩ = some (.slice none 0 0) ∧ w'.cell? ⟨eb, 2, none⟩ = some (.int .i64 d.ln) ∧ w'.cell? ⟨eb, 3, none⟩ = some (.int .i64 0) ∧ w'.cell? ⟨eb, 4, none⟩ = some (.int .i64 d.ac) ∧ w'.cell? ⟨eb, 5, none⟩ = some (.slice aa d.n ca) ∧ w'.cell? ⟨kg, ko, none⟩ = some (.int .u64 (fst d.ks)))
            (first
              | go_keep
              | (go_split_ands
                 first
                 | exact keep7 ⟨by assumption, by assumption, by assumption, by assumption, by assumption, by assumption, by assumption⟩ (moved_below hb7)
                 | exact keep7 ⟨by assumption, by assumption, by assumption, by assumption, by assumption, by assumption, by assumption⟩ t8.mov
                 | exact keep7o ⟨by assumption, by assumption, by assumption, by assumption, by assumption, by assumption, by assumption⟩ heb hkg t9.old))
            (first
              | (go_at_call 12; refine (hitOf_any _ _ _ _ _ _ _ _ _ _ _ _ _).mono ?_; rintro e w7 ⟨rfl, hb7⟩; have HB7 := hid (bl_step (bl_step HB5.out (Below.refl w6.heap.size w6).drew) hb7); have AR7 := hid ((ARG.out.step (Below.refl w6.heap.size w6).drew).step hb7))
              | (go_at_call 11; refine (add_any (HT.out.step HB7.out) hkl (lst_says ((LA.out.step (Below.refl w6.heap.size w6).drew).step hb7) HSD.out.2.2) (by omega)).mono ?_; rintro e w8 ⟨rfl, t8⟩)
              | (go_at_call 13; refine (radd_any ((HR.out.step HB7.out).moved t8.mov) HT.out.nd HT.out.mem (by omega) (AR7.out.moved t8.mov)).mono ?_; rintro e w9 ⟨rfl, t9⟩))
          all_goals
            have MID := hid (mid_next HPB.out HB5.out (bl_step (Below.refl w6.heap.size w6).drew hb7) t8 t9 (addE_le2 hes) x0 kk heb hkg)
            clear t8 t9 hb7 HB7 AR7 HT HR HOK HAT LA ARG HPB HB5 SX heb hkg x0 x1 x2 x3 x4 x5 kk i0 e0
            generalize addCode C es wd most (fst d.ks) d.ln = cc at *
            generalize addC C es wd most (fst d.ks) d.ln (d.ac, d.xs) = C1 at *
            generalize addE C es wd most (fst d.ks) d.ln = es1 at *
            generalize w9 = wm at *
            have hcc : (cc != cc) = false := by simp

        case' inr =>
          have e1 : (d.doo == 0) = false := by simpa using dc
          clear dc
          rcases Classical.em (d.doo = 1) with dc | dc
          case' inl =>
            have e0 : (d.doo == 1) = true := by simp [dc]
            clear dc
            go_wp2_with fail
            go_region_held3 (fun w' => w'.cell? ⟨eb, 0, none⟩ = some (.slice (some ⟨kg, ko, none⟩) 1 kc) ∧ w'.cell? ⟨eb, 1, none⟩ = some (.slice none 0 0) ∧ w'.cell? ⟨eb, 2, none⟩ = some (.int .i64 d.ln) ∧ w'.cell? ⟨eb, 3, none⟩ = some (.int .i64 0) ∧ w'.cell? ⟨eb, 4, none⟩ = some (.int .i64 d.ac) ∧ w'.cell? ⟨eb, 5, none⟩ = some (.slice aa d.n ca) ∧ w'.cell? ⟨kg, ko, none⟩ = some (.int .u64 (fst d.ks)))
              (first
                | go_keep
                | (go_split_ands
                   first
                   | exact keep7 ⟨by assumption, by assumption, by assumption, by assumption, by assumption, by assumption, by assumption⟩ (moved_below hb7)
                   | exact keep7 ⟨by assumption, by assumption, by assumption, by assumption, by assumption, by assumption, by assumption⟩ t8.mov
                   | exact keep7o ⟨by assumption, by assumption, by assumption, by assumption, by assumption, by assumption, by assumption⟩ heb hkg t9.old))
              (first
                | (go_at_call 12; refine (hitOf_any _ _ _ _ _ _ _ _ _ _ _ _ _).mono ?_; rintro e w7 ⟨rfl, hb7⟩; have HB7 := hid (bl_step (bl_step HB5.out (Below.refl w6.heap.size w6).drew) hb7); have AR7 := hid ((ARG.out.step (Below.refl w6.heap.size w6).drew).step hb7))
                | (go_at_call 14; refine (chg_any (HT.out.step HB7.out) hkl (lst_says ((LA.out.step (Below.refl w6.heap.size w6).drew).step hb7) HSD.out.2.2)).mono ?_; rintro e w8 ⟨rfl, t8⟩)
                | (go_at_call 15; refine (rchg_any ((HR.out.step HB7.out).moved t8.mov) HT.out.nd HT.out.mem (by omega) (AR7.out.moved t8.mov)).mono ?_; rintro e w9 ⟨rfl, t9⟩))
            all_goals
              have MID := hid (mid_next HPB.out HB5.out (bl_step (Below.refl w6.heap.size w6).drew hb7) t8 t9 (Nat.le_succ_of_le hes) x0 kk heb hkg)
              clear t8 t9 hb7 HB7 AR7 HT HR HOK HAT LA ARG HPB HB5 SX heb hkg x0 x1 x2 x3 x4 x5 kk i0 e0
              generalize hasCode C wd (fst d.ks) d.ln = cc at *
              generalize chgC C wd (fst d.ks) d.ln (d.ac, d.xs) = C1 at *
              generalize es = es1 at *
              generalize w9 = wm at *
              have hcc : (cc != cc) = false := by simp

          case' inr =>
            have e2 : (d.doo == 1) = false := by simpa using dc
            clear dc
            rcases Classical.em (d.doo = 2) with dc | dc
            case' inl =>
              have e0 : (d.doo == 2) = true := by simp [dc]
              clear dc
              go_wp2_with fail
              go_region_held3 (fun w' => w'.cell? ⟨eb, 0, none⟩ = some (.slice (some ⟨kg, ko, none⟩) 1 kc) ∧ w'.cell? ⟨eb, 1, none⟩ = some (.slice none 0 0) ∧ w'.cell? ⟨eb, 2, none⟩ = some (.int .i64 d.ln) ∧ w'.cell? ⟨eb, 3, none⟩ = some (.int .i64 0) ∧ w'.cell? ⟨eb, 4, none⟩ = some (.int .i64 d.ac) ∧ w'.cell? ⟨eb, 5, none⟩ = some (.slice aa d.n ca) ∧ w'.cell? ⟨kg, ko, none⟩ = some (.int .u64 (fst d.ks)))
                (first
                  | go_keep
                  | (go_split_ands
                     first
                     | exact keep7 ⟨by assumption, by assumption, by assumption, by assumption, by assumption, by assumption, by assumption⟩ t8.mov
                     | exact keep7o ⟨by assumption, by assumption, by assumption, by assumption, by assumption, by assumption, by assumption⟩ heb hkg t9.old))
                (first
                  | (go_at_call 16; refine (drop_any (key := fst d.ks) (n := d.ln) ((HT.out.step HB5.out).step (Below.refl w6.heap.size w6).drew) hkl (by omega)).mono ?_; rintro e w8 ⟨rfl, t8⟩)
                  | (go_at_call 17; refine (rdrop_any (((HR.out.step HB5.out).step (Below.refl w6.heap.size w6).drew).moved t8.mov) HT.out.nd HT.out.mem (by omega) ((ARG.out.step (Below.refl w6.heap.size w6).drew).moved t8.mov)).mono ?_; rintro e w9 ⟨rfl, t9⟩))
              all_goals
                have MID := hid (mid_next HPB.out HB5.out ((Below.refl w6.heap.size w6).drew) t8 t9 (dropE_le2 hes) x0 kk heb hkg)
                clear t8 t9 HT HR HOK HAT LA ARG HPB HB5 SX heb hkg x0 x1 x2 x3 x4 x5 kk i0 e0
                generalize hasCode C wd (fst d.ks) d.ln = cc at *
                generalize dropC C wd (fst d.ks) d.ln = C1 at *
                generalize dropE C es wd (fst d.ks) d.ln = es1 at *
                generalize w9 = wm at *
                have hcc : (cc != cc) = false := by simp

            case' inr =>
              have e0 : (d.doo == 2) = false := by simpa using dc
              clear dc
              have MID : Hid (Mid w w6 p r eb wd most C es k kg ko kc (fst d.ks)) := ⟨HT.out.step HB5.out, (HR.out.step HB5.out).up, Nat.le_succ_of_le hes, bl_step HPB.out HB5.out, x0, kk⟩
              clear HT HR HOK HAT LA ARG HPB HB5 SX heb hkg x1 x2 x3 x4 x5
              generalize es = es1 at *
              generalize C = C1 at *
              have hcc : True := trivial
              go_upto_region 19 with fail
              generalize w6 = wm at *
              clear x0 kk i0 e0
        all_goals
          have T8 := hid MID.out.t
          have k0 := MID.out.k0
          have kk := MID.out.kk
          clear k0 kk
          have k0 := MID.out.k0
          have kk := MID.out.kk
          go_wp2_with fail
          refine (find_any (key := fst d.ks) T8.out hkl).mono ?_
          rintro e wf ⟨v, rfl, hs, hbf⟩
          generalize hRf : foundIn C1 wd (fst d.ks) = R at *
          have HRF := hid hRf
          have hs' := hs
          obtain ⟨fa, fn, fc, rfl, -⟩ := hs
          have hal := bl_alloc (o := HC (R.getD ((0, []), 0)).1.1 fa fn fc) (Below.refl wf.heap.size wf)
          have HSX := hid (hs'.moved (moved_below hal))
          have HQ := hid (new_two wf (.int .i64 (R.getD ((0, []), 0)).1.1) (.slice fa fn fc) 40)
          have BF := hid (bl_step hbf hal)
          have ebl : eb < wm.heap.size := World.block_lt_of_cell? wm _ k0
          have kbl : kg < wm.heap.size := World.block_lt_of_cell? wm _ kk
          have k0f := (BF.out.cell (p := ⟨eb, 0, none⟩) ebl).trans k0
          have kkf := (BF.out.cell (p := ⟨kg, ko, none⟩) kbl).trans kk
          have RFC := hid (rfind_any (kc := kc) (MID.out.r.step BF.out) T8.out.mem (fun n v h => (T8.out.rng n v h).1) (by have := MID.out.len; omega) kkf)
          rw [hRf] at RFC
          clear hRf hs' hal hbf k0 kk ebl kbl
          go_upto_region 20 with fail
          generalize wf.alloc (HC (R.getD ((0, []), 0)).1.1 fa fn fc) = wg at *
          generalize wf.heap.size = xb at *
          go_wp2_with fail
          refine RFC.out.mono ?_
          rintro e wh ⟨v, rfl, hs, hbh⟩
          have hs' := hs
          obtain ⟨ga, gn, gc, rfl, -⟩ := hs
          have hal := bl_alloc (o := HC (R.getD ((0, []), 0)).1.1 ga gn gc) (Below.refl wh.heap.size wh)
          have HSY := hid (hs'.moved (moved_below hal))
          have HQ2 := hid (new_two wh (.int .i64 (R.getD ((0, []), 0)).1.1) (.slice ga gn gc) 40)
          have BH := hid (bl_step hbh hal)
          have HSX2 := hid (HSX.out.moved (moved_below BH.out))
          have xbl : xb < wg.heap.size := World.block_lt_of_cell? wg _ HQ.out.1
          have q0 := (BH.out.cell (p := ⟨xb, 0, none⟩) xbl).trans HQ.out.1
          have q1 := (BH.out.cell (p := ⟨xb, 1, none⟩) xbl).trans HQ.out.2.1
          clear hs' hal hbh HSX HQ RFC k0f kkf HRF
          go_upto_region 21 with fail
          generalize wh.alloc (HC (R.getD ((0, []), 0)).1.1 ga gn gc) = wk at *
          generalize wh.heap.size = yb at *
          have BK := hid (bl_step BF.out BH.out)
          have TK := hid (T8.out.step BK.out)
          have RK := hid (MID.out.r.step BK.out)
          have BW := hid (bl_step MID.out.bel BK.out)
          have HLEN := hid MID.out.len
          obtain ⟨la, cap, r4, -, -⟩ := RK.out.lst
          have p0 := HQ2.out.1
          have p1 := HQ2.out.2.1
          have xbl2 : xb < wk.heap.size := World.block_lt_of_cell? wk _ q0
          have ybl : yb < wk.heap.size := World.block_lt_of_cell? wk _ p0
          have rbl : r < wk.heap.size := World.block_lt_of_cell? wk _ r4
          have R4 := cell_grown (a := ⟨r, 4, none⟩) rbl r4
          have X0 := cell_grown (a := ⟨xb, 0, none⟩) xbl2 q0
          have X1 := cell_grown (a := ⟨xb, 1, none⟩) xbl2 q1
          have Y0 := cell_grown (a := ⟨yb, 0, none⟩) ybl p0
          have Y1 := cell_grown (a := ⟨yb, 1, none⟩) ybl p1
          have HSAME := hid (fun q os => same_hit2 (HSX2.out.moved (moved_below (grow_below wk q os))) (HSY.out.moved (moved_below (grow_below wk q os))))
          have HLN := hid (fun q os => len_grow (TK.out.step (grow_below wk q os)))
          generalize (R.getD ((0, []), 0)).1.1 = ax at *
          generalize ((R.getD ((0, []), 0)).2 : Int) = nx at *
          generalize R.isSome = bx at *
          have hbx : (bx != bx) = false := by simp
          have hnx : (nx != nx) = false := by simp
          generalize hln : (es1.length : Int) = lx at *
          have hlx : (lx != lx) = false := by simp
          clear q0 q1 p0 p1 r4 HSX2 HSY HQ2 BF BH MID T8 xbl xbl2 ybl rbl
          refine wp_region_quiet_grown (by kernel_rfl) (by kernel_rfl) ?_
          repeat (go_big_quiet_step (first | (go_at_call 20; exact Calls.grown_of (HSAME.out _ _)) | (go_at_call 21; exact Calls.grown_of (HLN.out _ _))))
          refine wpQuiet_nil ?_
          intro _ hw'
          obtain ⟨⟨nq, osq⟩, hw''⟩ := hw'
          subst hw''
          have HB2 := hid (bl_step BW.out (grow_below wk nq osq))
          have HNX : Hid (PD w p r wd most (k + 1) (Sort.grow (wk.drewN nq) osq)) := ⟨⟨C1, es1, TK.out.step (grow_below wk nq osq), (RK.out.step (grow_below wk nq osq)).up, HLEN.out⟩, HB2.out⟩
          clear HSAME HLN R4 X0 X1 Y0 Y1
          go_wp2
          go_roundw
          case rel => exact ⟨k + 1, by omega, by go_num, HNX.out⟩
          case measure => simp [intOf]; omega
      · have ek : k = n := by omega
        subst ek
        obtain ⟨⟨C, es, t, rw0, hes⟩, hB⟩ := hP
        have HT := hid t
        have HR := hid rw0
        have HB := hid hB
        clear t rw0 hB HS HSM
        go_wp2_with fail
        refine (all_any HT.out (by omega)).mono ?_
        rintro e w5 ⟨a1, c1, rfl, hE1, hb1⟩
        have HE1 := hid hE1
        have B1 := hid hb1
        clear hE1 hb1
        go_wp2_with fail
        refine (rall_any (HR.out.step B1.out) HT.out.perm (by omega)).mono ?_
        rintro e w6 ⟨a2, c2, rfl, hE2, hb2⟩
        have HE2 := hid hE2
        have B2 := hid hb2
        clear hE2 hb2
        go_wp2_with fail
        refine (same_entries (by omega) (HE1.out.moved (moved_below B2.out)) HE2.out).mono ?_
        rintro e w7 ⟨rfl, hb7⟩
        have HB7 := hid (bl_step (bl_step (bl_step HB.out B1.out) B2.out) hb7)
        clear hb7
        go_wp2
        go_ret
        exact ⟨rfl, HB7.out⟩
end Go.Proofs.Ytlnkfgdepddmlac
