/- What at of the document's own table by beginnings does. -/
import Derived.Test.YtlnkfgdepddmlacROne
import Derived.Deep.RegionHeld3
namespace Go.Proofs.Ytlnkfgdepddmlac
open Go.RowKit Mth

def AtDone (w w' : World) (es : List (Nat × Nat)) (x : Nat × Nat) (e : Ending) : Prop := e = .returned (.int .i64 (whereAt es x)) ∧ Below w.heap.size w w'

theorem where_not {es : List (Nat × Nat)} {x : Nat × Nat} (h : ∀ j, j < es.length → es[j]? ≠ some x) : whereAt es x = -1 := by
  unfold whereAt
  rw [if_neg]
  intro hm
  obtain ⟨j, hj, e⟩ := List.getElem_of_mem hm
  exact h j hj (by rw [List.getElem?_eq_getElem hj, e])

theorem where_is {es : List (Nat × Nat)} {x : Nat × Nat} {i : Nat} (nd : es.Nodup) (h : es[i]? = some x) : whereAt es x = (i : Int) := by
  obtain ⟨hi, e⟩ := List.getElem?_eq_some_iff.1 h
  unfold whereAt
  rw [if_pos (by rw [← e]; exact List.getElem_mem _), ← e, nd.idxOf_getElem]

/-- thirteen cells stay -/
theorem keep13 {w w' : World} {r g o s : Nat} {la ka kb : Option Addr} {ln lc kn kc bn bc : Nat} {x1 x2 x3 x4 x5 y1 y2 y3 y4 y5 : Value}
    (h : w.cell? ⟨r, 4, none⟩ = some (.slice la ln lc) ∧ w.cell? ⟨g, o, none⟩ = some (.slice ka kn kc) ∧ w.cell? ⟨g, o + 1, none⟩ = some x1 ∧ w.cell? ⟨g, o + 2, none⟩ = some x2 ∧ w.cell? ⟨g, o + 3, none⟩ = some x3 ∧ w.cell? ⟨g, o + 4, none⟩ = some x4 ∧ w.cell? ⟨g, o + 5, none⟩ = some x5 ∧ w.cell? ⟨s, 0, none⟩ = some (.slice kb bn bc) ∧ w.cell? ⟨s, 1, none⟩ = some y1 ∧ w.cell? ⟨s, 2, none⟩ = some y2 ∧ w.cell? ⟨s, 3, none⟩ = some y3 ∧ w.cell? ⟨s, 4, none⟩ = some y4 ∧ w.cell? ⟨s, 5, none⟩ = some y5) (m : Moved w w') :
    w'.cell? ⟨r, 4, none⟩ = some (.slice la ln lc) ∧ w'.cell? ⟨g, o, none⟩ = some (.slice ka kn kc) ∧ w'.cell? ⟨g, o + 1, none⟩ = some x1 ∧ w'.cell? ⟨g, o + 2, none⟩ = some x2 ∧ w'.cell? ⟨g, o + 3, none⟩ = some x3 ∧ w'.cell? ⟨g, o + 4, none⟩ = some x4 ∧ w'.cell? ⟨g, o + 5, none⟩ = some x5 ∧ w'.cell? ⟨s, 0, none⟩ = some (.slice kb bn bc) ∧ w'.cell? ⟨s, 1, none⟩ = some y1 ∧ w'.cell? ⟨s, 2, none⟩ = some y2 ∧ w'.cell? ⟨s, 3, none⟩ = some y3 ∧ w'.cell? ⟨s, 4, none⟩ = some y4 ∧ w'.cell? ⟨s, 5, none⟩ = some y5 := by
  obtain ⟨h0, h1, h2, h3, h4, h5, h6, h7, h8, h9, h10, h11, h12⟩ := h
  have t0 := tight_slice la ln lc
  have t1 := tight_slice ka kn kc
  have t7 := tight_slice kb bn bc
  exact ⟨m.cell h0 h0 t0, m.cell h1 h1 t1, m.cell h2 h1 t1, m.cell h3 h1 t1, m.cell h4 h1 t1, m.cell h5 h1 t1, m.cell h6 h1 t1, m.cell h7 h7 t7, m.cell h8 h7 t7, m.cell h9 h7 t7, m.cell h10 h7 t7, m.cell h11 h7 t7, m.cell h12 h7 t7⟩

set_option maxHeartbeats 4000000 in
set_option maxRecDepth 20000 in
theorem at_any {w : World} {B S r : Nat} {wd most : Int} {C : Told2} {es : List (Nat × Nat)} {kg ko kc : Nat} {ln ac : Int} {aa : Option Addr} {an ca key : Nat} {xs : List Int} (t : Rws w B S r wd most C es) (nd : es.Nodup) (hl : es.length ≤ 100000) (ha : Arg w kg ko kc aa an ca key xs) (hg : Good wd key ln) :
    Calls Try.prog 41 #[.pointer (some ⟨r, 0, none⟩), AV kg ko kc ln ac aa an ca] w fun e w' => AtDone w w' es (place wd key ln) e := by
  obtain ⟨W, m, e1, e2, h1, h2, h3, h4, h5, h6, h7⟩ := hg.out
  subst e1
  subst e2
  generalize hln : (m : Int) = ln at *
  have hb0 := bl_alloc (o := AC kg ko kc ln ac aa an ca) (Below.refl w.heap.size w)
  have HT := hid (t.step hb0)
  have HA := hid (ha.step hb0)
  have SX := hid (six_new w (.slice (some ⟨kg, ko, none⟩) 1 kc) (.slice none 0 0) (.int .i64 ln) (.int .i64 0) (.int .i64 ac) (.slice aa an ca) 33)
  have B0 := hid hb0
  have HLN := hid hln
  have HPL := hid h7
  have HW := hid h6
  have HM := hid h5
  have HND := hid nd
  clear t ha hb0 hg h7 h6 h5 nd h4 hln
  go_enter Try.func41, Try.ntmps41
  go_wp2
  generalize w.alloc (AC kg ko kc ln ac aa an ca) = w0 at *
  go_loopw [5] (fun q wr => ∃ i : Nat, i ≤ es.length ∧ q = .int .i64 i ∧ Hid (Below w0.heap.size w0 wr) ∧ Hid (∀ j, j < i → es[j]? ≠ some (place (W : Int) key ln))) (fun q _ => es.length - (intOf q).toNat)
  case atStart => exact ⟨0, Nat.zero_le _, rfl, Below.refl _ _, fun j hj => absurd hj (Nat.not_lt_zero _)⟩
  case round =>
    obtain ⟨i, hi, rfl, hB, hno⟩ := hrel
    by_cases hlt : i < es.length
    · have hx : es[i]? = some (es[i]'hlt) := List.getElem?_eq_getElem _
      generalize es[i]'hlt = x at *
      obtain ⟨g, cap, ka, kc', ea, en, ec, r4, c0, c1, c2, c3, c4, c5, hk, _⟩ := (HT.out.step hB.out).entry hx
      obtain ⟨y0, y1, y2, y3, y4, y5, _, _, _, _, _, _⟩ := SX.out.step hB.out
      have HK := hid hk
      have HX := hid hx
      have HKB := hid (HA.out.step hB.out).lk.2.2.1
      have RH := hid (HT.out.step hB.out).hd
      have hii : (i : Int) < (es.length : Int) := by omega
      clear hk hx
      have HONE := hid (one_any (la := (x.1 : Int)) (lb := ln) (aa := ea) (na := en) (da := ec) (ca := kc') (ra := ((C x.1 x.2).getD (0, [])).1) (ab := aa) (nb := an) (db := ca) (cb := kc) (rb := ac) (RH.out.step (Below.refl wr.heap.size wr).drew) HK.out.drew HKB.out.drew)
      have hsame : decide ((x.1 : Int) = ln ∧ (((x.2 * 2 ^ (wid (W : Int) - x.1) : Nat) : Int)) = (key : Int)) = decide (x = place (W : Int) key ln) := by
        rw [HW.out, HPL.out, ← HLN.out]
        obtain ⟨x1, x2⟩ := x
        exact decide_eq_decide.2 (same_place HM.out)
      rw [hsame] at HONE
      go_wp2_with fail
      go_region_held3 (fun w' => w'.cell? ⟨r, 4, none⟩ = some (.slice (some ⟨g, 0, none⟩) es.length cap) ∧ w'.cell? ⟨g, i * 6, none⟩ = some (.slice ka 1 kc') ∧ w'.cell? ⟨g, i * 6 + 1, none⟩ = some (.slice none 0 0) ∧ w'.cell? ⟨g, i * 6 + 2, none⟩ = some (.int .i64 (x.1 : Int)) ∧ w'.cell? ⟨g, i * 6 + 3, none⟩ = some (.int .i64 0) ∧ w'.cell? ⟨g, i * 6 + 4, none⟩ = some (.int .i64 ((C x.1 x.2).getD (0, [])).1) ∧ w'.cell? ⟨g, i * 6 + 5, none⟩ = some (.slice ea en ec) ∧ w'.cell? ⟨w.heap.size, 0, none⟩ = some (.slice (some ⟨kg, ko, none⟩) 1 kc) ∧ w'.cell? ⟨w.heap.size, 1, none⟩ = some (.slice none 0 0) ∧ w'.cell? ⟨w.heap.size, 2, none⟩ = some (.int .i64 ln) ∧ w'.cell? ⟨w.heap.size, 3, none⟩ = some (.int .i64 0) ∧ w'.cell? ⟨w.heap.size, 4, none⟩ = some (.int .i64 ac) ∧ w'.cell? ⟨w.heap.size, 5, none⟩ = some (.slice aa an ca))
        (first
          | go_keep
          | (go_split_ands
             exact keep13 ⟨by assumption, by assumption, by assumption, by assumption, by assumption, by assumption, by assumption, by assumption, by assumption, by assumption, by assumption, by assumption, by assumption⟩ (moved_below hb1)))
        (first
          | (go_at_call 65; refine HONE.out.mono ?_; rintro e w1 ⟨rfl, hb1⟩))
      all_goals
        have HB2 := hid (bl_step (bl_step hB.out (Below.refl wr.heap.size wr).drew) hb1)
        clear hb1 HONE HK HKB RH hsame
        by_cases hxp : x = place (W : Int) key ln
        · have HE : Hid (AtDone w w1 es (place (W : Int) key ln) (.returned (.int .i64 i))) := ⟨by rw [where_is HND.out (by rw [← hxp]; exact HX.out)], bl_step B0.out HB2.out⟩
          rw [decide_eq_true hxp]
          clear HX hxp HB2
          go_wp2
          go_ret
          exact HE.out
        · rw [decide_eq_false hxp]
          have HN : Hid (∀ j, j < i + 1 → es[j]? ≠ some (place (W : Int) key ln)) := by
            intro j hj e
            by_cases ej : j = i
            · subst ej; rw [HX.out] at e; exact hxp (Option.some.inj e)
            · exact hno.out j (by omega) e
          clear HX hxp
          go_wp2
          go_roundw
          case rel => exact ⟨i + 1, by omega, by go_num, HB2.out, HN.out⟩
          case measure => simp [intOf]; omega
    · have ei : i = es.length := by omega
      subst ei
      have HE : Hid (AtDone w wr es (place (W : Int) key ln) (.returned (.int .i64 (-1)))) := ⟨by rw [where_not hno.out], bl_step B0.out hB.out⟩
      obtain ⟨la, cap, r4, _⟩ := (HT.out.step hB.out).lst
      clear HT HA SX B0 HPL HW HM HND hno
      go_wp2
      go_ret
      exact HE.out
end Go.Proofs.Ytlnkfgdepddmlac
