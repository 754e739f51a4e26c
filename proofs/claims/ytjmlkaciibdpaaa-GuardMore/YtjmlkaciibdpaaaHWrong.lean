/- guard's visit: wrong. -/
import Derived.Test.YtjmlkaciibdpaaaHVis2
import Derived.Test.YtjmlkaciibdpaaaHVis3
namespace Go.Proofs.Ytjmlkaciibdpaaa
open Go.RowKit

/-- it tells a number, and nothing old has turned -/
def TellI (n : Int) (w : World) (e : Ending) (w' : World) : Prop := e = .returned (.int .i64 n) ∧ Below w.heap.size w w'

set_option maxHeartbeats 4000000 in
set_option maxRecDepth 20000 in
theorem hwrong {w : World} {vb wk : Nat} {d : ProgD} {x : InsD} {s : SD} {m i : Nat} (h : VisAt w vb wk d x s) (hx : GOk d.slots d.ts m i x) (hsl : d.slots ≤ 96) : Calls Try.prog 22 #[vptr vb] w (TellI (wrongD d.ts s x) w) := by
  obtain ⟨R, hR⟩ : ∃ R, R = wrongD d.ts s x := ⟨_, rfl⟩
  rw [← hR]
  have HRD := hid (hready h hx.op hx.r hx.s)
  have HAS : Hid (∀ w', Below w.heap.size w w' → Calls Try.prog 39 #[vptr vb] w' (AskIs (askedD d.ts s x) w')) := fun w' hb => hasked (h.step hb) hx hsl
  have HX := hid hx
  have HV := hid h
  have HER := hid hR
  have hop := hx.op
  clear hR
  haveI inhB : ∀ w : World, Inhabited (BelowBy w) := fun w => ⟨⟨w, Below.refl _ _⟩⟩
  by_cases hrd : readyD s x = false
  · have E : Hid (R = 15) := by
      show _ = _
      rw [HER.out]
      unfold wrongD
      rw [if_pos hrd]
    rw [hrd] at HRD
    clear HAS HX HV HER h hx hop hrd
    go_enter Try.func22, Try.ntmps22
    go_wp2_with fail
    refine HRD.out.mono ?_
    rintro e w2 ⟨rfl, hb⟩
    have HB := hid hb
    clear hb HRD
    go_wp2
    go_ret
    exact ⟨by rw [E.out]; rfl, HB.out⟩
  have hrd' : readyD s x = true := by simpa using hrd
  rw [hrd'] at HRD
  have HRF := hid hrd
  clear hrd hrd'
  have HREST : Hid (¬ (x.op = 6 ∧ (s.reg x.s.toNat).has (x.n.toNat + x.k.toNat) = false) → ¬ (x.op = 15 ∧ (s.reg x.r.toNat).has 0 = false) → R = if askedD d.ts s x = false then 15 else 0) := fun h1 h2 => by
    rw [HER.out]
    unfold wrongD
    rw [if_neg HRF.out, if_neg h1, if_neg h2]
  by_cases q6 : x.op = 6
  · have hs := hx.s (by omega)
    obtain ⟨k1, k2, k3⟩ := hx.load q6
    have hn0 := hx.n.1
    have HH := hid (fun w => hhas (s.reg x.s.toNat) (x.n.toNat + x.k.toNat) w)
    have E1 : Hid ((s.reg x.s.toNat).has (x.n.toNat + x.k.toNat) = false → R = 16) := fun e => by
      rw [HER.out]
      unfold wrongD
      rw [if_neg HRF.out, if_pos ⟨q6, e⟩]
    have E2 : Hid ((s.reg x.s.toNat).has (x.n.toNat + x.k.toNat) = true → R = 0) := fun e => by
      have ha : askedD d.ts s x = true := by
        unfold askedD
        rw [if_neg (by omega), if_neg (by omega)]
      rw [HREST.out (fun h => by rw [e] at h; cases h.2) (fun h => by omega), ha]
      rfl
    obtain ⟨AS, hAS⟩ : ∃ A, A = askedD d.ts s x := ⟨_, rfl⟩
    have EAS : Hid (AS = true) := by
      show _ = _
      rw [hAS]
      unfold askedD
      rw [if_neg (by omega), if_neg (by omega)]
    rw [← hAS] at HAS
    clear hAS HREST HER HX h hx hop HRF
    obtain ⟨op, r, ss, kk, tt, n⟩ := x
    dsimp only at *
    subst q6
    obtain ⟨n, rfl⟩ : ∃ k : Nat, n = k := ⟨n.toNat, by omega⟩
    obtain ⟨ss, rfl⟩ : ∃ k : Nat, ss = k := ⟨ss.toNat, by omega⟩
    obtain ⟨kk, rfl⟩ : ∃ k : Nat, kk = k := ⟨kk.toNat, by omega⟩
    simp only [Int.toNat_natCast] at HH E1 E2
    have hsi : (ss : Int) < 10 := by omega
    have hku : IntKind.u64.wrap (kk : Int) = (kk : Int) := gwrap_u _ (by omega) (by omega)
    have hw1 : IntKind.u64.wrap ((n : Int) + (kk : Int)) = ((n + kk : Nat) : Int) := by rw [gwrap_u _ (by omega) (by omega)]; omega
    obtain ⟨nk, hnk⟩ : ∃ n1, n1 = n + kk := ⟨_, rfl⟩
    rw [← hnk] at hw1 HH E1 E2
    have hsn : ss < 10 := by omega
    clear hnk k1 k2 k3 hn0 hs
    go_enter Try.func22, Try.ntmps22
    go_wp2_with fail
    refine HRD.out.mono ?_
    rintro e w2 ⟨rfl, hb⟩
    have h2 := HV.out.step hb
    obtain ⟨g0, g1, g2, g3, g4⟩ := h2.reg hsn
    have i0 := h2.i0
    have i2 := h2.i2
    have i3 := h2.i3
    have i5 := h2.i5
    have hl := h2.lt
    have B2 := hid hb
    clear h2 HV hb HRD hsn
    dsimp only at i0 i2 i3 i5
    generalize (s.reg ss) = X at *
    have i0' := cell_by i0
    have i2' := cell_by i2
    have i3' := cell_by i3
    have i5' := cell_by i5
    have g0' := cell_by g0
    have g1' := cell_by g1
    have g2' := cell_by g2
    have g3' := cell_by g3
    have g4' := cell_by g4
    go_wp2_with fail
    have HH2 : Hid (∀ q : BelowBy w2, Calls Try.prog 37 #[regV X, .int .u64 (nk : Int)] q.to fun e w' => e = .returned (.bool (X.has nk)) ∧ Below q.to.heap.size q.to w') := fun q => HH.out q.to
    refine wp_region_quiet_below (by kernel_rfl) (by kernel_rfl) ?_
    repeat (go_big_quiet_step (first | (go_at_call 37; exact calls_below _ (HH2.out _))))
    refine wpQuiet_nil ?_
    intro wq hw'
    obtain ⟨⟨_, hwq⟩, hw''⟩ := hw'
    subst hw''
    have B3 := hid (bl_step B2.out hwq)
    have i0q := cell_keep i0 hwq
    have hlq : vb < wq.heap.size := World.block_lt_of_cell? _ _ i0q
    clear hwq i0 i2 i3 i5 g0 g1 g2 g3 g4 i0' i2' i3' i5' g0' g1' g2' g3' g4' HH HH2 B2 hl
    cases hX : X.has nk with
    | false =>
      have E := hid (E1.out hX)
      clear hX E1 E2 EAS HAS
      go_wp2
      go_ret
      exact ⟨by rw [E.out]; rfl, B3.out⟩
    | true =>
      have E := hid (E2.out hX)
      have i0q' := cell_by i0q
      clear hX E1 E2
      go_wp2_with fail
      refine wp_region_quiet_below (by kernel_rfl) (by kernel_rfl) ?_
      repeat (go_big_quiet_step (fail))
      refine wpQuiet_nil ?_
      intro wr hw'
      obtain ⟨⟨_, hwq⟩, hw''⟩ := hw'
      subst hw''
      have B4 := hid (bl_step B3.out hwq)
      have HA := hid (HAS.out wr B4.out)
      clear hwq i0q i0q' B3 HAS hlq
      go_wp2_with fail
      refine HA.out.mono ?_
      rintro e w5 ⟨a5, c5, bs, rfl, hbs, hq, hlen, hb5⟩
      have HCT := hid (hcontains c5 hbs hlen)
      have B5 := hid (bl_step B4.out hb5)
      rw [hq, EAS.out] at HCT
      clear hbs hq hlen hb5 HA B4 EAS
      go_wp2_with fail
      refine HCT.out.mono ?_
      rintro e w6 ⟨rfl, hb6⟩
      have B6 := hid (bl_step B5.out hb6)
      clear hb6 HCT B5
      go_wp2
      go_ret
      exact ⟨by rw [E.out]; rfl, B6.out⟩
  by_cases q15 : x.op = 15
  · have hr := hx.r
    have HH := hid (fun w => hhas (s.reg x.r.toNat) 0 w)
    have E1 : Hid ((s.reg x.r.toNat).has 0 = false → R = 16) := fun e => by
      rw [HER.out]
      unfold wrongD
      rw [if_neg HRF.out, if_neg (fun h => q6 h.1), if_pos ⟨q15, e⟩]
    have E2 : Hid ((s.reg x.r.toNat).has 0 = true → R = 0) := fun e => by
      have ha : askedD d.ts s x = true := by
        unfold askedD
        rw [if_neg (by omega), if_neg (by omega)]
      rw [HREST.out (fun h => q6 h.1) (fun h => by rw [e] at h; cases h.2), ha]
      rfl
    obtain ⟨AS, hAS⟩ : ∃ A, A = askedD d.ts s x := ⟨_, rfl⟩
    have EAS : Hid (AS = true) := by
      show _ = _
      rw [hAS]
      unfold askedD
      rw [if_neg (by omega), if_neg (by omega)]
    rw [← hAS] at HAS
    clear hAS HREST HER HX h hx hop HRF q6
    obtain ⟨op, r, ss, kk, tt, n⟩ := x
    dsimp only at *
    subst q15
    obtain ⟨r, rfl⟩ : ∃ k : Nat, r = k := ⟨r.toNat, by omega⟩
    simp only [Int.toNat_natCast] at HH E1 E2
    have hsi : (r : Int) < 10 := by omega
    have hsn : r < 10 := by omega
    clear hr
    go_enter Try.func22, Try.ntmps22
    go_wp2_with fail
    refine HRD.out.mono ?_
    rintro e w2 ⟨rfl, hb⟩
    have h2 := HV.out.step hb
    obtain ⟨g0, g1, g2, g3, g4⟩ := h2.reg hsn
    have i0 := h2.i0
    have i1 := h2.i1
    have hl := h2.lt
    have B2 := hid hb
    clear h2 HV hb HRD hsn
    dsimp only at i0 i1
    generalize (s.reg r) = X at *
    have i0' := cell_by i0
    go_wp2_with fail
    refine wp_region_quiet_below (by kernel_rfl) (by kernel_rfl) ?_
    repeat (go_big_quiet_step (fail))
    refine wpQuiet_nil ?_
    intro wq hw'
    obtain ⟨⟨_, hwq⟩, hw''⟩ := hw'
    subst hw''
    have B3 := hid (bl_step B2.out hwq)
    replace i0 := cell_keep i0 hwq
    replace i1 := cell_keep i1 hwq
    replace g0 := cell_keep g0 hwq
    replace g1 := cell_keep g1 hwq
    replace g2 := cell_keep g2 hwq
    replace g3 := cell_keep g3 hwq
    replace g4 := cell_keep g4 hwq
    replace hl : vb < wq.heap.size := World.block_lt_of_cell? _ _ i0
    clear hwq i0' B2
    have i0' := cell_by i0
    have i1' := cell_by i1
    have g0' := cell_by g0
    have g1' := cell_by g1
    have g2' := cell_by g2
    have g3' := cell_by g3
    have g4' := cell_by g4
    have HH2 : Hid (∀ q : BelowBy wq, Calls Try.prog 37 #[regV X, .int .u64 0] q.to fun e w' => e = .returned (.bool (X.has 0)) ∧ Below q.to.heap.size q.to w') := fun q => HH.out q.to
    go_wp2_with fail
    refine wp_region_quiet_below (by kernel_rfl) (by kernel_rfl) ?_
    repeat (go_big_quiet_step (first | (go_at_call 37; exact calls_below _ (HH2.out _))))
    refine wpQuiet_nil ?_
    intro wr hw'
    obtain ⟨⟨_, hwq⟩, hw''⟩ := hw'
    subst hw''
    have B4 := hid (bl_step B3.out hwq)
    clear hwq i0 i1 g0 g1 g2 g3 g4 i0' i1' g0' g1' g2' g3' g4' HH HH2 B3 hl
    cases hX : X.has 0 with
    | false =>
      have E := hid (E1.out hX)
      clear hX E1 E2 EAS HAS
      go_wp2
      go_ret
      exact ⟨by rw [E.out]; rfl, B4.out⟩
    | true =>
      have E := hid (E2.out hX)
      have HA := hid (HAS.out wr B4.out)
      clear hX E1 E2 HAS
      go_wp2_with fail
      refine HA.out.mono ?_
      rintro e w5 ⟨a5, c5, bs, rfl, hbs, hq, hlen, hb5⟩
      have HCT := hid (hcontains c5 hbs hlen)
      have B5 := hid (bl_step B4.out hb5)
      rw [hq, EAS.out] at HCT
      clear hbs hq hlen hb5 HA B4 EAS
      go_wp2_with fail
      refine HCT.out.mono ?_
      rintro e w6 ⟨rfl, hb6⟩
      have B6 := hid (bl_step B5.out hb6)
      clear hb6 HCT B5
      go_wp2
      go_ret
      exact ⟨by rw [E.out]; rfl, B6.out⟩
  have ER := hid (HREST.out (fun h => q6 h.1) (fun h => q15 h.1))
  generalize askedD d.ts s x = AS at *
  clear HREST HER HX h hx hop HRF
  obtain ⟨op, r, ss, kk, tt, n⟩ := x
  dsimp only at *
  go_enter Try.func22, Try.ntmps22
  go_wp2_with fail
  refine HRD.out.mono ?_
  rintro e w2 ⟨rfl, hb⟩
  have h2 := HV.out.step hb
  have i0 := h2.i0
  have hl := h2.lt
  have B2 := hid hb
  clear h2 HV hb HRD
  dsimp only at i0
  have i0' := cell_by i0
  have d6 : (op == 6) = false := by simpa using q6
  have d15 : (op == 15) = false := by simpa using q15
  go_wp2_with fail
  refine wp_region_quiet_below (by kernel_rfl) (by kernel_rfl) ?_
  repeat (go_big_quiet_step (fail))
  refine wpQuiet_nil ?_
  intro wq hw'
  obtain ⟨⟨_, hwq⟩, hw''⟩ := hw'
  subst hw''
  have B3 := hid (bl_step B2.out hwq)
  replace i0 := cell_keep i0 hwq
  replace hl : vb < wq.heap.size := World.block_lt_of_cell? _ _ i0
  clear hwq i0' B2
  have i0' := cell_by i0
  go_wp2_with fail
  refine wp_region_quiet_below (by kernel_rfl) (by kernel_rfl) ?_
  repeat (go_big_quiet_step (fail))
  refine wpQuiet_nil ?_
  intro wr hw'
  obtain ⟨⟨_, hwq⟩, hw''⟩ := hw'
  subst hw''
  have B4 := hid (bl_step B3.out hwq)
  have HA := hid (HAS.out wr B4.out)
  clear hwq i0 i0' B3 HAS hl d6 d15 q6 q15
  go_wp2_with fail
  refine HA.out.mono ?_
  rintro e w5 ⟨a5, c5, bs, rfl, hbs, hq, hlen, hb5⟩
  have HCT := hid (hcontains c5 hbs hlen)
  have B5 := hid (bl_step B4.out hb5)
  rw [hq] at HCT
  clear hbs hq hlen hb5 HA B4
  go_wp2_with fail
  refine HCT.out.mono ?_
  rintro e w6 ⟨rfl, hb6⟩
  have B6 := hid (bl_step B5.out hb6)
  clear hb6 HCT B5
  cases AS
  · have E : Hid (R = 15) := ER.out
    clear ER
    go_wp2
    go_ret
    exact ⟨by rw [E.out]; rfl, B6.out⟩
  · have E : Hid (R = 0) := ER.out
    clear ER
    go_wp2
    go_ret
    exact ⟨by rw [E.out]; rfl, B6.out⟩
end Go.Proofs.Ytjmlkaciibdpaaa
