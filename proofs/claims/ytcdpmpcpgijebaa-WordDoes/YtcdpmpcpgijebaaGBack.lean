/- THERE AND BACK: the walk of shuntyardlaw.WordBack. -/
import Derived.Test.YtcdpmpcpgijebaaGBeg
namespace Go.Proofs.Ytcdpmpcpgijebaa
open Go.RowKit

@[reducible] def nilD : ProgD := ⟨0, ⟨none, 0, 0⟩, [], ⟨none, 0, 0⟩, []⟩
theorem nil_lie (w : World) : nilD.lie w := ⟨(show gwfI 0 by decide), by simp [QSl.nil0], by simp [QSl.nil0], ⟨rfl, by simp⟩, ⟨rfl, by simp⟩⟩
theorem nil_same (w : World) : Calls Try.prog 14 #[nilP, nilP] w (TellB true w) := gsame nilD nilD w (nil_lie w) (nil_lie w) rfl rfl rfl ⟨Nat.zero_le _, Nat.zero_le _⟩

set_option maxHeartbeats 4000000 in
set_option maxRecDepth 20000 in
theorem wordback_main (d : ProgD) (a : Option Addr) (n c : Nat) (zs : List Int) (W : World) (hd : d.lie W) (hz : Has .u8 W a n zs) (hc : n ≤ c) (hcm : c ≤ maxLen) : Calls Try.prog 4 #[d.v, .slice a n c] W (TellB true W) := by
  obtain ⟨W1, hW1⟩ : ∃ W1, W1 = W.alloc (.cells #[.int .i64 d.slots, .slice d.tabs.a d.tabs.n d.tabs.c, .slice d.code.a d.code.n d.code.c] 25) := ⟨_, rfl⟩
  obtain ⟨pb, hpb⟩ : ∃ b, b = W.heap.size := ⟨_, rfl⟩
  have PB : Hid (PBox d W1 pb) := by rw [hW1, hpb]; exact pbox_new d W
  have b1 : Below W.heap.size W W1 := by rw [hW1]; exact bl_alloc (Below.refl _ _)
  have B1 := hid b1
  have EW := hid hW1
  have EP := hid hpb
  have HBEG := hid (gbegun W1)
  have HGR := hid (fun w => ggreat d w)
  have HZ := hid hz
  have HC := hid hc
  have HCM := hid hcm
  have HD := hid hd
  have HNIL := hid (fun w => nil_same w)
  dsimp only [ProgD.v, nilP] at HGR HNIL ⊢
  clear hW1 hpb b1 hz hc hcm hd
  go_enter Try.func4, Try.ntmps4
  go_wp2_with fail
  rw [← EW.out, ← EP.out]
  refine HBEG.out.mono ?_
  rintro e w2 ⟨rfl, hb2⟩
  have B2 := hid (bl_step B1.out hb2)
  have PB2 := hid (PB.out.step hb2)
  obtain ⟨p0, p1, p2⟩ := PB2.out
  clear HBEG EW EP hb2 B1 PB
  go_wp2_with fail
  refine (HGR.out _).mono ?_
  rintro e w3 ⟨rfl, hb3⟩
  have B3 := hid (bl_step B2.out hb3)
  have PB3 := hid (PB2.out.step hb3)
  clear HGR hb3 B2 PB2 p0 p1 p2
  by_cases hg : (decide (300 < (d.tabs.n : Int)) || decide (65000 < (d.code.n : Int))) = true
  · rw [hg]
    go_wp2
    go_ret
    exact ⟨rfl, B3.out⟩
  have hg' : (decide (300 < (d.tabs.n : Int)) || decide (65000 < (d.code.n : Int))) = false := by simpa using hg
  rw [hg']
  by_cases hn : (50000 : Int) < (n : Int)
  · go_wp2
    go_ret
    exact ⟨rfl, B3.out⟩
  have hsm : d.small := by
    simp only [Bool.or_eq_true, decide_eq_true_eq, not_or] at hg
    exact ⟨by omega, by omega⟩
  have HN : Hid (n ≤ 50000) := by show _ ≤ _; omega
  have HSM := hid hsm
  have HEN := hid (gencode d w3 (HD.out.step B3.out) hsm)
  dsimp only [ProgD.v] at HEN
  obtain ⟨p0, p1, p2⟩ := PB3.out
  clear hg hg' hsm
  go_wp2_with fail
  refine HEN.out.mono ?_
  clear p0 p1 p2
  rintro e w4 (⟨hne, rfl, hb4⟩ | ⟨hce, a4, c4, rfl, hrow, hb4⟩)
  · have hnb : ((chkW d.slots d.ts d.cs).1 == 0) = false := by rw [beq_eq_false_iff_ne]; exact hne
    generalize (chkW d.slots d.ts d.cs).1 = C4 at *
    generalize (chkW d.slots d.ts d.cs).2 = A4 at *
    obtain ⟨W5, hW5⟩ : ∃ W5, W5 = w4.alloc (.cells #[.int .i64 C4, .int .i64 A4] 31) := ⟨_, rfl⟩
    have B5 : Hid (Below W.heap.size W W5) := by rw [hW5]; exact bl_alloc (bl_step B3.out hb4)
    have E5 := hid hW5
    clear HEN hne hb4 B3 PB3 hW5
    have HDB := hid (gdecode a n c zs W5 (HZ.out.step B5.out) HC.out HCM.out (by have := HN.out; omega))
    go_wp2_with fail
    rw [← E5.out]
    clear E5
    refine HDB.out.mono ?_
    rintro e w6 (⟨hne, rfl, hb6⟩ | ⟨h0, hw0, q, rfl, es, et, ec, hlq, hsm, hb6⟩)
    · have B6 := hid (bl_step B5.out hb6)
      have hnb : ((decF zs).1 != 0) = true := by rw [bne_iff_ne]; exact hne
      generalize (decF zs).1 = C6 at *
      generalize (decF zs).2 = A6 at *
      clear hne hb6 HDB B5
      go_wp2_with fail
      refine (HNIL.out _).mono ?_
      rintro e w7 ⟨rfl, b7⟩
      have B7 := hid (bl_step (bl_alloc (o := .cells #[.int .i64 C6, .int .i64 A6] 31) (bl_alloc (o := .cells #[.int .i64 0, .slice none 0 0, .slice none 0 0] 25) B6.out)) b7)
      clear b7 B6
      go_wp2
      go_ret
      exact ⟨rfl, B7.out⟩
    · have B6 := hid (bl_step B5.out hb6)
      have HEQ : Hid (gencL q.slots q.ts q.cs = zs) := by show _ = _; rw [es, et, ec]; exact enc_dec HZ.out.byt hw0
      have HCQ : Hid ((chkW q.slots q.ts q.cs).1 = 0) := by
        show _ = _
        rw [es, et, ec]
        unfold decF at h0
        rw [hw0, if_neg (fun h => h rfl)] at h0
        exact h0
      have HEN2 : Hid (∀ w', Below w6.heap.size w6 w' → Calls Try.prog 10 #[q.v] w' (GEncDone q w')) := fun w' h => gencode q w' (hlq.step h) hsm
      dsimp only [ProgD.v] at HEN2
      clear hb6 HDB B5 h0 hw0 es et ec hlq hsm
      go_wp2_with fail
      refine (HEN2.out _ (bl_alloc (bl_alloc (Below.refl _ _)))).mono ?_
      rintro e w7 (⟨hne, _⟩ | ⟨_, a7, c7, rfl, hrow, hb7⟩)
      · exact absurd HCQ.out hne
      · rw [HEQ.out] at hrow ⊢
        have B7 := hid (bl_step (bl_alloc (bl_alloc B6.out)) hb7)
        have HH7 := hid (hrow.has HZ.out.byt)
        have HZ7 := hid (HZ.out.step B7.out)
        have HSB : Hid (∀ w', Below w7.heap.size w7 w' → Calls Try.prog 15 #[.slice a7 n c7, .slice a n c] w' fun e w'' => e = .returned (.bool true) ∧ w'' = w') := fun w' h => same_bytes c7 c (by have := HH7.out.step h; rw [HZ.out.1] at this; exact this) (HZ7.out.step h)
        rw [HZ.out.1]
        clear hrow hb7 HEN2 B6 HEQ HCQ HH7 HZ7
        go_wp2_with fail
        refine (HSB.out _ (bl_alloc (Below.refl _ _))).mono ?_
        rintro e w8 ⟨rfl, rfl⟩
        clear HSB
        go_wp2
        go_ret
        exact ⟨rfl, bl_alloc B7.out⟩
  · have HFIT := hid (chk_fit HD.out.wfs hce)
    have HCE := hid hce
    have hh := hrow.has genc_byt
    have hcap : (gencL d.slots d.ts d.cs).length ≤ c4 ∧ c4 ≤ maxLen := by
      have hl := genc_len d.slots d.ts d.cs
      have h1 := HFIT.out.nt
      have h2 := HFIT.out.nc
      rcases hrow.cap with h | h
      · exact ⟨h.1, h.2.1⟩
      · exact ⟨h.1, by unfold maxLen; omega⟩
    have hgl : (gencL d.slots d.ts d.cs).length ≤ 1000000 := by
      have hl := genc_len d.slots d.ts d.cs
      have h1 := HFIT.out.nt
      have h2 := HFIT.out.nc
      omega
    obtain ⟨W5, hW5⟩ : ∃ W5, W5 = w4.alloc (.cells #[.int .i64 0, .int .i64 0] 31) := ⟨_, rfl⟩
    have b5 : Below w4.heap.size w4 W5 := by rw [hW5]; exact bl_alloc (Below.refl _ _)
    have B5 := hid (bl_step (bl_step B3.out hb4) b5)
    have PB5 := hid ((PB3.out.step hb4).step b5)
    have HDX := hid (gdecode a4 _ c4 _ W5 (hh.step b5) hcap.1 hcap.2 hgl)
    have E5 := hid hW5
    generalize hN4 : (gencL d.slots d.ts d.cs).length = N4 at *
    clear HEN hb4 B3 PB3 hW5 b5 hrow hh hcap hgl hce hN4
    go_wp2_with fail
    rw [← E5.out]
    clear E5
    refine HDX.out.mono ?_
    rintro e w5 (⟨hne, _⟩ | ⟨_, _, q, rfl, es, et, ec, hlq, hsq, hb5⟩)
    · exact absurd (dec_enc HFIT.out HCE.out) hne
    have eD := genc_drop d.slots d.ts d.cs []
    rw [List.append_nil, List.append_nil] at eD
    have e1 := slots_prog HFIT.out []
    have e2 := ts_prog HFIT.out []
    have e3 := cs_prog HFIT.out []
    rw [List.append_nil] at e1 e2 e3
    rw [eD, e1] at es
    rw [eD, e2] at et
    rw [eD, e3] at ec
    obtain ⟨W6, hW6⟩ : ∃ W6, W6 = (w5.alloc (.cells #[.int .i64 q.slots, .slice q.tabs.a q.tabs.n q.tabs.c, .slice q.code.a q.code.n q.code.c] 25)).alloc (.cells #[.int .i64 0, .int .i64 0] 31) := ⟨_, rfl⟩
    have b6 : Below w5.heap.size w5 W6 := by rw [hW6]; exact bl_alloc (bl_alloc (Below.refl _ _))
    have B6 := hid (bl_step (bl_step B5.out hb5) b6)
    have PB6 := (PB5.out.step hb5).step b6
    have HSP := hid (gsame q d W6 (hlq.step b6) (HD.out.step B6.out) es et ec hsq)
    dsimp only [ProgD.v] at HSP
    have E6 := hid hW6
    rw [hW6] at PB6
    obtain ⟨p0, p1, p2⟩ := PB6
    clear HDX B5 PB5 es et ec hlq hsq hb5 eD e1 e2 e3 hW6 b6 HFIT HCE
    go_wp2_with fail
    rw [← E6.out]
    clear E6 p0 p1 p2
    refine HSP.out.mono ?_
    rintro e w7 ⟨rfl, b7⟩
    have B7 := hid (bl_step B6.out b7)
    clear HSP b7 B6
    have HDB := hid (gdecode a n c zs w7 (HZ.out.step B7.out) HC.out HCM.out (by have := HN.out; omega))
    go_wp2_with fail
    refine HDB.out.mono ?_
    rintro e w6 (⟨hne, rfl, hb6⟩ | ⟨h0, hw0, q, rfl, es, et, ec, hlq, hsm, hb6⟩)
    · have B6 := hid (bl_step B7.out hb6)
      have hnb : ((decF zs).1 != 0) = true := by rw [bne_iff_ne]; exact hne
      generalize (decF zs).1 = C6 at *
      generalize (decF zs).2 = A6 at *
      clear hne hb6 HDB B7
      go_wp2_with fail
      refine (HNIL.out _).mono ?_
      rintro e w7 ⟨rfl, b7⟩
      have B7 := hid (bl_step (bl_alloc (o := .cells #[.int .i64 C6, .int .i64 A6] 31) (bl_alloc (o := .cells #[.int .i64 0, .slice none 0 0, .slice none 0 0] 25) B6.out)) b7)
      clear b7 B6
      go_wp2
      go_ret
      exact ⟨rfl, B7.out⟩
    · have B6 := hid (bl_step B7.out hb6)
      have HEQ : Hid (gencL q.slots q.ts q.cs = zs) := by show _ = _; rw [es, et, ec]; exact enc_dec HZ.out.byt hw0
      have HCQ : Hid ((chkW q.slots q.ts q.cs).1 = 0) := by
        show _ = _
        rw [es, et, ec]
        unfold decF at h0
        rw [hw0, if_neg (fun h => h rfl)] at h0
        exact h0
      have HEN2 : Hid (∀ w', Below w6.heap.size w6 w' → Calls Try.prog 10 #[q.v] w' (GEncDone q w')) := fun w' h => gencode q w' (hlq.step h) hsm
      dsimp only [ProgD.v] at HEN2
      clear hb6 HDB B7 h0 hw0 es et ec hlq hsm
      go_wp2_with fail
      refine (HEN2.out _ (bl_alloc (bl_alloc (Below.refl _ _)))).mono ?_
      rintro e w7 (⟨hne, _⟩ | ⟨_, a7, c7, rfl, hrow, hb7⟩)
      · exact absurd HCQ.out hne
      · rw [HEQ.out] at hrow ⊢
        have B7 := hid (bl_step (bl_alloc (bl_alloc B6.out)) hb7)
        have HH7 := hid (hrow.has HZ.out.byt)
        have HZ7 := hid (HZ.out.step B7.out)
        have HSB : Hid (∀ w', Below w7.heap.size w7 w' → Calls Try.prog 15 #[.slice a7 n c7, .slice a n c] w' fun e w'' => e = .returned (.bool true) ∧ w'' = w') := fun w' h => same_bytes c7 c (by have := HH7.out.step h; rw [HZ.out.1] at this; exact this) (HZ7.out.step h)
        rw [HZ.out.1]
        clear hrow hb7 HEN2 B6 HEQ HCQ HH7 HZ7
        go_wp2_with fail
        refine (HSB.out _ (bl_alloc (Below.refl _ _))).mono ?_
        rintro e w8 ⟨rfl, rfl⟩
        clear HSB
        go_wp2
        go_ret
        exact ⟨rfl, bl_alloc B7.out⟩
end Go.Proofs.Ytcdpmpcpgijebaa
