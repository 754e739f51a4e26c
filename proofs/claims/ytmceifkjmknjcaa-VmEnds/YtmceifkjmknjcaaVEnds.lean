/- IT ENDS: the walk of shuntyardlaw.VmEnds. -/
import Derived.Test.YtmceifkjmknjcaaVBeg
namespace Go.Proofs.Ytmceifkjmknjcaa
open Go.RowKit

theorem shapes_neg : ∀ (ts : List ShapeD) (i : Int), 0 ≤ i → (shapesN ts i).1 ≠ 0 → (shapesN ts i).2 < 0
  | [], i, _, h => absurd rfl h
  | t :: r, i, hi, h => by
    rw [shapesN] at h ⊢
    by_cases ht : shapeB t = true
    · rw [if_pos ht] at h ⊢
      exact shapes_neg r (i + 1) (by omega) h
    · rw [if_neg ht]
      show -2 - i < 0
      omega

theorem inss_lt {slots : Int} {ts : List ShapeD} {m : Int} : ∀ (cs : List InsD) (i : Int), (inssN slots ts m cs i).1 ≠ 0 → (inssN slots ts m cs i).2 < i + cs.length
  | [], i, h => absurd rfl h
  | x :: r, i, h => by
    rw [inssN] at h ⊢
    by_cases hx : insN slots ts m i x = 0
    · rw [if_pos hx] at h ⊢
      have := inss_lt r (i + 1) h
      rw [List.length_cons]
      omega
    · rw [if_neg hx, List.length_cons]
      show i < _
      omega

theorem chk_lt {slots : Int} {ts : List ShapeD} {cs : List InsD} (h : (chkW slots ts cs).1 ≠ 0) : (chkW slots ts cs).2 < cs.length := by
  unfold chkW at h ⊢
  by_cases h1 : (sizesN slots ts cs.length).1 ≠ 0
  · rw [if_pos h1]
    unfold sizesN at h1 ⊢
    by_cases a1 : inB slots 0 96 = false
    · rw [if_pos a1]
      show (-1 : Int) < _
      omega
    rw [if_neg a1] at h1 ⊢
    by_cases a2 : (decide (5 < (ts.length : Int)) || !inB cs.length 1 60000) = true
    · rw [if_pos a2]
      show (-1 : Int) < _
      omega
    rw [if_neg a2] at h1 ⊢
    have := shapes_neg ts 0 (by decide) h1
    omega
  rw [if_neg h1] at h ⊢
  by_cases h2 : (inssN slots ts cs.length cs 0).1 ≠ 0
  · rw [if_pos h2]
    have := inss_lt cs 0 h2
    omega
  rw [if_neg h2] at h ⊢
  by_cases e : endsB ((cs[cs.length - 1]?.map InsD.op).getD 0) = true
  · rw [if_pos e] at h
    exact absurd rfl h
  · rw [if_neg e]
    show (cs.length : Int) - 1 < _
    omega

/-- what is so of every run -/
def EndsOk (n : Nat) (R : RunR) : Prop := 0 ≤ R.n ∧ R.n ≤ n ∧ (R.code = 0 → R.n ≠ 0) ∧ R.at_ < n

theorem runN_ends {k : MK} {ts : List ShapeD} {C : MD → InsD → Int × MD} {cs : List InsD} (hf : CFit cs) : ∀ (f i d : Nat) (m : MD), i < cs.length → 1 ≤ d → d ≤ i + 1 → cs.length - i ≤ f → EndsOk cs.length (runN k ts C cs f i d m) := by
  intro f
  induction f with
  | zero => intro i d m h1 _ _ h2; omega
  | succ f ih =>
    intro i d m h1 hd hd2 h2
    have hx : cs[i]? = some cs[i] := List.getElem?_eq_getElem h1
    rw [runN, hx]
    dsimp only
    split
    · rename_i hc
      exact ⟨Int.le_refl _, by show (0 : Int) ≤ _; omega, fun h => absurd h hc, by show (i : Int) < _; omega⟩
    split
    · exact ⟨by show (0 : Int) ≤ (d : Int); omega, by show (d : Int) ≤ _; omega, fun _ => by show (d : Int) ≠ 0; omega, by show (0 : Int) < _; omega⟩
    · rename_i he
      have := next_lt (k := k) hf hx he (stepM k ts C m cs[i]).2
      exact ih _ _ _ this (by omega) (by omega) (by omega)

theorem runV_ends {k : MK} {d : ProgD} {C : MD → InsD → Int × MD} {H : Bool} {port : Int} (hw : ∀ x ∈ d.cs, x.wf) : EndsOk d.cs.length (runV k d C H port) := by
  unfold runV
  by_cases h : (startV d H k.pk.n port).1 ≠ 0
  · rw [if_pos h]
    refine ⟨Int.le_refl _, by show (0 : Int) ≤ _; omega, fun e => absurd e h, ?_⟩
    show (startV d H k.pk.n port).2 < _
    unfold startV at h ⊢
    by_cases h1 : (chkW d.slots d.ts d.cs).1 ≠ 0
    · rw [if_pos h1]
      exact chk_lt h1
    rw [if_neg h1] at h ⊢
    by_cases h2 : H = false
    · rw [if_pos h2]
      show (-1 : Int) < _
      omega
    rw [if_neg h2] at h ⊢
    by_cases h3 : 600 < k.pk.n
    · rw [if_pos h3]
      show (-1 : Int) < _
      omega
    rw [if_neg h3] at h ⊢
    by_cases h4 : port < 0 ∨ 65535 < port
    · rw [if_pos h4]
      show (-1 : Int) < _
      omega
    rw [if_neg h4] at h
    exact absurd rfl h
  · rw [if_neg h]
    have h0 := start_zero (by simpa using h)
    have hf := (vfit hw h0.1).1
    exact runN_ends hf _ 0 1 _ hf.some (Nat.le_refl _) (Nat.le_refl _) (by omega)

theorem runV_none {k : MK} {d : ProgD} {C : MD → InsD → Int × MD} {port : Int} : ∃ c a, runV k d C false port = ⟨c, a, 0, 0, []⟩ ∧ c ≠ 0 := by
  have h : (startV d false k.pk.n port).1 ≠ 0 := by
    unfold startV
    by_cases h1 : (chkW d.slots d.ts d.cs).1 ≠ 0
    · rw [if_pos h1]; exact h1
    rw [if_neg h1, if_pos rfl]
    decide
  unfold runV
  rw [if_pos h]
  exact ⟨_, _, rfl, h⟩

set_option maxHeartbeats 4000000 in
set_option maxRecDepth 20000 in
theorem vmends_main (d : ProgD) (a : Option Addr) (n c : Nat) (zs : List Int) (port : Int) (W : World) (hd : d.lie W) (hz : Has .u8 W a n zs) (hn : a = none → n = 0 ∧ c = 0) (hc : n ≤ c) : Calls Try.prog 3 #[d.v, .slice a n c, .int .i64 port] W (TellB true W) := by
  obtain ⟨W1, hW1⟩ : ∃ W1, W1 = W.alloc (.cells #[.int .i64 d.slots, .slice d.tabs.a d.tabs.n d.tabs.c, .slice d.code.a d.code.n d.code.c] 25) := ⟨_, rfl⟩
  obtain ⟨pb, hpb⟩ : ∃ b, b = W.heap.size := ⟨_, rfl⟩
  have PB : Hid (PBox d W1 pb) := by rw [hW1, hpb]; exact pbox_new d W
  have b1 : Below W.heap.size W W1 := by rw [hW1]; exact bl_alloc (Below.refl _ _)
  have B1 := hid b1
  have EW := hid hW1
  have EP := hid hpb
  have HBEG := hid (vbegun W1)
  have HGR := hid (fun w => ggreat d w)
  have HD := hid hd
  have HZ := hid hz
  have HN := hid hn
  have HC := hid hc
  dsimp only [ProgD.v] at HGR ⊢
  clear hW1 hpb b1 hd hz hn hc
  go_enter Try.func3, Try.ntmps3
  go_wp2_with fail
  rw [← EW.out, ← EP.out]
  refine HBEG.out.mono ?_
  rintro e w2 ⟨rfl, hb2⟩
  have B2 := hid (bl_step B1.out hb2)
  have PB2 := hid (PB.out.step hb2)
  obtain ⟨p0, p1, p2⟩ := PB2.out
  clear HBEG EW EP hb2 B1 PB
  go_wp2_with fail
  refine (HGR.out _).mono ?_
  rintro e w3 ⟨rfl, hb3⟩
  have B3 := hid (bl_step B2.out hb3)
  have PB3 := hid (PB2.out.step hb3)
  clear HGR hb3 B2 PB2 p0 p1 p2
  by_cases hg : (decide (300 < (d.tabs.n : Int)) || decide (65000 < (d.code.n : Int))) = true
  · rw [hg]
    go_wp2
    go_ret
    exact ⟨rfl, B3.out⟩
  have hg' : (decide (300 < (d.tabs.n : Int)) || decide (65000 < (d.code.n : Int))) = false := by simpa using hg
  rw [hg']
  have hsm : d.small := by
    simp only [Bool.or_eq_true, decide_eq_true_eq, not_or] at hg
    exact ⟨by omega, by omega⟩
  have HSM := hid hsm
  clear hg hg' hsm
  by_cases hn2 : (2000 : Int) < (n : Int)
  · go_wp2
    go_ret
    exact ⟨rfl, B3.out⟩
  have hl3 := HD.out.step B3.out
  have HR1 := hid (vRun d noCall ⟨none, 0, 0⟩ ⟨a, n, c⟩ zs (decide (d.tabs.n = 0)) port w3 hl3 HSM.out (HZ.out.step B3.out) HN.out HC.out (fun w' _ => vshapes_nil d.tabs.a d.tabs.n d.tabs.c w') (fun h h0 => (vfit (lie_wfs hl3) h0).2 (List.eq_nil_of_length_eq_zero (by rw [hl3.t.1]; simpa using h))))
  have HE1 : Hid (EndsOk d.code.n (runV ⟨d.tabs, ⟨none, 0, 0⟩, ⟨a, n, c⟩, zs, port.toNat⟩ d noCall (decide (d.tabs.n = 0)) port)) := by
    have := runV_ends (k := ⟨d.tabs, ⟨none, 0, 0⟩, ⟨a, n, c⟩, zs, port.toNat⟩) (C := noCall) (H := decide (d.tabs.n = 0)) (port := port) (lie_wfs hl3)
    rw [hl3.c.1] at this
    exact this
  obtain ⟨R1, hR1⟩ : ∃ R, R = runV ⟨d.tabs, ⟨none, 0, 0⟩, ⟨a, n, c⟩, zs, port.toNat⟩ d noCall (decide (d.tabs.n = 0)) port := ⟨_, rfl⟩
  rw [← hR1] at HR1 HE1
  dsimp only [ProgD.v] at HR1
  obtain ⟨p0, p1, p2⟩ := PB3.out
  have hpl : pb < w3.heap.size := World.block_lt_of_cell? _ _ p0
  clear hR1 hl3
  go_wp2_with fail
  refine HR1.out.mono ?_
  rintro e w4 ⟨v4, rfl, ⟨a4, c4, rfl, ha4, _, _⟩, hb4⟩
  clear HR1 p0 p1 p2 hpl
  obtain ⟨rc, ra, rn, rp, ro⟩ := R1
  dsimp only at ha4 ⊢
  generalize ro.length = ol at *
  clear ha4
  obtain ⟨e1, e2, e3, e4⟩ := HE1.out
  dsimp only at e1 e2 e3 e4
  obtain ⟨W5, hW5⟩ : ∃ W5, W5 = (w4.alloc (.cells #[.int .i64 rp, .slice a4 ol c4] 30)).alloc (.cells #[.int .i64 rc, .int .i64 ra] 32) := ⟨_, rfl⟩
  obtain ⟨fb, hfb⟩ : ∃ b, b = w4.heap.size + 1 := ⟨_, rfl⟩
  have b5 : Below w4.heap.size w4 W5 := by rw [hW5]; exact bl_alloc (bl_alloc (Below.refl _ _))
  have f0 : W5.cell? ⟨fb, 0, none⟩ = some (.int .i64 rc) := by rw [hW5, hfb]; simp
  have f1 : W5.cell? ⟨fb, 1, none⟩ = some (.int .i64 ra) := by rw [hW5, hfb]; simp
  have B5 := hid (bl_step (bl_step B3.out hb4) b5)
  have PB5 := hid ((PB3.out.step hb4).step b5)
  have HF : Hid (W5.cell? ⟨fb, 0, none⟩ = some (.int .i64 rc) ∧ W5.cell? ⟨fb, 1, none⟩ = some (.int .i64 ra)) := ⟨f0, f1⟩
  have E5 := hid hW5
  have EF := hid hfb
  clear hW5 hfb b5 hb4 f0 f1 B3 PB3
  go_upto_region 6 with fail
  rw [← E5.out, ← EF.out]
  clear E5 EF
  obtain ⟨W6, hW6⟩ : ∃ W6, W6 = W5.alloc (.cells #[.pointer none] 58) := ⟨_, rfl⟩
  obtain ⟨tg, htg⟩ : ∃ b, b = W5.heap.size := ⟨_, rfl⟩
  have b6 : Below W5.heap.size W5 W6 := by rw [hW6]; exact bl_alloc (Below.refl _ _)
  have t0 : W6.cell? ⟨tg, 0, none⟩ = some (.pointer none) := by rw [hW6, htg]; simp
  have hl6 := HD.out.step (bl_step B5.out b6)
  have HR2 := hid (vRun d noCall ⟨some ⟨tg, 0, none⟩, 1, 1⟩ ⟨a, n, c⟩ zs false port W6 hl6 HSM.out (HZ.out.step (bl_step B5.out b6)) HN.out HC.out (fun w' hb => vshapes_one (cell_keep t0 hb) d.tabs.a d.tabs.n d.tabs.c) (fun h => by cases h))
  obtain ⟨c2, a2, eR2, hc2⟩ := runV_none (k := ⟨d.tabs, ⟨some ⟨tg, 0, none⟩, 1, 1⟩, ⟨a, n, c⟩, zs, port.toNat⟩) (d := d) (C := noCall) (port := port)
  rw [eR2] at HR2
  dsimp only [ProgD.v] at HR2
  have B6 := hid (bl_step B5.out b6)
  have PB6 := hid (PB5.out.step b6)
  have HF6 : Hid (W6.cell? ⟨fb, 0, none⟩ = some (.int .i64 rc) ∧ W6.cell? ⟨fb, 1, none⟩ = some (.int .i64 ra)) := ⟨cell_keep HF.out.1 b6, cell_keep HF.out.2 b6⟩
  obtain ⟨p0, p1, p2⟩ := PB5.out
  have hpl : pb < W5.heap.size := World.block_lt_of_cell? _ _ p0
  have E6 := hid hW6
  have ET := hid htg
  clear hW6 htg b6 t0 hl6 eR2 B5 HF
  go_wp2_with fail
  rw [← E6.out, ← ET.out]
  refine HR2.out.mono ?_
  rintro e w7 ⟨v7, rfl, ⟨a7, c7, rfl, ha7, _, _⟩, hb7⟩
  dsimp only [List.length_nil] at ha7 ⊢
  clear HR2 p0 p1 p2 hpl E6 ET PB5
  obtain ⟨f0, f1⟩ := HF6.out
  replace f0 := cell_keep f0 hb7
  replace f1 := cell_keep f1 hb7
  have hfl : fb < w7.heap.size := World.block_lt_of_cell? _ _ f0
  obtain ⟨p0, p1, p2⟩ := PB6.out.step hb7
  have hpl : pb < w7.heap.size := World.block_lt_of_cell? _ _ p0
  have HA : Hid (∀ w', Below w7.heap.size w7 w' → Calls Try.prog 7 #[.agg #[.int .i64 0, .slice a7 0 c7], .agg #[.int .i64 0, .slice none 0 0]] w' (TellB true w')) := fun w' hb => vsame_result 0 c7 0 (ha7.step hb) (has_nil _ _)
  have B7 := hid (bl_step B6.out hb7)
  have hcb : (c2 != 0) = true := by simpa using hc2
  have d1 := decide_eq_false (show ¬ rn < 0 by omega)
  have d2 := decide_eq_false (show ¬ (d.code.n : Int) < rn by omega)
  have d4 := decide_eq_false (show ¬ (d.code.n : Int) ≤ ra by omega)
  have d1' : ¬ rn < 0 := by omega
  have d2' : ¬ (d.code.n : Int) < rn := by omega
  have d4' : ¬ (d.code.n : Int) ≤ ra := by omega
  by_cases hr0 : rc = 0
  · subst hr0
    have d3 : (rn == 0) = false := by have := e3 rfl; simpa using this
    clear e1 e2 e3 e4 HE1 ha7 hb7 B6 PB6 HF6
    go_wp2_with fail
    refine (HA.out _ (bl_alloc (bl_alloc (Below.refl _ _)))).mono ?_
    rintro e w8 ⟨rfl, hb8⟩
    have B8 := hid (bl_step (bl_alloc (bl_alloc B7.out)) hb8)
    clear hb8 HA B7
    go_wp2
    go_ret
    exact ⟨rfl, B8.out⟩
  · have d3 : (rc == 0) = false := by simpa using hr0
    clear e1 e2 e3 e4 HE1 ha7 hb7 B6 PB6 HF6
    go_wp2_with fail
    refine (HA.out _ (bl_alloc (bl_alloc (Below.refl _ _)))).mono ?_
    rintro e w8 ⟨rfl, hb8⟩
    have B8 := hid (bl_step (bl_alloc (bl_alloc B7.out)) hb8)
    clear hb8 HA B7
    go_wp2
    go_ret
    exact ⟨rfl, B8.out⟩
end Go.Proofs.Ytmceifkjmknjcaa
