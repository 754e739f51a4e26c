/- vm.Run. -/
import Derived.Test.YtmceifkjmknjcaaVTop
namespace Go.Proofs.Ytmceifkjmknjcaa
open Go.RowKit

/-- a machine at first -/
@[reducible] def machA (sh tb pk : Value) (port : Int) : Array Value := #[.int .u64 0, .bool false, .int .u64 0, .bool false, .int .u64 0, .bool false, .int .u64 0, .bool false, .int .u64 0, .bool false, .int .u64 0, .bool false, .int .u64 0, .bool false, .int .u64 0, .bool false, .int .u64 0, .bool false, .int .u64 0, .bool false, .int .u64 0, .bool false, .int .u64 0, .bool false, .int .u64 0, .bool false, .int .u64 0, .bool false, .int .u64 0, .bool false, .int .u64 0, .bool false, .int .u64 0, .bool false, .int .u64 0, .bool false, .int .u64 0, .bool false, .int .u64 0, .bool false, .int .u64 0, .bool false, .int .u64 0, .bool false, .int .u64 0, .bool false, .int .u64 0, .bool false, .int .u64 0, .bool false, .int .u64 0, .bool false, .int .u64 0, .bool false, .int .u64 0, .bool false, .int .u64 0, .bool false, .int .u64 0, .bool false, .int .u64 0, .bool false, .int .u64 0, .bool false, .int .u64 0, .bool false, .int .u64 0, .bool false, .int .u64 0, .bool false, .int .u64 0, .bool false, .int .u64 0, .bool false, .int .u64 0, .bool false, .int .u64 0, .bool false, .int .u64 0, .bool false, .int .u64 0, .bool false, .int .u64 0, .bool false, .int .u64 0, .bool false, .int .u64 0, .bool false, .int .u64 0, .bool false, .int .u64 0, .bool false, .int .u64 0, .bool false, .int .u64 0, .bool false, .int .u64 0, .bool false, .int .u64 0, .bool false, .int .u64 0, .bool false, .int .u64 0, .bool false, .int .u64 0, .bool false, .int .u64 0, .bool false, .int .u64 0, .bool false, .int .u64 0, .bool false, .int .u64 0, .bool false, .int .u64 0, .bool false, .int .u64 0, .bool false, .int .u64 0, .bool false, .int .u64 0, .bool false, .int .u64 0, .bool false, .int .u64 0, .bool false, .int .u64 0, .bool false, .int .u64 0, .bool false, .int .u64 0, .bool false, .int .u64 0, .bool false, .int .u64 0, .bool false, .int .u64 0, .bool false, .int .u64 0, .bool false, .int .u64 0, .bool false, .int .u64 0, .bool false, .int .u64 0, .bool false, .int .u64 0, .bool false, .int .u64 0, .bool false, .int .u64 0, .bool false, .int .u64 0, .bool false, .int .u64 0, .bool false, .int .u64 0, .bool false, .int .u64 0, .bool false, .int .u64 0, .bool false, .int .u64 0, .bool false, .int .u64 0, .bool false, .int .u64 0, .bool false, .int .u64 0, .bool false, .int .u64 0, .bool false, .int .u64 0, .bool false, .int .u64 0, .bool false, .int .u64 0, .bool false, .int .u64 0, .bool false, .int .u64 0, .bool false, .int .u64 0, .bool false, .int .u64 0, .bool false, .int .u64 0, .bool false, .int .u64 0, .bool false, .int .u64 0, .bool false, .int .u64 0, .bool false, .int .u64 0, .bool false, .int .u64 0, .bool false, .int .u64 0, .bool false, .int .u64 0, .bool false, .int .u64 0, .bool false, .int .u64 0, .bool false, .int .u64 0, .bool false, .int .u64 0, .bool false, .int .u64 0, .bool false, sh, tb, pk, .int .u64 port, .slice none 0 0]

theorem rep_even (a c : Value) : ∀ (n i : Nat), i < n → (List.replicate n [a, c]).flatten[i * 2]? = some a ∧ (List.replicate n [a, c]).flatten[i * 2 + 1]? = some c
  | 0, i, h => by omega
  | n + 1, 0, _ => by simp [List.replicate_succ]
  | n + 1, i + 1, h => by
    have := rep_even a c n i (by omega)
    rw [List.replicate_succ, List.flatten_cons, show (i + 1) * 2 = i * 2 + 1 + 1 by omega]
    simpa using this

set_option maxRecDepth 20000 in
theorem mach_list (sh tb pk : Value) (port : Int) : (machA sh tb pk port).toList = (List.replicate 106 [Value.int .u64 0, .bool false]).flatten ++ [sh, tb, pk, .int .u64 port, .slice none 0 0] := rfl

set_option maxRecDepth 20000 in
theorem mach_at (sh tb pk : Value) (port : Int) (i : Nat) (hi : i < 106) : (machA sh tb pk port)[i * 2]? = some (.int .u64 0) ∧ (machA sh tb pk port)[i * 2 + 1]? = some (.bool false) := by
  have hl : (List.replicate 106 [Value.int .u64 0, .bool false]).flatten.length = 212 := rfl
  have h := rep_even (.int .u64 0) (.bool false) 106 i hi
  rw [← Array.getElem?_toList, ← Array.getElem?_toList, mach_list, List.getElem?_append_left (by rw [hl]; omega), List.getElem?_append_left (by rw [hl]; omega)]
  exact h

@[reducible] def MD.zero : MD := ⟨fun _ => 0, fun _ => false, fun _ => 0, fun _ => false, []⟩

set_option maxRecDepth 20000 in
theorem mach_new (w : World) (k : MK) : MAt w w.heap.size k MD.zero (w.alloc (.cells (machA (.slice k.sh.a k.sh.n k.sh.c) (.slice k.tb.a k.tb.n k.tb.c) (.slice k.pk.a k.pk.n k.pk.c) (k.port : Int)) 48)) := by
  have hh := heap_alloc_new w (.cells (machA (.slice k.sh.a k.sh.n k.sh.c) (.slice k.tb.a k.tb.n k.tb.c) (.slice k.pk.a k.pk.n k.pk.c) (k.port : Int)) 48)
  have hc : ∀ o v, (machA (.slice k.sh.a k.sh.n k.sh.c) (.slice k.tb.a k.tb.n k.tb.c) (.slice k.pk.a k.pk.n k.pk.c) (k.port : Int))[o]? = some v → (w.alloc (.cells (machA (.slice k.sh.a k.sh.n k.sh.c) (.slice k.tb.a k.tb.n k.tb.c) (.slice k.pk.a k.pk.n k.pk.c) (k.port : Int)) 48)).cell? ⟨w.heap.size, o, none⟩ = some v := fun o v h => by
    unfold World.cell?
    dsimp only
    rw [hh]
    exact h
  refine ⟨fun i hi => hc _ _ (mach_at _ _ _ _ i (by omega)).1, fun i hi => hc _ _ (mach_at _ _ _ _ i (by omega)).2, fun i hi => ?_, fun i hi => ?_, hc _ _ rfl, hc _ _ rfl, hc _ _ rfl, hc _ _ rfl, ⟨.slice none 0 0, hc _ _ rfl, World.ownsRow_nil _ _ _ _⟩, ⟨_, hh⟩, Nat.le_refl _, bl_alloc (Below.refl _ _), ⟨fun _ => show 0 < 18446744073709551616 by decide, fun _ => show 0 < 18446744073709551616 by decide⟩, fun x hx => by cases hx⟩
  · have := hc _ _ (mach_at (.slice k.sh.a k.sh.n k.sh.c) (.slice k.tb.a k.tb.n k.tb.c) (.slice k.pk.a k.pk.n k.pk.c) (k.port : Int) (10 + i) (by omega)).1
    rw [show (10 + i) * 2 = 20 + i * 2 by omega] at this
    exact this
  · have := hc _ _ (mach_at (.slice k.sh.a k.sh.n k.sh.c) (.slice k.tb.a k.tb.n k.tb.c) (.slice k.pk.a k.pk.n k.pk.c) (k.port : Int) (10 + i) (by omega)).2
    rw [show (10 + i) * 2 + 1 = 20 + i * 2 + 1 by omega] at this
    exact this

set_option maxRecDepth 20000 in
theorem Try.zeroMach : (Try.prog.info? 48).map (fun i => i.zero) = some (some (.agg (machA (.slice none 0 0) (.slice none 0 0) (.slice none 0 0) 0))) := by kernel_rfl

theorem zero_mach (w : World) : (zeroValue 48).run Try.prog w = .ok (.agg (machA (.slice none 0 0) (.slice none 0 0) (.slice none 0 0) 0)) w := by
  have h := Try.zeroMach
  cases hi : Try.prog.info? 48 with
  | none => rw [hi] at h; cases h
  | some i =>
    rw [hi] at h
    simp only [Option.map_some, Option.some.injEq] at h
    unfold zeroValue typeInfo
    simp [hi, h]

/-- what Run tells of a program with these tables -/
def runV (k : MK) (d : ProgD) (C : MD → InsD → Int × MD) (H : Bool) (port : Int) : RunR :=
  if (startV d H k.pk.n port).1 ≠ 0 then ⟨(startV d H k.pk.n port).1, (startV d H k.pk.n port).2, 0, 0, []⟩ else runN k d.ts C d.cs d.cs.length 0 1 MD.zero

theorem RunDone.base {W W' : World} {R : RunR} {e : Ending} {w' : World} (h : RunDone W' R e w') (hb : Below W.heap.size W W') : RunDone W R e w' := by
  obtain ⟨v, e1, h1, h2⟩ := h
  exact ⟨v, e1, h1, bl_step hb h2⟩

theorem start_zero {d : ProgD} {H : Bool} {n : Nat} {port : Int} (h : (startV d H n port).1 = 0) : (chkW d.slots d.ts d.cs).1 = 0 ∧ H = true ∧ n ≤ 600 ∧ 0 ≤ port ∧ port ≤ 65535 := by
  unfold startV at h
  by_cases h1 : (chkW d.slots d.ts d.cs).1 ≠ 0
  · rw [if_pos h1] at h; exact absurd h h1
  rw [if_neg h1] at h
  by_cases h2 : H = false
  · rw [if_pos h2] at h; exact absurd h (by decide)
  rw [if_neg h2] at h
  by_cases h3 : 600 < n
  · rw [if_pos h3] at h; exact absurd h (by decide)
  rw [if_neg h3] at h
  by_cases h4 : port < 0 ∨ 65535 < port
  · rw [if_pos h4] at h; exact absurd h (by decide)
  exact ⟨by simpa using h1, by simpa using h2, by omega, by omega, by omega⟩

theorem lie_wfs {d : ProgD} {w : World} (h : d.lie w) : ∀ x ∈ d.cs, x.wf := by
  intro x hx
  obtain ⟨i, hi, rfl⟩ := List.getElem_of_mem hx
  obtain ⟨g, off, _, hp⟩ := h.c.2 i _ (List.getElem?_eq_getElem hi)
  exact hp.wf

set_option maxHeartbeats 4000000 in
set_option maxRecDepth 20000 in
theorem vRun (d : ProgD) (C : MD → InsD → Int × MD) (tb pk : QSl) (zs : List Int) (H : Bool) (port : Int) (w : World) (hl : d.lie w) (hs : d.small) (hpk : Has .u8 w pk.a pk.n zs) (hnil : pk.nil0) (hcap : pk.n ≤ pk.c) (HSH : ∀ w', Below w.heap.size w w' → Calls Try.prog 12 #[.slice tb.a tb.n tb.c, .slice d.tabs.a d.tabs.n d.tabs.c] w' (TellB H w')) (h13 : H = true → (chkW d.slots d.ts d.cs).1 = 0 → ∀ x ∈ d.cs, x.op ≠ 13) :
    Calls Try.prog 6 #[d.v, .slice tb.a tb.n tb.c, .slice pk.a pk.n pk.c, .int .i64 port] w (RunDone w (runV ⟨d.tabs, tb, pk, zs, port.toNat⟩ d C H port)) := by
  obtain ⟨W1, hW1⟩ : ∃ W1, W1 = ((w.alloc (.cells #[.int .i64 d.slots, .slice d.tabs.a d.tabs.n d.tabs.c, .slice d.code.a d.code.n d.code.c] 25)).alloc (.cells #[.int .i64 0, .slice none 0 0] 30)).alloc (.cells #[.int .i64 0, .int .i64 0] 32) := ⟨_, rfl⟩
  obtain ⟨pb, hpb⟩ : ∃ b, b = w.heap.size := ⟨_, rfl⟩
  obtain ⟨rb, hrb⟩ : ∃ b, b = w.heap.size + 1 := ⟨_, rfl⟩
  obtain ⟨fb, hfb⟩ : ∃ b, b = w.heap.size + 1 + 1 := ⟨_, rfl⟩
  have b1 : Below w.heap.size w W1 := by rw [hW1]; exact bl_alloc (bl_alloc (bl_alloc (Below.refl _ _)))
  have PB : Hid (PBox d W1 pb) := by rw [hW1, hpb]; exact (pbox_new d w).step (bl_alloc (bl_alloc (Below.refl _ _)))
  have RB : Hid (RBox rb fb W1) := by
    refine ⟨?_, ?_⟩
    · rw [hW1, hrb]
      have := heap_alloc_new (w.alloc (.cells #[.int .i64 d.slots, .slice d.tabs.a d.tabs.n d.tabs.c, .slice d.code.a d.code.n d.code.c] 25)) (.cells #[.int .i64 0, .slice none 0 0] 30)
      rw [(bl_alloc (o := .cells #[.int .i64 0, .int .i64 0] 32) (Below.refl ((w.alloc (.cells #[.int .i64 d.slots, .slice d.tabs.a d.tabs.n d.tabs.c, .slice d.code.a d.code.n d.code.c] 25)).alloc (.cells #[.int .i64 0, .slice none 0 0] 30)).heap.size _)).block (w.heap.size + 1) (by simp)]
      simpa using this
    · rw [hW1, hfb]
      have := heap_alloc_new ((w.alloc (.cells #[.int .i64 d.slots, .slice d.tabs.a d.tabs.n d.tabs.c, .slice d.code.a d.code.n d.code.c] 25)).alloc (.cells #[.int .i64 0, .slice none 0 0] 30)) (.cells #[.int .i64 0, .int .i64 0] 32)
      simpa using this
  have HST := hid (vstart d (.slice tb.a tb.n tb.c) H pk.a pk.n pk.c port W1 (hl.step b1) hs (fun w' h => HSH w' (bl_step b1 h)))
  have HNE : Hid (rb ≠ fb ∧ w.heap.size ≤ rb ∧ w.heap.size ≤ fb) := ⟨by omega, by omega, by omega⟩
  have HB := hid b1
  have HL := hid hl
  have HPK := hid hpk
  have HNIL := hid hnil
  have HCAP := hid hcap
  have H13 : Hid _ := h13
  have EW := hid hW1
  have EP := hid hpb
  have ER := hid hrb
  have EF := hid hfb
  obtain ⟨R, hR⟩ : ∃ R, R = runV ⟨d.tabs, tb, pk, zs, port.toNat⟩ d C H port := ⟨_, rfl⟩
  rw [← hR]
  have HR := hid hR
  dsimp only [ProgD.v, TellF] at HST ⊢
  obtain ⟨S, hS⟩ : ∃ S, S = startV d H pk.n port := ⟨_, rfl⟩
  rw [← hS] at HST
  have HSS := hid hS
  obtain ⟨kc, ka⟩ := S
  clear hl hs hpk hnil hcap HSH h13 hW1 hpb hrb hfb b1 hR hS
  go_enter Try.func6, Try.ntmps6
  go_upto_region 1 with fail
  rw [← EW.out, ← EF.out, ← ER.out, ← EP.out]
  clear EW EF ER EP
  obtain ⟨p0, p1, p2⟩ := PB.out
  have hpl : pb < W1.heap.size := World.block_lt_of_cell? _ _ p0
  go_wp2_with fail
  refine HST.out.mono ?_
  rintro e w2 ⟨rfl, hb2⟩
  clear HST p0 p1 p2 hpl
  obtain ⟨W3, hW3⟩ : ∃ W3, W3 = w2.alloc (.cells #[.int .i64 kc, .int .i64 ka] 32) := ⟨_, rfl⟩
  obtain ⟨qb, hqb⟩ : ∃ b, b = w2.heap.size := ⟨_, rfl⟩
  have b3 : Below W1.heap.size W1 W3 := by rw [hW3]; exact bl_alloc hb2
  have q0 : W3.cell? ⟨qb, 0, none⟩ = some (.int .i64 kc) := by rw [hW3, hqb]; simp
  have q1 : W3.cell? ⟨qb, 1, none⟩ = some (.int .i64 ka) := by rw [hW3, hqb]; simp
  have hql : qb < W3.heap.size := World.block_lt_of_cell? _ _ q0
  have RB3 := hid (RB.out.step b3)
  have HB3 := hid (bl_step HB.out b3)
  have PB3 := hid (PB.out.step b3)
  have E3 := hid hW3
  have EQ := hid hqb
  have hqr : qb ≠ rb ∧ qb ≠ fb := by
    have h1 := (Array.getElem?_eq_some_iff.1 RB.out.r).1
    have h2 := (Array.getElem?_eq_some_iff.1 RB.out.f).1
    have h3 := hb2.size
    omega
  obtain ⟨hqr1, hqr2⟩ := hqr
  clear hb2 hW3 hqb b3
  go_upto_region 2 with fail
  rw [← E3.out, ← EQ.out]
  clear E3 EQ
  by_cases hk : kc = 0
  · subst hk
    obtain ⟨hz1, hz2, hz3, hz4, hz5⟩ := start_zero (show (startV d H pk.n port).1 = 0 by rw [← HSS.out])
    obtain ⟨pt, rfl⟩ : ∃ i : Nat, port = i := ⟨port.toNat, by omega⟩
    have hr := HR.out
    unfold runV at hr
    dsimp only at hr
    rw [← HSS.out, if_neg (show ¬ (0 : Int) ≠ 0 by decide), Int.toNat_natCast] at hr
    have hl3 := HL.out.step HB3.out
    obtain ⟨hfit, -⟩ := vfit (lie_wfs hl3) hz1
    obtain ⟨W4, hW4⟩ : ∃ W4, W4 = W3.alloc (.cells (machA (.slice d.tabs.a d.tabs.n d.tabs.c) (.slice tb.a tb.n tb.c) (.slice pk.a pk.n pk.c) (pt : Int)) 48) := ⟨_, rfl⟩
    obtain ⟨mb, hmb⟩ : ∃ b, b = W3.heap.size := ⟨_, rfl⟩
    have hm4 : MAt W3 mb ⟨d.tabs, tb, pk, zs, pt⟩ MD.zero W4 := by rw [hW4, hmb]; exact mach_new W3 ⟨d.tabs, tb, pk, zs, pt⟩
    have HRN := hid (vrun d.ts C hm4 ⟨HPK.out.step HB3.out, HNIL.out, hz3, HCAP.out, by show pt < 65536; omega⟩ d.cs d.code hl3.c hfit (H13.out hz2 hz1) rfl)
    rw [← hr] at HRN
    have b4 : Below W3.heap.size W3 W4 := by rw [hW4]; exact bl_alloc (Below.refl _ _)
    have PB4 := hid (PB3.out.step b4)
    obtain ⟨p0, p1, p2⟩ := PB3.out
    have hpl : pb < W3.heap.size := World.block_lt_of_cell? _ _ p0
    have hwp := gwrap_u (pt : Int) (by omega) (by omega)
    have E4 := hid hW4
    have EM := hid hmb
    dsimp only [machA] at E4
    clear hW4 hmb hm4 hr hfit hl3 hz1 hz2 hz3 hz4 hz5 HR HSS b4 PB HPK
    have hzm := zero_mach W3
    dsimp only [machA] at hzm
    go_upto_region 5 with fail
    rw [← E4.out, ← EM.out]
    clear E4 EM p0 p1 hpl
    obtain ⟨p0, p1, p2⟩ := PB4.out
    have hpl : pb < W4.heap.size := World.block_lt_of_cell? _ _ p0
    go_wp2_with fail
    refine HRN.out.mono ?_
    rintro e w5 ⟨v, rfl, ⟨a, cc, rfl, hh, hnl, hcp⟩, hb5⟩
    have RB5 := hid (RB3.out.step hb5)
    obtain ⟨k0, k1, k2, k3, k4, k5, k6, k7, k8, k9⟩ := RB5.out.cells
    have hne := HNE.out.1
    obtain ⟨rc, ra, rn, rp, ro⟩ := R
    dsimp only at hh hnl hcp ⊢
    obtain ⟨ol, hol⟩ : ∃ ol, ol = ro.length := ⟨_, rfl⟩
    rw [← hol] at hh hcp ⊢
    have HD : Hid (RunDone w ⟨rc, ra, rn, rp, ro⟩ (.returned (.tuple #[.agg #[.int .i64 rp, .slice a ol cc], .int .i64 rn, .agg #[.int .i64 rc, .int .i64 ra]])) ((((w5.setCell ⟨rb, 0, none⟩ (.int .i64 rp)).setCell ⟨rb, 1, none⟩ (.slice a ol cc)).setCell ⟨fb, 0, none⟩ (.int .i64 rc)).setCell ⟨fb, 1, none⟩ (.int .i64 ra))) := by
      obtain ⟨hhas, hbb⟩ := run_put (port := rp) (c := rc) (i := ra) (cc := cc) RB5.out HNE.out.1 HNE.out.2.1 HNE.out.2.2 (bl_step HB3.out hb5) hh
      refine ⟨_, rfl, ⟨a, cc, ?_, ?_, hnl, ?_⟩, hbb⟩
      · rw [← hol]
      · rw [← hol]; exact hhas
      · rw [← hol]; exact hcp
    clear hh hnl hcp hb5 hol RB5 HRN p0 p1 p2 hpl
    go_wp2
    exact bodyPost_ret (v := .tuple #[.agg #[.int .i64 rp, .slice a ol cc], .int .i64 rn, .agg #[.int .i64 rc, .int .i64 ra]]) (by simp [results, Try.results6, go_sem, *]) rfl HD.out
  · have hkb : (kc != 0) = true := by simpa using hk
    obtain ⟨k0, k1, k2, k3, k4, k5, k6, k7, k8, k9⟩ := RB3.out.cells
    have hne := HNE.out.1
    have HD : Hid (RunDone w R (.returned (.tuple #[.agg #[.int .i64 0, .slice none 0 0], .int .i64 0, .agg #[.int .i64 kc, .int .i64 ka]])) ((((W3.setCell ⟨rb, 0, none⟩ (.int .i64 0)).setCell ⟨rb, 1, none⟩ (.slice none 0 0)).setCell ⟨fb, 0, none⟩ (.int .i64 kc)).setCell ⟨fb, 1, none⟩ (.int .i64 ka)).drew) := by
      obtain ⟨_, hbb⟩ := run_put (port := 0) (c := kc) (i := ka) (cc := 0) RB3.out HNE.out.1 HNE.out.2.1 HNE.out.2.2 HB3.out (has_nil .u8 W3)
      have hr := HR.out
      unfold runV at hr
      dsimp only at hr
      rw [← HSS.out, if_pos hk] at hr
      rw [hr]
      exact ⟨_, rfl, ⟨none, 0, rfl, has_nil _ _, fun _ => ⟨rfl, rfl⟩, Nat.le_refl _⟩, hbb.drew⟩
    clear HR HSS
    go_wp2_with fail
    go_region_law (fail)
    all_goals
      go_wp2
      exact bodyPost_ret (v := .tuple #[.agg #[.int .i64 0, .slice none 0 0], .int .i64 0, .agg #[.int .i64 kc, .int .i64 ka]]) (by simp [results, Try.results6, go_sem, *]) rfl HD.out
end Go.Proofs.Ytmceifkjmknjcaa
