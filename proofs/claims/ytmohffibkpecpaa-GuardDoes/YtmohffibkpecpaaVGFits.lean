/- What an instruction's numbers may be in a program: word.callFits, fits, wrongInstruction. -/
import Derived.Test.YtmohffibkpecpaaVGBare
namespace Go.Proofs.Ytmohffibkpecpaa
open Go.RowKit

/-- a program in a box -/
structure PBox (d : ProgD) (w : World) (b : Nat) : Prop where
  c0 : w.cell? ⟨b, 0, none⟩ = some (.int .i64 d.slots)
  c1 : w.cell? ⟨b, 1, none⟩ = some (.slice d.tabs.a d.tabs.n d.tabs.c)
  c2 : w.cell? ⟨b, 2, none⟩ = some (.slice d.code.a d.code.n d.code.c)
theorem PBox.step {d : ProgD} {w w' : World} {b : Nat} (h : PBox d w b) (k : Below w.heap.size w w') : PBox d w' b := ⟨cell_keep h.c0 k, cell_keep h.c1 k, cell_keep h.c2 k⟩
theorem pbox_new (d : ProgD) (w : World) : PBox d (w.alloc (.cells #[.int .i64 d.slots, .slice d.tabs.a d.tabs.n d.tabs.c, .slice d.code.a d.code.n d.code.c] 25)) w.heap.size := ⟨by simp, by simp, by simp⟩

/-- an instruction in a box -/
structure IBox (x : InsD) (w : World) (b : Nat) : Prop where
  c0 : w.cell? ⟨b, 0, none⟩ = some (.int .i64 x.op)
  c1 : w.cell? ⟨b, 1, none⟩ = some (.int .i64 x.r)
  c2 : w.cell? ⟨b, 2, none⟩ = some (.int .i64 x.s)
  c3 : w.cell? ⟨b, 3, none⟩ = some (.int .i64 x.k)
  c4 : w.cell? ⟨b, 4, none⟩ = some (.int .i64 x.to)
  c5 : w.cell? ⟨b, 5, none⟩ = some (.int .u64 x.n)
theorem IBox.step {x : InsD} {w w' : World} {b : Nat} (h : IBox x w b) (k : Below w.heap.size w w') : IBox x w' b := ⟨cell_keep h.c0 k, cell_keep h.c1 k, cell_keep h.c2 k, cell_keep h.c3 k, cell_keep h.c4 k, cell_keep h.c5 k⟩
theorem ibox_new (x : InsD) (w : World) : IBox x (w.alloc (.cells #[.int .i64 x.op, .int .i64 x.r, .int .i64 x.s, .int .i64 x.k, .int .i64 x.to, .int .u64 x.n] 35)) w.heap.size := ⟨by simp, by simp, by simp, by simp, by simp, by simp⟩

theorem gwrap_i (n : Int) (h0 : -9223372036854775808 ≤ n) (h : n < 9223372036854775808) : IntKind.i64.wrap n = n := by
  simp [IntKind.wrap, IntKind.bits, IntKind.signed]; omega
theorem gwrap_u (n : Int) (h0 : 0 ≤ n) (h : n < 18446744073709551616) : IntKind.u64.wrap n = n := by
  simp [IntKind.wrap, IntKind.bits, IntKind.signed]; omega

/-- sizes that are right -/
def OkSz (d : ProgD) : Prop := 0 ≤ d.slots ∧ d.slots ≤ 96 ∧ d.tabs.n ≤ 5 ∧ 1 ≤ d.code.n ∧ d.code.n ≤ 60000 ∧ ∀ t ∈ d.ts, 1 ≤ t.keys ∧ t.keys ≤ 3 ∧ 0 ≤ t.args ∧ t.args ≤ 3

set_option maxHeartbeats 2000000 in
set_option maxRecDepth 20000 in
theorem gcallFits (d : ProgD) (x : InsD) (w : World) (hl : d.lie w) (hs : OkSz d) (hx : x.wf) : Calls Try.prog 46 #[d.v, x.v] w (TellB (callB d.slots d.ts x) w) := by
  obtain ⟨slots, tabs, ts, code, cs⟩ := d
  obtain ⟨op, r, s, k, to, n⟩ := x
  obtain ⟨hs1, hs2, hs3, hs4, hs5, hs6⟩ := hs
  dsimp only at hs1 hs2 hs3 hs4 hs5 hs6
  have hn0 := bounds_u64 hx.2.2.2.2.2
  dsimp only at hn0
  obtain ⟨i, hi⟩ : ∃ i : Nat, n = (i : Int) := ⟨n.toNat, by omega⟩
  subst hi
  have HW := hid (fun n a b w => gwithin n a b w)
  have hT := hl.t
  have hL : ts.length = tabs.n := hT.1
  have hu : IntKind.u64.wrap (tabs.n : Int) = (tabs.n : Int) := gwrap_u _ (by omega) (by omega)
  have b2 : Below w.heap.size w ((w.alloc (.cells #[.int .i64 slots, .slice tabs.a tabs.n tabs.c, .slice code.a code.n code.c] 25)).alloc (.cells #[.int .i64 op, .int .i64 r, .int .i64 s, .int .i64 k, .int .i64 to, .int .u64 (i : Int)] 35)) := bl_alloc (bl_alloc (Below.refl _ _))
  unfold callB
  rw [Int.toNat_natCast]
  dsimp only [ProgD.v, InsD.v]
  by_cases hlt : i < tabs.n
  · obtain ⟨g, off, t, ha, ht, h0, h1, h2⟩ := grow_at hT hlt
    dsimp only at ha
    rw [ht]
    dsimp only
    obtain ⟨ta, tn, tc⟩ := tabs
    dsimp only at ha hlt hT hL hu b2 ⊢
    subst ha
    have hli : ¬ (tn : Int) ≤ (i : Int) := by omega
    have hli2 : (i : Int) < (tn : Int) := by omega
    have c0 := cell_keep h0.1 b2
    have c1 := cell_keep h1.1 b2
    have c2 := cell_keep h2.1 b2
    have hk := hs6 t (List.mem_of_getElem? ht)
    obtain ⟨tk, ta, tg⟩ := t
    dsimp only at c0 c1 c2 hk ⊢
    have hw1 := gwrap_i (slots - tk) (by omega) (by omega)
    have hw2 := gwrap_i (slots - tg) (by omega) (by omega)
    have HT : Hid (∀ w', Below w.heap.size w w' → TellB (inB s 0 (slots - tk) && inB k 0 (slots - tg)) w (.returned (.bool (inB s 0 (slots - tk) && inB k 0 (slots - tg)))) w') := fun w' h => ⟨rfl, h⟩
    have HB := hid b2
    clear hT hL hl hx hs1 hs2 hs3 hs4 hs5 hs6 hn0 ht h0 h1 h2 b2 hk
    generalize hA : inB s 0 (slots - tk) = A at *
    have EA := hid hA
    clear hA
    cases A
    · rw [Bool.false_and] at HT ⊢
      go_enter Try.func46, Try.ntmps46
      go_wp2_with fail
      refine (HW.out _ _ _ _).mono ?_
      rintro e w1 ⟨rfl, rfl⟩
      rw [EA.out]
      go_wp2
      go_ret
      exact HT.out _ (bl_alloc HB.out)
    · rw [Bool.true_and] at HT ⊢
      go_enter Try.func46, Try.ntmps46
      go_wp2_with fail
      refine (HW.out _ _ _ _).mono ?_
      rintro e w1 ⟨rfl, rfl⟩
      rw [EA.out]
      go_wp2_with fail
      refine (HW.out _ _ _ _).mono ?_
      rintro e w1 ⟨rfl, rfl⟩
      go_wp2
      go_ret
      exact HT.out _ (bl_alloc HB.out)
  · have hge : (tabs.n : Int) ≤ (i : Int) := by omega
    rw [List.getElem?_eq_none (by omega)]
    dsimp only
    have HB := hid b2
    clear hT hL hl hx hs1 hs2 hs3 hs4 hs5 hs6 hn0 b2 hlt
    go_enter Try.func46, Try.ntmps46
    go_wp2
    go_ret
    exact ⟨rfl, HB.out⟩

set_option maxHeartbeats 4000000 in
set_option maxRecDepth 20000 in
theorem gfits (d : ProgD) (x : InsD) (w : World) (hl : d.lie w) (hs : OkSz d) (hx : x.wf) : Calls Try.prog 33 #[d.v, x.v] w (TellB (fitsB d.slots d.ts x) w) := by
  have HW := hid (fun n a b w => gwithin n a b w)
  have HC : Hid (∀ w', Below w.heap.size w w' → Calls Try.prog 46 #[d.v, x.v] w' (TellB (callB d.slots d.ts x) w')) := fun w' h => gcallFits d x w' (hl.step h) hs hx
  obtain ⟨slots, tabs, ts, code, cs⟩ := d
  obtain ⟨op, r, s, k, to, n⟩ := x
  obtain ⟨hs1, hs2, -⟩ := hs
  dsimp only [ProgD.v, InsD.v] at hs1 hs2 HC ⊢
  have hu : IntKind.u64.wrap slots = slots := gwrap_u _ (by omega) (by omega)
  have HB : Hid (Below w.heap.size w ((w.alloc (.cells #[.int .i64 slots, .slice tabs.a tabs.n tabs.c, .slice code.a code.n code.c] 25)).alloc (.cells #[.int .i64 op, .int .i64 r, .int .i64 s, .int .i64 k, .int .i64 to, .int .u64 n] 35))) := bl_alloc (bl_alloc (Below.refl _ _))
  have HT : Hid (∀ b w', b = fitsB slots ts ⟨op, r, s, k, to, n⟩ → Below w.heap.size w w' → TellB (fitsB slots ts ⟨op, r, s, k, to, n⟩) w (.returned (.bool b)) w') := fun b w' e h => ⟨by rw [e], h⟩
  clear hl hx hs1 hs2
  by_cases q3 : op = 3
  · subst q3
    clear HC
    go_enter Try.func33, Try.ntmps33
    go_wp2_with fail
    refine (HW.out _ _ _ _).mono ?_
    rintro e w1 ⟨rfl, rfl⟩
    go_wp2
    go_ret
    exact HT.out _ _ rfl HB.out
  have d3 : (op == 3) = false := by simpa using q3
  by_cases q6 : op = 6
  · subst q6
    clear HC
    have e6 : fitsB slots ts ⟨6, r, s, k, to, n⟩ = (inB k 1 8 && decide (n ≤ 600)) := rfl
    rw [e6] at HT ⊢
    generalize hA : inB k 1 8 = A at *
    have EA := hid hA
    clear hA e6 d3 q3
    cases A
    · go_enter Try.func33, Try.ntmps33
      go_wp2_with fail
      refine (HW.out _ _ _ _).mono ?_
      rintro e w1 ⟨rfl, rfl⟩
      rw [EA.out]
      go_wp2
      go_ret
      exact HT.out _ _ rfl HB.out
    · go_enter Try.func33, Try.ntmps33
      go_wp2_with fail
      refine (HW.out _ _ _ _).mono ?_
      rintro e w1 ⟨rfl, rfl⟩
      rw [EA.out]
      go_wp2
      go_ret
      exact HT.out _ _ (by rw [Bool.true_and]) HB.out
  have d6 : (op == 6) = false := by simpa using q6
  by_cases q14 : op = 14
  · subst q14
    clear HC
    go_enter Try.func33, Try.ntmps33
    go_wp2_with fail
    refine (HW.out _ _ _ _).mono ?_
    rintro e w1 ⟨rfl, rfl⟩
    go_wp2
    go_ret
    exact HT.out _ _ rfl HB.out
  have d14 : (op == 14) = false := by simpa using q14
  by_cases q9 : op = 9
  · subst q9
    clear HC HW
    go_enter Try.func33, Try.ntmps33
    go_wp2
    go_ret
    exact HT.out _ _ rfl HB.out
  have d9 : (op == 9) = false := by simpa using q9
  by_cases q7 : op = 7
  · subst q7
    clear HC HW
    go_enter Try.func33, Try.ntmps33
    go_wp2
    go_ret
    exact HT.out _ _ rfl HB.out
  have d7 : (op == 7) = false := by simpa using q7
  by_cases q8 : op = 8
  · subst q8
    clear HC HW
    go_enter Try.func33, Try.ntmps33
    go_wp2
    go_ret
    exact HT.out _ _ rfl HB.out
  have d8 : (op == 8) = false := by simpa using q8
  by_cases q13 : op = 13
  · subst q13
    clear HW
    go_enter Try.func33, Try.ntmps33
    go_wp2_with fail
    refine (HC.out _ HB.out).mono ?_
    rintro e w1 ⟨rfl, b1⟩
    have HB1 := hid (bl_step HB.out b1)
    clear b1 HB HC
    go_wp2
    go_ret
    exact HT.out _ _ rfl HB1.out
  have d13 : (op == 13) = false := by simpa using q13
  have e0 : fitsB slots ts ⟨op, r, s, k, to, n⟩ = true := by
    unfold fitsB
    dsimp only
    rw [if_neg q3, if_neg q6, if_neg q14, if_neg q9, if_neg (by omega), if_neg q13]
  have E0 := hid e0.symm
  clear HC HW q3 q6 q14 q9 q7 q8 q13 e0
  go_enter Try.func33, Try.ntmps33
  go_wp2
  go_ret
  exact HT.out _ _ E0.out HB.out

theorem land8 (op : Int) : (bits .and .i64 (fieldsN op) 8 != 0) = hasT op := by
  unfold hasT
  rcases field_ways op with h | h | h | h | h | h | h | h | h | h <;> rw [h] <;> rfl

set_option maxHeartbeats 4000000 in
set_option maxRecDepth 20000 in
theorem gwrongIns (d : ProgD) (i : Nat) (w : World) (hl : d.lie w) (hs : OkSz d) (hi : i < d.code.n) (x : InsD) (hx : d.cs[i]? = some x) : Calls Try.prog 19 #[d.v, .int .i64 (i : Int)] w fun e w' => e = .returned (.int .i64 (insN d.slots d.ts d.code.n i x)) ∧ Below w.heap.size w w' := by
  obtain ⟨g, off, y, ha, hy, h0, h1, h2, h3, h4, h5⟩ := grow_at hl.c hi
  rw [hx] at hy
  obtain rfl := Option.some.inj hy
  have hxw : x.wf := ⟨h0.2, h1.2, h2.2, h3.2, h4.2, h5.2⟩
  have HF : Hid (∀ w', Below w.heap.size w w' → Calls Try.prog 32 #[x.v] w' (TellB (formB x) w')) := fun w' _ => gform x w'
  have HI : Hid (∀ w', Below w.heap.size w w' → Calls Try.prog 33 #[d.v, x.v] w' (TellB (fitsB d.slots d.ts x) w')) := fun w' h => gfits d x w' (hl.step h) hs hxw
  have HN := hid (fun n w => gfields n w)
  have hin : (i : Int) < (d.code.n : Int) := by omega
  have hc6 := hs.2.2.2.2.1
  have hw1 := gwrap_i ((d.code.n : Int) - 1) (by omega) (by omega)
  have hw2 := gwrap_i ((d.code.n : Int) - 1 - (i : Int)) (by omega) (by omega)
  have b1 : Below w.heap.size w (w.alloc (.cells #[.int .i64 d.slots, .slice d.tabs.a d.tabs.n d.tabs.c, .slice d.code.a d.code.n d.code.c] 25)) := bl_alloc (Below.refl _ _)
  have b2 : Below w.heap.size w ((w.alloc (.cells #[.int .i64 d.slots, .slice d.tabs.a d.tabs.n d.tabs.c, .slice d.code.a d.code.n d.code.c] 25)).alloc (.cells #[.int .i64 x.op, .int .i64 x.r, .int .i64 x.s, .int .i64 x.k, .int .i64 x.to, .int .u64 x.n] 35)) := bl_alloc b1
  obtain ⟨W2, hW2⟩ : ∃ W2, W2 = ((w.alloc (.cells #[.int .i64 d.slots, .slice d.tabs.a d.tabs.n d.tabs.c, .slice d.code.a d.code.n d.code.c] 25)).alloc (.cells #[.int .i64 x.op, .int .i64 x.r, .int .i64 x.s, .int .i64 x.k, .int .i64 x.to, .int .u64 x.n] 35)) := ⟨_, rfl⟩
  obtain ⟨pb, hpb⟩ : ∃ b, b = w.heap.size := ⟨_, rfl⟩
  obtain ⟨ib, hib⟩ : ∃ b, b = w.heap.size + 1 := ⟨_, rfl⟩
  have PB : Hid (PBox d W2 pb) := by rw [hW2, hpb]; exact (pbox_new d w).step (bl_alloc (Below.refl _ _))
  have IB : Hid (IBox x W2 ib) := by
    show IBox x W2 ib
    rw [hW2, hib]
    have := ibox_new x (w.alloc (.cells #[.int .i64 d.slots, .slice d.tabs.a d.tabs.n d.tabs.c, .slice d.code.a d.code.n d.code.c] 25))
    simpa using this
  have e0 := cell_keep h0.1 b1
  have e1 := cell_keep h1.1 b1
  have e2 := cell_keep h2.1 b1
  have e3 := cell_keep h3.1 b1
  have e4 := cell_keep h4.1 b1
  have e5 := cell_keep h5.1 b1
  rw [← hW2] at b2
  have HB := hid b2
  have EW := hid hW2
  have EP := hid hpb
  have EI := hid hib
  have HT : Hid (∀ c w', c = insN d.slots d.ts d.code.n i x → Below w.heap.size w w' → Ending.returned (.int .i64 c) = .returned (.int .i64 (insN d.slots d.ts d.code.n i x)) ∧ Below w.heap.size w w') := fun c w' e h => ⟨by rw [e], h⟩
  obtain ⟨F, hF⟩ : ∃ F, formB x = F := ⟨_, rfl⟩
  obtain ⟨G, hG⟩ : ∃ G, fitsB d.slots d.ts x = G := ⟨_, rfl⟩
  have EN : Hid (insN d.slots d.ts d.code.n i x = if (F && G) = false then 4 else if (hasT x.op && decide ((d.code.n : Int) - 1 - i ≤ x.to)) = true then 17 else 0) := by
    show _ = _
    unfold insN
    rw [hF, hG]
  rw [hF] at HF
  rw [hG] at HI
  have HT8 := hid (land8 x.op)
  obtain ⟨xop, xr, xs, xk, xto, xn⟩ := x
  dsimp only [ProgD.v, InsD.v] at *
  obtain ⟨cn, hcn⟩ : ∃ n, n = d.code.n := ⟨_, rfl⟩
  obtain ⟨cc, hcc⟩ : ∃ n, n = d.code.c := ⟨_, rfl⟩
  have PC : Hid (∀ w', PBox d w' pb → w'.cell? ⟨pb, 0, none⟩ = some (.int .i64 d.slots) ∧ w'.cell? ⟨pb, 1, none⟩ = some (.slice d.tabs.a d.tabs.n d.tabs.c) ∧ w'.cell? ⟨pb, 2, none⟩ = some (.slice (some ⟨g, off, none⟩) d.code.n d.code.c)) := fun w' h => ⟨h.c0, h.c1, by rw [← ha]; exact h.c2⟩
  rw [ha] at *
  clear ha h0 h1 h2 h3 h4 h5 hy hl hs hi hx hxw b1 b2 hW2 hpb hib hF hG hcn hcc hc6
  clear cn cc
  cases F with
  | false =>
    rw [Bool.false_and, if_pos rfl] at EN
    go_enter Try.func19, Try.ntmps19
    go_wp2_with fail
    rw [← EW.out]
    refine (HF.out _ HB.out).mono ?_
    rintro e w3 ⟨rfl, b3⟩
    have HB3 := hid (bl_step HB.out b3)
    clear b3
    go_wp2
    go_ret
    exact HT.out _ _ EN.out.symm HB3.out
  | true =>
    rw [Bool.true_and] at EN
    go_enter Try.func19, Try.ntmps19
    go_wp2_with fail
    rw [← EW.out, ← EI.out, ← EP.out]
    refine (HF.out _ HB.out).mono ?_
    rintro e w3 ⟨rfl, b3⟩
    obtain ⟨p0, p1, p2⟩ := PC.out _ (PB.out.step b3)
    obtain ⟨i0, i1, i2, i3, i4, i5⟩ := IB.out.step b3
    have HB3 := hid (bl_step HB.out b3)
    have PB3 := hid (PB.out.step b3)
    have IB3 := hid (IB.out.step b3)
    clear b3 EW EP EI e0 e1 e2 e3 e4 e5 HF PB IB HB
    go_wp2_with fail
    refine (HI.out _ HB3.out).mono ?_
    rintro e w4 ⟨rfl, b4⟩
    obtain ⟨p0, p1, p2⟩ := PC.out _ (PB3.out.step b4)
    obtain ⟨i0, i1, i2, i3, i4, i5⟩ := IB3.out.step b4
    have HB4 := hid (bl_step HB3.out b4)
    clear b4 PB3 IB3 HI HB3
    cases G with
    | false =>
      rw [if_pos rfl] at EN
      go_wp2
      go_ret
      exact HT.out _ _ EN.out.symm HB4.out
    | true =>
      rw [if_neg (by decide)] at EN
      go_wp2_with fail
      refine (HN.out _ _).mono ?_
      rintro e w5 ⟨rfl, rfl⟩
      have k8 := HT8.out
      generalize hasT xop = Z at *
      cases Z with
      | false =>
        rw [Bool.false_and, if_neg (by decide)] at EN
        go_wp2
        go_ret
        exact HT.out _ _ EN.out.symm HB4.out
      | true =>
        rw [Bool.true_and] at EN
        by_cases hj : (d.code.n : Int) - 1 - (i : Int) ≤ xto
        · rw [if_pos (by simpa using hj)] at EN
          go_wp2
          go_ret
          exact HT.out _ _ EN.out.symm HB4.out
        · rw [if_neg (by simpa using hj)] at EN
          go_wp2
          go_ret
          exact HT.out _ _ EN.out.symm HB4.out
end Go.Proofs.Ytmohffibkpecpaa
