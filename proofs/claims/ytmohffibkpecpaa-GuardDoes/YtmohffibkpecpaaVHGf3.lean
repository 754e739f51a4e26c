/- The document's GuardFault, of a right program. -/
import Derived.Test.YtmohffibkpecpaaJG
import Derived.Test.YtmohffibkpecpaaVGRefA
import Derived.Test.YtmohffibkpecpaaJ1
import Derived.Deep.DeepCutAuto
import Derived.Deep.LoopGhost
import Derived.Deep.RegionHeld3
namespace Go.Proofs.Ytmohffibkpecpaa
open Go.RowKit

theorem info_knows : (Try.prog.info? 54).map (fun i => (i.zero, i.size, i.bytes)) = some (some (.agg zeroK), 6, 128) := by kernel_rfl
theorem made_knows (w : World) (m : Nat) : ∀ j f v, j < m → zeroK[f]? = some v → (w.alloc (.cells (madeCells zeroK (m * 6)) 54)).cell? ⟨w.heap.size, j * 6 + f, none⟩ = some v := fun j f v hj hv => by
  have h := boxc_new (w := w) (madeCells zeroK (m * 6)) 54 _ rfl
  have hf : f < 6 := by have := (Array.getElem?_eq_some_iff.1 hv).1; simpa using this
  have hm := made_at [.bool false, .slice none 0 0, .slice none 0 0, .slice none 0 0, .slice none 0 0, .slice none 0 0] 6 m j f rfl hj hf
  rw [h.cell]
  refine Eq.trans hm ?_
  rw [← hv]
  exact List.getElem?_toArray.symm
theorem rfields_g (op : Int) (w : World) : Calls Try.prog 16 #[.int .i64 op] w fun e w' => ∃ b0 b1 b2 b4 ok, e = .returned (.tuple #[.agg #[.bool b0, .bool b1, .bool b2, .bool (hasT op), .bool b4], .bool ok]) ∧ Below w.heap.size w w' :=
  (rfields op w).mono fun _ _ h => ⟨_, _, _, _, _, h.1, h.2⟩

theorem bhD_T {ts : List ShapeD} {s : SD} {x : InsD} (h : hasT x.op = true) : bhD ts s x = s := by
  have ho : x.op = 9 ∨ x.op = 10 ∨ x.op = 11 ∨ x.op = 12 := by
    unfold hasT fieldsN at h
    repeat' split at h
    all_goals first
      | omega
      | exact absurd h (by decide)
  unfold bhD behindD
  split
  · rfl
  · rw [if_neg (by omega), if_neg (by omega), if_neg (by omega), if_neg (by omega), if_neg (by omega), if_neg (by omega)]
theorem bh_same {ts : List ShapeD} {s : SD} {x : InsD} {r nn : Nat} (hr : x.r = r) (hn : x.n = nn) (h : (decide (x.op = 9) && decide (roomZ ((bhD ts s x).reg r).room < (nn : Int))) = false) : bhD ts s x = behindD ts s x := by
  by_cases h9 : x.op = 9
  · have hb : bhD ts s x = s := by unfold bhD; rw [if_pos h9]
    rw [decide_eq_true h9, Bool.true_and, hb] at h
    have hh : (s.reg r).has nn = true := by
      cases e : (s.reg r).has nn
      · have := (has_lt (s.reg r) nn).1 e
        rw [decide_eq_true this] at h
        cases h
      · rfl
    rw [hb]
    unfold behindD
    rw [if_neg (by omega), if_neg (by omega), if_neg (by omega), if_neg (by omega), if_neg (by omega), if_neg (by omega), if_pos h9, hr, hn, Int.toNat_natCast, Int.toNat_natCast]
    unfold RD.more
    rw [if_pos hh]
    have hf : (fun j => if j = r then s.reg r else s.reg j) = s.reg := by
      funext j
      split
      · rename_i e; rw [e]
      · rfl
    show s = ⟨fun j => if j = r then s.reg r else s.reg j, s.slot⟩
    rw [hf]
  · unfold bhD
    rw [if_neg h9]
theorem bh_more {ts : List ShapeD} {s : SD} {x : InsD} {r nn : Nat} (hr : x.r = r) (hn : x.n = nn) (h : (decide (x.op = 9) && decide (roomZ ((bhD ts s x).reg r).room < (nn : Int))) = true) : x.op = 9 ∧ bhD ts s x = s ∧ behindD ts s x = s.setR r ⟨(s.reg r).set, (s.reg r).just, some nn⟩ := by
  simp only [Bool.and_eq_true, decide_eq_true_eq] at h
  obtain ⟨h9, h⟩ := h
  have hb : bhD ts s x = s := by unfold bhD; rw [if_pos h9]
  rw [hb] at h
  have hh := (has_lt (s.reg r) nn).2 h
  refine ⟨h9, hb, ?_⟩
  unfold behindD
  rw [if_neg (by omega), if_neg (by omega), if_neg (by omega), if_neg (by omega), if_neg (by omega), if_neg (by omega), if_pos h9, hr, hn, Int.toNat_natCast, Int.toNat_natCast]
  unfold RD.more
  rw [if_neg (by rw [hh]; decide)]
theorem over_goes {ts : List ShapeD} {s : SD} {x : InsD} {A : Nat → Option SD} {i : Nat} (hg : goesD x = true) : overA ts A i x s = putA (if hasT x.op = true then putA A (i + 1 + x.to.toNat) (joinO (A (i + 1 + x.to.toNat)) (bhD ts s x)) else A) (i + 1) (joinO ((if hasT x.op = true then putA A (i + 1 + x.to.toNat) (joinO (A (i + 1 + x.to.toNat)) (bhD ts s x)) else A) (i + 1)) (behindD ts s x)) := by
  unfold overA
  dsimp only
  rw [if_pos hg]
  by_cases hT : hasT x.op = true
  · rw [bhD_T hT]
  · rw [if_neg hT, if_neg hT]
theorem over_stays {ts : List ShapeD} {s : SD} {x : InsD} {A : Nat → Option SD} {i : Nat} (hg : ¬ goesD x = true) : overA ts A i x s = if hasT x.op = true then putA A (i + 1 + x.to.toNat) (joinO (A (i + 1 + x.to.toNat)) (bhD ts s x)) else A := by
  unfold overA
  dsimp only
  rw [if_neg hg]
  by_cases hT : hasT x.op = true
  · rw [bhD_T hT]
  · rw [if_neg hT, if_neg hT]

/-- behind an instruction: the row, the instruction, k -/
structure MidAt (w : World) (d : ProgD) (S n ab pb fb i : Nat) (A : Nat → Option SD) (X : Nat → Prop) (lo9 hi9 xb kb : Nat) (x : InsD) (q : KV) (W : World) : Prop where
  g : GfAt w d S n ab pb fb (i + 1) A X W
  x : BoxC W xb #[.int .i64 x.op, .int .i64 x.r, .int .i64 x.s, .int .i64 x.k, .int .i64 x.to, .int .u64 x.n] 35
  k : BoxC W kb (kvA true q) 54
  ne : ¬ ab = kb
  l9 : w.heap.size ≤ lo9
  hi : hi9 ≤ W.heap.size
theorem MidAt.step {w : World} {d : ProgD} {S n ab pb fb i : Nat} {A : Nat → Option SD} {X : Nat → Prop} {lo9 hi9 xb kb : Nat} {x : InsD} {q : KV} {W W' : World} (h : MidAt w d S n ab pb fb i A X lo9 hi9 xb kb x q W) (b : Below W.heap.size W W') : MidAt w d S n ab pb fb i A X lo9 hi9 xb kb x q W' := ⟨h.g.step b, h.x.step b, h.k.step b, h.ne, h.l9, Nat.le_trans h.hi b.size⟩
theorem MidAt.put {w : World} {d : ProgD} {S n ab pb fb i : Nat} {A : Nat → Option SD} {X : Nat → Prop} {lo9 hi9 xb kb : Nat} {x : InsD} {q : KV} {W : World} (h : MidAt w d S n ab pb fb i A X lo9 hi9 xb kb x q W) {j : Nat} (h1 : i + 1 ≤ j) (h2 : j ≤ n) {q' : KV} {s : SD} {N : Nat → Nat} (hk : KOwn 0 S q' s N W) (ok : s.ok) (hx : ∀ g, KBlk q' g → ¬ X g) :
    MidAt w d S n ab pb fb i (putA A j s) X lo9 hi9 xb kb x q (set6 W ab (j * 6) (.bool true) (.slice q'.st.a q'.st.n q'.st.c) (.slice q'.ju.a q'.ju.n q'.ju.c) (.slice q'.nu.a q'.nu.n q'.nu.c) (.slice q'.ro.a q'.ro.n q'.ro.c) (.slice q'.sl.a q'.sl.n q'.sl.c)) := by
  obtain ⟨cs, hrow⟩ := h.g.g.row
  exact ⟨h.g.put h1 h2 hk ok hx, set6_far h.x (box_ne hrow h.x (by decide)), set6_far h.k h.ne, h.ne, h.l9, by rw [set6_size]; exact h.hi⟩

/-- k has more room -/
theorem mid_room {w : World} {d : ProgD} {S n ab pb fb i : Nat} {A : Nat → Option SD} {lo9 hi9 xb kb : Nat} {x : InsD} {q : KV} {W : World} {s : SD} {N : Nat → Nat} (h : MidAt w d S n ab pb fb i A (fun g => lo9 ≤ g ∧ g < hi9) lo9 hi9 xb kb x q W) (ho : KOwn lo9 S q s N W) {g1 g2 g3 g4 : Nat} (ka : KAt q lo9 g1 g2 g3 g4) {r nn : Nat} (hr : r < 10) (hX : lo9 ≤ g4 ∧ g4 < hi9) :
    MidAt w d S n ab pb fb i A (fun g => lo9 ≤ g ∧ g < hi9) lo9 hi9 xb kb x q (W.setCell ⟨g4, r, none⟩ (.int .i64 (nn : Int))) ∧ KOwn lo9 S q (s.setR r ⟨(s.reg r).set, (s.reg r).just, some nn⟩) N (W.setCell ⟨g4, r, none⟩ (.int .i64 (nn : Int))) := by
  obtain ⟨g, e, _, cur, hh⟩ := ho.1.ro.block (by omega)
  rw [ka.e4] at e
  cases e
  have hb : BoxC W g4 cur 3 := hh
  refine ⟨⟨h.g.far hX hb (by decide) (by decide) (by decide) (Nat.le_trans h.l9 hX.1) _ _, h.x.far (box_ne hb h.x (by decide)) _ _, h.k.far (box_ne hb h.k (by decide)) _ _, h.ne, h.l9, by rw [World.size_setCell]; exact h.hi⟩, (ho.1.putZ ka.e4 hr nn).congr (fun j => ?_) (fun j => ?_) (fun j => ?_) (fun _ => rfl), fun j hj => ?_⟩
  · show (s.reg j).set = (if j = r then (⟨(s.reg r).set, (s.reg r).just, some nn⟩ : RD) else s.reg j).set
    split
    · rename_i e; rw [e]
    · rfl
  · show (s.reg j).just.isSome = (if j = r then (⟨(s.reg r).set, (s.reg r).just, some nn⟩ : RD) else s.reg j).just.isSome
    split
    · rename_i e; rw [e]
    · rfl
  · show (if j = r then (nn : Int) else roomZ (s.reg j).room) = roomZ (if j = r then (⟨(s.reg r).set, (s.reg r).just, some nn⟩ : RD) else s.reg j).room
    split <;> rfl
  · show N j < _ ∧ ∀ m, (if j = r then (⟨(s.reg r).set, (s.reg r).just, some nn⟩ : RD) else s.reg j).just = some m → N j = m
    have := ho.2 j hj
    refine ⟨this.1, fun m hm => this.2 m ?_⟩
    split at hm
    · rename_i e; rw [e]; exact hm
    · exact hm

set_option maxHeartbeats 32000000 in
set_option maxRecDepth 20000 in
theorem rguard_good (d : ProgD) (w : World) (hl : d.lie w) (hrf : ∀ w', Below w.heap.size w w' → Calls Try.prog 12 #[d.v] w' (TellF (chkW d.slots d.ts d.cs) w')) (hc : (chkW d.slots d.ts d.cs).1 = 0) : Calls Try.prog 8 #[d.v] w (TellF (guardG d.ts d.cs 0 startA) w) := by
  obtain ⟨W2, hW⟩ : ∃ W2, W2 = ((w.alloc (.cells #[.int .i64 d.slots, .slice d.tabs.a d.tabs.n d.tabs.c, .slice d.code.a d.code.n d.code.c] 25)).alloc (.cells #[.int .i64 0, .int .i64 0] 30)) := ⟨_, rfl⟩
  obtain ⟨pb, es⟩ : ∃ s, s = w.heap.size := ⟨_, rfl⟩
  obtain ⟨fb, ef⟩ : ∃ f, f = w.heap.size + 1 := ⟨_, rfl⟩
  have HA : Hid (GEncAt d w W2 pb fb) := by rw [hW, es, ef]; exact genc_at d w
  have HPB : Hid (BoxC W2 pb #[.int .i64 d.slots, .slice d.tabs.a d.tabs.n d.tabs.c, .slice d.code.a d.code.n d.code.c] 25) := by rw [hW, es]; exact BoxC.step (boxc_new _ _ _ rfl) (bl_alloc (Below.refl _ _))
  have HB : Hid (Below w.heap.size w W2) := by rw [hW]; exact bl_alloc (bl_alloc (Below.refl _ _))
  have HCK := hid (hrf W2 HB.out)
  have hfit := chk_fit hl.wfs hc
  have hcl : d.cs.length = d.code.n := hl.c.1
  have hm : d.code.n ≤ 60000 := by have := hfit.nc.2; omega
  have hm1 : 1 ≤ d.code.n := by have := hfit.nc.1; omega
  have HOKS : Hid (∀ i x, d.cs[i]? = some x → GOk d.slots d.ts d.code.n i x) := fun i x hx => by rw [← hcl]; exact gok hl.wfs hc hx
  obtain ⟨S, hS⟩ : ∃ S : Nat, d.slots = S := ⟨d.slots.toNat, by have := hfit.s.1; omega⟩
  have hS96 : S ≤ 96 := by have := hfit.s.2; omega
  obtain ⟨n, hn⟩ : ∃ n, n = d.code.n := ⟨_, rfl⟩
  obtain ⟨m1, hmm⟩ : ∃ m, m = n + 1 := ⟨_, rfl⟩
  have hn6 : n ≤ 60000 := by omega
  have hwm : IntKind.i64.wrap ((n : Int) + 1) = (m1 : Int) := by rw [wrap_small _ (by omega) (by omega)]; omega
  obtain ⟨i0, hi, hz0, hz1, hz2⟩ := info_parts info_knows
  obtain ⟨Z, hZ⟩ : ∃ Z, Z = madeCells zeroK (m1 * 6) := ⟨_, rfl⟩
  have hmk : ∀ W : World, (Instr.makeSlice 49 (.int .i64 (m1 : Int)) (.int .i64 (m1 : Int))).run Try.prog W = .ok (.slice (some ⟨W.heap.size, 0, none⟩) m1 m1) (W.alloc (.cells Z 54)) := fun W => by
    have h := run_make (P := Try.prog) W 49 54 i0 _ Try.underlying49 hi hz0 .i64 .i64 (m1 : Int) (m1 : Int) (by omega) (by omega) (by rw [hz2]; omega) (by omega)
    rw [show ((m1 : Int)).toNat = m1 by omega, hz1] at h
    rw [hZ]
    exact h
  have EZ := hid hZ
  have EW := hid hW
  have ES := hid es
  have EF := hid ef
  have HL := hid hl
  have HC := hid hc
  have HCL := hid hcl
  have HNN := hid hn
  have HMM := hid hmm
  have HSL := hid hS
  obtain ⟨R, hR⟩ : ∃ R, R = guardG d.ts d.cs 0 startA := ⟨_, rfl⟩
  rw [← hR]
  have ER := hid hR
  obtain ⟨R1, R2⟩ := R
  dsimp only [ProgD.v, TellF] at HCK ⊢
  clear hl hc hW es ef hi hz0 hz1 hz2 hZ hfit hm hm1 hcl hR hrf hS hn hmm
  go_enter Try.func8, Try.ntmps8
  go_upto_region 1 with fail
  rw [← EW.out, ← EF.out, ← ES.out]
  clear EW EF ES
  obtain ⟨p0, p1, p2⟩ := HA.out.p
  have hpl : pb < W2.heap.size := World.block_lt_of_cell? _ _ p0
  go_wp2_with fail
  refine HCK.out.mono ?_
  rintro e w3 ⟨rfl, hb3⟩
  rw [HC.out]
  generalize (chkW d.slots d.ts d.cs).2 = a0
  obtain ⟨W4, hW4⟩ : ∃ W, W = w3.alloc (.cells #[.int .i64 0, .int .i64 a0] 30) := ⟨_, rfl⟩
  have b4 : Below W2.heap.size W2 W4 := by rw [hW4]; exact bl_alloc hb3
  have HP4 := hid (HPB.out.step b4)
  have HF4 : Hid (BoxC W4 fb #[.int .i64 0, .int .i64 0] 30) := BoxC.step HA.out.ff b4
  have HB4 := hid (bl_step HB.out b4)
  have HWF := hid HA.out.wf
  have E4 := hid hW4
  clear hb3 b4 HA HB HCK p0 p1 p2 hpl hW4 HPB
  go_upto_region 4 with fail
  rw [← E4.out]
  clear E4
  have p0 : W4.cell? ⟨pb, 0, none⟩ = some (.int .i64 d.slots) := HP4.out.cell 0
  have p2 : W4.cell? ⟨pb, 2, none⟩ = some (.slice d.code.a d.code.n d.code.c) := HP4.out.cell 2
  rw [← HNN.out] at p2
  have hpl := HP4.out.lt
  obtain ⟨ab, hab⟩ : ∃ b, b = W4.heap.size := ⟨_, rfl⟩
  obtain ⟨W5, hW5⟩ : ∃ W, W = W4.alloc (.cells Z 54) := ⟨_, rfl⟩
  have b5 : Below W4.heap.size W4 W5 := by rw [hW5]; exact bl_alloc (Below.refl _ _)
  have HG5 : Hid (GfAt w d S n ab pb fb 0 (fun _ => none) (fun _ => False) W5) := by
    refine ⟨?_, bl_step HB4.out b5, HP4.out.step b5, HF4.out.step b5, HWF.out, by rw [hab]; exact HB4.out.size⟩
    have hz := made_knows W4 m1
    rw [← EZ.out, ← hW5, ← hab] at hz
    have hbx : BoxC W5 ab Z 54 := by rw [hW5, hab]; exact boxc_new _ _ _ rfl
    exact atg_new hbx fun j f v hj hv => hz j f v (by have := HMM.out; omega) hv
  have HNO := hid (knothing S hS96 W5)
  rw [← HSL.out] at HNO
  have E5 := hid hW5
  have EA := hid hab
  clear hW5 hab b5 HP4 HF4 HB4 HWF
  go_wp2_with fail
  rw [← E5.out, ← EA.out]
  clear E5 EA hmk
  refine HNO.out.mono ?_
  rintro e w6 ⟨q0, rfl, hk6, hb6⟩
  have hm0 : (0 : Int) < (m1 : Int) := by have := HMM.out; omega
  have HG6 := hid (HG5.out.step hb6)
  obtain ⟨q9, x9, _⟩ := HG6.out.g.six (Nat.le_refl 0) (Nat.zero_le n)
  obtain ⟨y0, y1, y2, y3, y4, y5, yz, yl⟩ := x9
  have yz0 := yz 0
  have yz1 := yz 1
  have yz2 := yz 2
  have yz3 := yz 3
  have yz4 := yz 4
  have yz5 := yz 5
  simp only [Nat.zero_mul, Nat.zero_add] at y0 y1 y2 y3 y4 y5
  have HG7 : Hid (GfAt w d S n ab pb fb 0 startA (fun _ => False) (set6 w6 ab 0 (.bool true) (.slice q0.st.a q0.st.n q0.st.c) (.slice q0.ju.a q0.ju.n q0.ju.c) (.slice q0.nu.a q0.nu.n q0.nu.c) (.slice q0.ro.a q0.ro.n q0.ro.c) (.slice q0.sl.a q0.sl.n q0.sl.c))) := by
    have h := HG6.out.put (Nat.le_refl 0) (Nat.zero_le n) (hk6.low (Nat.zero_le _)) SD.ok_none (fun g _ h => h)
    have e : putA (fun _ => none) 0 SD.none = startA := by funext j; unfold putA startA; rfl
    rw [e] at h
    exact h
  obtain ⟨W7, hW7⟩ : ∃ W, W = set6 w6 ab 0 (.bool true) (.slice q0.st.a q0.st.n q0.st.c) (.slice q0.ju.a q0.ju.n q0.ju.c) (.slice q0.nu.a q0.nu.n q0.nu.c) (.slice q0.ro.a q0.ro.n q0.ro.c) (.slice q0.sl.a q0.sl.n q0.sl.c) := ⟨_, rfl⟩
  rw [← hW7] at HG7
  dsimp only [set6] at hW7
  simp only [Nat.zero_add] at hW7
  have E7 := hid hW7
  clear hW7 hk6 hb6 HG5 HNO p0 p2 hpl yz
  dsimp only [KV.v]
  go_upto_region 6 with fail
  rw [← E7.out]
  clear E7 y0 y1 y2 y3 y4 y5 yz0 yz1 yz2 yz3 yz4 yz5 yl HG6
  go_wp2
  go_loopg [5, 6, 7, 8, 9, 10] n (fun gk v5 _ _ _ _ _ wr => ∃ (i : Nat) (A : Nat → Option SD), i ≤ n ∧ gk = n - i ∧ v5 = .int .i64 i ∧ Hid (GfAt w d S n ab pb fb i A (fun _ => False) wr) ∧ Hid ((R1, R2) = guardG d.ts (d.cs.drop i) i A))
  case atStart => exact ⟨0, startA, Nat.zero_le _, rfl, rfl, HG7, ER⟩
  case round =>
    obtain ⟨i, A, hi, hgk, rfl, GF, GR⟩ := hrel
    clear HG7 ER
    have p0 : wr.cell? ⟨pb, 0, none⟩ = some (.int .i64 d.slots) := GF.out.p.cell 0
    have p2 : wr.cell? ⟨pb, 2, none⟩ = some (.slice d.code.a d.code.n d.code.c) := GF.out.p.cell 2
    rw [← HNN.out] at p2
    have hpl := GF.out.p.lt
    have HGK := hid hgk
    clear hgk
    by_cases hlt : i < n
    · have hki : (i : Int) < (n : Int) := by omega
      have hkm : (i : Int) < (m1 : Int) := by have := HMM.out; omega
      have hi6 : i < 60000 := by omega
      obtain ⟨q1, x1, hq1⟩ := GF.out.g.six (Nat.le_refl i) (by omega)
      obtain ⟨gc, oc, x, ec, hx, xl⟩ := grow_at (HL.out.step GF.out.bel).c (show i < d.code.n by rw [← HNN.out]; exact hlt)
      rw [ec] at p2
      have HX := hid hx
      have HEC := hid ec
      cases hA : A i with
      | none =>
        rw [hA] at x1
        have c0 : wr.cell? ⟨ab, i * 6, none⟩ = some (.bool false) := x1.c0
        have yl := x1.l
        have HGN := hid (GF.out.up (Nat.le_succ i))
        have HRN : Hid ((R1, R2) = guardG d.ts (d.cs.drop (i + 1)) (i + 1) A) := GR.out.trans (guardG_none hx hA)
        clear x1 hq1 xl hx ec GF GR hA
        go_wp2
        go_roundg (n - (i + 1))
        case measure => have := HGK.out; omega
        case rel => exact ⟨i + 1, A, by omega, rfl, by go_num, HGN, HRN⟩
      | some s =>
        rw [hA] at x1
        obtain ⟨N1, hk1, ok1, _⟩ := hq1 s hA
        obtain ⟨c0, c1, c2, c3, c4, c5, cz, yl⟩ := x1
        have c0 : wr.cell? ⟨ab, i * 6, none⟩ = some (.bool true) := c0
        obtain ⟨⟨x0, _⟩, ⟨xx1, _⟩, ⟨xx2, _⟩, ⟨xx3, _⟩, ⟨xx4, _⟩, ⟨xx5, _⟩⟩ := xl
        have xgl := World.block_lt_of_cell? _ _ x0
        obtain ⟨W9, hW9⟩ : ∃ W, W = wr.alloc (.cells #[.int .i64 x.op, .int .i64 x.r, .int .i64 x.s, .int .i64 x.k, .int .i64 x.to, .int .u64 x.n] 35) := ⟨_, rfl⟩
        obtain ⟨xb, hxb⟩ : ∃ b, b = wr.heap.size := ⟨_, rfl⟩
        have b9 : Below wr.heap.size wr W9 := by rw [hW9]; exact bl_alloc (Below.refl _ _)
        have HXB : Hid (BoxC W9 xb #[.int .i64 x.op, .int .i64 x.r, .int .i64 x.s, .int .i64 x.k, .int .i64 x.to, .int .u64 x.n] 35) := by rw [hW9, hxb]; exact boxc_new _ _ _ rfl
        have HG9 := hid (GF.out.step b9)
        have HK9 := hid (hk1.step b9)
        have HOK1 := hid ok1
        have HA1 := hid hA
        have H15 : Hid (∀ w', Below W9.heap.size W9 w' → w'.cell? ⟨pb, 0, none⟩ = some (.int .i64 d.slots) ∧ w'.cell? ⟨pb, 1, none⟩ = some (.slice d.tabs.a d.tabs.n d.tabs.c) ∧ w'.cell? ⟨pb, 2, none⟩ = some (.slice d.code.a n d.code.c) ∧ w'.cell? ⟨xb, 0, none⟩ = some (.int .i64 x.op) ∧ w'.cell? ⟨xb, 1, none⟩ = some (.int .i64 x.r) ∧ w'.cell? ⟨xb, 2, none⟩ = some (.int .i64 x.s) ∧ w'.cell? ⟨xb, 3, none⟩ = some (.int .i64 x.k) ∧ w'.cell? ⟨xb, 4, none⟩ = some (.int .i64 x.to) ∧ w'.cell? ⟨xb, 5, none⟩ = some (.int .u64 x.n) ∧ w'.cell? ⟨ab, i * 6, none⟩ = some (.bool true) ∧ w'.cell? ⟨ab, i * 6 + 1, none⟩ = some (.slice q1.st.a q1.st.n q1.st.c) ∧ w'.cell? ⟨ab, i * 6 + 2, none⟩ = some (.slice q1.ju.a q1.ju.n q1.ju.c) ∧ w'.cell? ⟨ab, i * 6 + 3, none⟩ = some (.slice q1.nu.a q1.nu.n q1.nu.c) ∧ w'.cell? ⟨ab, i * 6 + 4, none⟩ = some (.slice q1.ro.a q1.ro.n q1.ro.c) ∧ w'.cell? ⟨ab, i * 6 + 5, none⟩ = some (.slice q1.sl.a q1.sl.n q1.sl.c)) := fun w' hb => by
          have g := HG9.out.step hb
          have px : BoxC w' xb #[.int .i64 x.op, .int .i64 x.r, .int .i64 x.s, .int .i64 x.k, .int .i64 x.to, .int .u64 x.n] 35 := HXB.out.step hb
          have b := bl_step b9 hb
          exact ⟨g.p.cell 0, g.p.cell 1, by rw [HNN.out]; exact g.p.cell 2, px.cell 0, px.cell 1, px.cell 2, px.cell 3, px.cell 4, px.cell 5, cell_keep c0 b, cell_keep c1 b, cell_keep c2 b, cell_keep c3 b, cell_keep c4 b, cell_keep c5 b⟩
        have HBH : Hid (∀ w', Below W9.heap.size W9 w' → Calls Try.prog 14 #[.agg #[.int .i64 d.slots, .slice d.tabs.a d.tabs.n d.tabs.c, .slice d.code.a n d.code.c], .agg #[.int .i64 x.op, .int .i64 x.r, .int .i64 x.s, .int .i64 x.k, .int .i64 x.to, .int .u64 x.n], .agg #[.bool true, .slice q1.st.a q1.st.n q1.st.c, .slice q1.ju.a q1.ju.n q1.ju.c, .slice q1.nu.a q1.nu.n q1.nu.c, .slice q1.ro.a q1.ro.n q1.ro.c, .slice q1.sl.a q1.sl.n q1.sl.c]] w' (BhIs S d.ts x s w')) := fun w' hb => by
          have := kbehind d x S hS96 q1 s N1 w' (HL.out.step (bl_step HG9.out.bel hb)) (HOKS.out i x HX.out) HSL.out (HK9.out.step hb).lie HOK1.out
          dsimp only [ProgD.v, InsD.v, KV.v] at this
          rw [← HNN.out] at this
          exact this
        have E9 := hid hW9
        have EXB := hid hxb
        clear hW9 hxb hk1 ok1 hA hq1 b9 cz hx ec GF
        go_upto_region 11 with fail
        rw [← E9.out, ← EXB.out]
        clear E9 EXB p0 p2 hpl c0 c1 c2 c3 c4 c5 x0 xx1 xx2 xx3 xx4 xx5 xgl yl
        go_cut [7, 8] from 27 to 135 (fun v7 v8 wx => ∃ (kb : Nat) (q2 : KV) (N2 : Nat → Nat), v7 = .pointer (some ⟨kb, 0, none⟩) ∧ v8 = .int .i64 (wrongD d.ts s x) ∧ Hid (KBx W9 S kb q2 (bhD d.ts s x) N2 (wrongD d.ts s x = 0) wx))
        case first =>
          have HCUR := hid (Below.refl W9.heap.size W9).drew
          have HB00 := hid (Below.refl W9.heap.size W9)
          obtain ⟨p0, p1, p2, e0, e1, e2, e3, e4, e5, c0, c1, c2, c3, c4, c5⟩ := H15.out W9 (Below.refl _ _)
          have hpl := World.block_lt_of_cell? _ _ p0
          have hxl := World.block_lt_of_cell? _ _ e0
          have hal := World.block_lt_of_cell? _ _ c0
          go_region_held3 (fun w' => w'.cell? ⟨pb, 0, none⟩ = some (.int .i64 d.slots) ∧ w'.cell? ⟨pb, 1, none⟩ = some (.slice d.tabs.a d.tabs.n d.tabs.c) ∧ w'.cell? ⟨pb, 2, none⟩ = some (.slice d.code.a n d.code.c) ∧ w'.cell? ⟨xb, 0, none⟩ = some (.int .i64 x.op) ∧ w'.cell? ⟨xb, 1, none⟩ = some (.int .i64 x.r) ∧ w'.cell? ⟨xb, 2, none⟩ = some (.int .i64 x.s) ∧ w'.cell? ⟨xb, 3, none⟩ = some (.int .i64 x.k) ∧ w'.cell? ⟨xb, 4, none⟩ = some (.int .i64 x.to) ∧ w'.cell? ⟨xb, 5, none⟩ = some (.int .u64 x.n) ∧ w'.cell? ⟨ab, i * 6, none⟩ = some (.bool true) ∧ w'.cell? ⟨ab, i * 6 + 1, none⟩ = some (.slice q1.st.a q1.st.n q1.st.c) ∧ w'.cell? ⟨ab, i * 6 + 2, none⟩ = some (.slice q1.ju.a q1.ju.n q1.ju.c) ∧ w'.cell? ⟨ab, i * 6 + 3, none⟩ = some (.slice q1.nu.a q1.nu.n q1.nu.c) ∧ w'.cell? ⟨ab, i * 6 + 4, none⟩ = some (.slice q1.ro.a q1.ro.n q1.ro.c) ∧ w'.cell? ⟨ab, i * 6 + 5, none⟩ = some (.slice q1.sl.a q1.sl.n q1.sl.c))
            (first
              | (with_reducible exact H15.out _ HCUR.out)
              | (with_reducible exact H15.out _ (bl_alloc HB00.out).drew)
              | (with_reducible exact H15.out _ (bl_alloc HCUR.out))
              | (with_reducible exact H15.out _ (hput1 (hput1 (hput1 (hput1 (hput1 (hput1 HCUR.out (Nat.le_refl _) _ _) (Nat.le_refl _) _ _) (Nat.le_refl _) _ _) (Nat.le_refl _) _ _) (Nat.le_refl _) _ _) (Nat.le_refl _) _ _))
              | go_keep)
            (first
              | (go_at_call 14; (with_reducible refine (HBH.out _ (by with_reducible first | exact HCUR.out | exact (bl_alloc HB00.out).drew)).mono ?_); rintro e wx ⟨q2, N2, rfl, hk2, hbx⟩; have HCUR0 := HCUR; have HCUR := hid (bl_step (by with_reducible first | exact HCUR.out | exact (bl_alloc HB00.out).drew) hbx); (first | ((first | (with_reducible have PZ := kz_atD hbx) | (with_reducible have PZ := kz_at hbx)); have PC := PZ.six; have t0 := PC.c0; have t1 := PC.c1; have t2 := PC.c2; have t3 := PC.c3; have t4 := PC.c4; have t5 := PC.c5; have f0 := PC.z0; have f1 := PC.z1; have f2 := PC.z2; have f3 := PC.z3; have f4 := PC.z4; have f5 := PC.z5; have hpw := PC.l) | skip)))
          · have HST := hid (kbx_new (S := S) (s := bhD d.ts s x) (N := N2) (c := wrongD d.ts s x = 0) HCUR.out (fun h => hk2 h))
            go_wp2_with fail
            go_meet
            exact ⟨_, q2, N2, rfl, rfl, HST⟩
          · have HST := hid (kbx_put (S := S) (s := bhD d.ts s x) (N := N2) (c := wrongD d.ts s x = 0) HCUR.out PZ (Nat.le_refl _) (fun h => (hk2 h).low (bl_alloc (Below.refl W9.heap.size W9)).size))
            go_wp2_with fail
            go_meet
            exact ⟨_, q2, N2, rfl, rfl, HST⟩
        case rest =>
          obtain ⟨kb, q2, N2, rfl, rfl, HK⟩ := hcut
          obtain ⟨h9, hh9⟩ : ∃ b, b = wc.heap.size := ⟨_, rfl⟩
          have HGc := hid (((HG9.out.fresh).step HK.out.bel).less (Y := fun g => W9.heap.size ≤ g ∧ g < h9) (fun g h => h.1))
          obtain ⟨q9, x9, _⟩ := HGc.out.g.six (Nat.le_refl i) (by omega)
          obtain ⟨c0, c1, c2, c3, c4, c5, cz, yl⟩ := x9
          have cz0 := cz (i * 6)
          have cz1 := cz (i * 6 + 1)
          have cz2 := cz (i * 6 + 2)
          have cz3 := cz (i * 6 + 3)
          have cz4 := cz (i * 6 + 4)
          have cz5 := cz (i * 6 + 5)
          obtain ⟨W12, hW12⟩ : ∃ W, W = set6 wc ab (i * 6) (.bool false) (.slice none 0 0) (.slice none 0 0) (.slice none 0 0) (.slice none 0 0) (.slice none 0 0) := ⟨_, rfl⟩
          have HM12 : Hid (MidAt w d S n ab pb fb i A (fun g => W9.heap.size ≤ g ∧ g < h9) W9.heap.size h9 xb kb x q2 W12) := by
            obtain ⟨cs, hrow⟩ := HGc.out.g.row
            have hxc := HXB.out.step HK.out.bel
            have hab : ab < W9.heap.size := by obtain ⟨cs, h⟩ := HG9.out.g.row; exact h.lt
            have hne : ¬ ab = kb := by have := HK.out.lo; omega
            rw [hW12]
            exact ⟨HGc.out.wipe, set6_far hxc (box_ne hrow hxc (by decide)), set6_far HK.out.box hne, hne, Nat.le_trans HG9.out.bel.size (Nat.le_refl _), by rw [set6_size, hh9]; exact Nat.le_refl _⟩
          have HL9 : Hid (∀ g, KBlk q2 g → wrongD d.ts s x = 0 → W9.heap.size ≤ g ∧ g < h9) := fun g hg h => by rw [hh9]; exact ⟨((HK.out.own h).1.lo g hg).1, ((HK.out.own h).1.lo g hg).2⟩
          have HO12 : Hid (wrongD d.ts s x = 0 → KOwn W9.heap.size S q2 (bhD d.ts s x) N2 W12) := fun h => by
            rw [hW12]
            exact ⟨set6_krw HGc.out.g.row (HK.out.own h).1, (HK.out.own h).2⟩
          dsimp only [set6] at hW12
          have E12 := hid hW12
          clear hW12 HGc cz HK HG9 HXB H15 HBH hh9
          go_upto_region 13 with fail
          rw [← E12.out]
          clear E12 c0 c1 c2 c3 c4 c5 cz0 cz1 cz2 cz3 cz4 cz5 yl
          have HFA := hid (fun x y w => fault_any x y w)
          by_cases hw : wrongD d.ts s x = 0
          · have HO13 := hid (HO12.out hw)
            rw [hw]
            have HRN : Hid ((R1, R2) = guardG d.ts (d.cs.drop (i + 1)) (i + 1) (overA d.ts A i x s)) := GR.out.trans (guardG_next HX.out HA1.out hw)
            have hgok := HOKS.out i x HX.out
            have HOK2 : Hid ((bhD d.ts s x).ok) := by
              show SD.ok _
              unfold bhD
              split
              · exact HOK1.out
              · exact behind_ok HOK1.out hgok hw
            have HOKB := hid (behind_ok HOK1.out hgok hw)
            have HGOK := hid hgok
            have HW0 := hid hw
            have e0 : W12.cell? ⟨xb, 0, none⟩ = some (.int .i64 x.op) := HM12.out.x.cell 0
            have hxl := HM12.out.x.lt
            have HL92 : Hid (∀ g, KBlk q2 g → W9.heap.size ≤ g ∧ g < h9) := fun g hg => HL9.out g hg hw
            clear hw GR HO12 hgok HFA HL9
            go_wp2_with fail
            refine (rfields_g _ _).mono ?_
            rintro e w14 ⟨b0, b1, b2, b4, ok, rfl, b14⟩
            obtain ⟨W15, hW15⟩ : ∃ W, W = w14.alloc (.cells #[.bool b0, .bool b1, .bool b2, .bool (hasT x.op), .bool b4] 59) := ⟨_, rfl⟩
            obtain ⟨hb, hhb⟩ : ∃ b, b = w14.heap.size := ⟨_, rfl⟩
            have b15 : Below W12.heap.size W12 W15 := by rw [hW15]; exact bl_alloc b14
            have h3 : W15.cell? ⟨hb, 3, none⟩ = some (.bool (hasT x.op)) := by
              have : BoxC W15 hb #[.bool b0, .bool b1, .bool b2, .bool (hasT x.op), .bool b4] 59 := by rw [hW15, hhb]; exact boxc_new _ _ _ rfl
              exact this.cell 3
            have hbl := World.block_lt_of_cell? _ _ h3
            have HM15 := hid (HM12.out.step b15)
            have HO15 := hid (HO13.out.step b15)
            have E15 := hid hW15
            have EHB := hid hhb
            clear b14 b15 hW15 hhb HM12 HO13 e0 hxl
            go_upto_region 16 with fail
            rw [← E15.out, ← EHB.out]
            clear E15 EHB
            go_upto_if 71 with fail
            go_cut [8] from 27 to 135 (fun v8 wx => ∃ A1 : Nat → Option SD, v8 = .int .i64 0 ∧ Hid (MidAt w d S n ab pb fb i A1 (fun g => W9.heap.size ≤ g ∧ g < h9) W9.heap.size h9 xb kb x q2 wx) ∧ Hid (KOwn W9.heap.size S q2 (bhD d.ts s x) N2 wx) ∧ Hid (A1 = if hasT x.op = true then putA A (i + 1 + x.to.toNat) (joinO (A (i + 1 + x.to.toNat)) (bhD d.ts s x)) else A))
            case first =>
              by_cases hT : hasT x.op = true
              · rw [hT]
                obtain ⟨tt, htt⟩ : ∃ t : Nat, x.to = t := ⟨x.to.toNat, by have := HGOK.out.jmp; omega⟩
                obtain ⟨jj, hjj⟩ : ∃ j, j = i + 1 + tt := ⟨_, rfl⟩
                have hjn : jj < n := by have := HGOK.out.leads hT; rw [← HNN.out] at this; omega
                have HAE : Hid (putA A jj (joinO (A jj) (bhD d.ts s x)) = if hasT x.op = true then putA A (i + 1 + x.to.toNat) (joinO (A (i + 1 + x.to.toNat)) (bhD d.ts s x)) else A) := by show _ = _; rw [if_pos hT, htt, Int.toNat_natCast, hjj]
                have hij : i + 1 ≤ jj := by omega
                have hjm : (jj : Int) < (m1 : Int) := by have := HMM.out; omega
                obtain ⟨u1, hu1⟩ : ∃ u, u = i + 1 := ⟨_, rfl⟩
                have hw1 : IntKind.i64.wrap ((i : Int) + 1) = (u1 : Int) := by rw [wrap_small _ (by omega) (by omega)]; omega
                have hw2 : IntKind.i64.wrap ((u1 : Int) + (tt : Int)) = (jj : Int) := by rw [wrap_small _ (by omega) (by omega)]; omega
                have HTT := hid htt
                have HJJ := hid hjj
                have HU1 := hid hu1
                clear hT htt hjj hu1 h3 hbl
                obtain ⟨qj, xj, hqj⟩ := HM15.out.g.g.six (show i + 1 ≤ jj by omega) (show jj ≤ n by omega)
                obtain ⟨tj, htj⟩ : ∃ t, t = ((A) jj).isSome := ⟨_, rfl⟩
                rw [← htj] at xj
                have HSJ : Hid (∀ w', Below W15.heap.size W15 w' → w'.cell? ⟨xb, 4, none⟩ = some (.int .i64 (tt : Int)) ∧ w'.cell? ⟨ab, jj * 6, none⟩ = some (.bool tj) ∧ w'.cell? ⟨ab, jj * 6 + 1, none⟩ = some (.slice qj.st.a qj.st.n qj.st.c) ∧ w'.cell? ⟨ab, jj * 6 + 2, none⟩ = some (.slice qj.ju.a qj.ju.n qj.ju.c) ∧ w'.cell? ⟨ab, jj * 6 + 3, none⟩ = some (.slice qj.nu.a qj.nu.n qj.nu.c) ∧ w'.cell? ⟨ab, jj * 6 + 4, none⟩ = some (.slice qj.ro.a qj.ro.n qj.ro.c) ∧ w'.cell? ⟨ab, jj * 6 + 5, none⟩ = some (.slice qj.sl.a qj.sl.n qj.sl.c) ∧ w'.cell? ⟨kb, 0, none⟩ = some (.bool true) ∧ w'.cell? ⟨kb, 1, none⟩ = some (.slice q2.st.a q2.st.n q2.st.c) ∧ w'.cell? ⟨kb, 2, none⟩ = some (.slice q2.ju.a q2.ju.n q2.ju.c) ∧ w'.cell? ⟨kb, 3, none⟩ = some (.slice q2.nu.a q2.nu.n q2.nu.c) ∧ w'.cell? ⟨kb, 4, none⟩ = some (.slice q2.ro.a q2.ro.n q2.ro.c) ∧ w'.cell? ⟨kb, 5, none⟩ = some (.slice q2.sl.a q2.sl.n q2.sl.c)) := fun w' hb => by
                  have m := HM15.out.step hb
                  exact ⟨(by rw [← HTT.out]; exact m.x.cell 4), cell_keep xj.c0 hb, cell_keep xj.c1 hb, cell_keep xj.c2 hb, cell_keep xj.c3 hb, cell_keep xj.c4 hb, cell_keep xj.c5 hb, m.k.cell 0, m.k.cell 1, m.k.cell 2, m.k.cell 3, m.k.cell 4, m.k.cell 5⟩
                obtain ⟨Nj, hme⟩ : ∃ Nj, ∀ w', Below W15.heap.size W15 w' → Calls Try.prog 17 #[.agg #[.bool tj, .slice qj.st.a qj.st.n qj.st.c, .slice qj.ju.a qj.ju.n qj.ju.c, .slice qj.nu.a qj.nu.n qj.nu.c, .slice qj.ro.a qj.ro.n qj.ro.c, .slice qj.sl.a qj.sl.n qj.sl.c], .agg #[.bool true, .slice q2.st.a q2.st.n q2.st.c, .slice q2.ju.a q2.ju.n q2.ju.c, .slice q2.nu.a q2.nu.n q2.nu.c, .slice q2.ro.a q2.ro.n q2.ro.c, .slice q2.sl.a q2.sl.n q2.sl.c]] w' (OwnKIs S true (joinO ((A) jj) (bhD d.ts s x)) Nj w') := by
                  cases e : (A) jj with
                  | none =>
                    rw [e] at htj
                    subst htj
                    exact ⟨_, fun w' hb => kmeet_none S hS96 qj q2 _ _ w' (HO15.out.step hb).lie⟩
                  | some t =>
                    obtain ⟨Nt, kt, okt, _⟩ := hqj t e
                    rw [e] at htj
                    subst htj
                    exact ⟨_, fun w' hb => kmeet_some S hS96 qj q2 t _ Nt _ w' (kt.step hb).lie (HO15.out.step hb).lie okt HOK2.out⟩
                have HOJ : Hid ((joinO ((A) jj) (bhD d.ts s x)).ok) := by
                  show SD.ok _
                  cases e : (A) jj with
                  | none => exact HOK2.out
                  | some t => exact (hqj t e).choose_spec.2.1.join HOK2.out
                have HME := hid hme
                clear hme hqj xj htj
                go_wp2_with fail
                refine wp_region_cut 17 (by kernel_rfl) (by kernel_rfl) ?_
                refine wpAny_of_held (S := fun w' => w'.cell? ⟨xb, 4, none⟩ = some (.int .i64 (tt : Int)) ∧ w'.cell? ⟨ab, jj * 6, none⟩ = some (.bool tj) ∧ w'.cell? ⟨ab, jj * 6 + 1, none⟩ = some (.slice qj.st.a qj.st.n qj.st.c) ∧ w'.cell? ⟨ab, jj * 6 + 2, none⟩ = some (.slice qj.ju.a qj.ju.n qj.ju.c) ∧ w'.cell? ⟨ab, jj * 6 + 3, none⟩ = some (.slice qj.nu.a qj.nu.n qj.nu.c) ∧ w'.cell? ⟨ab, jj * 6 + 4, none⟩ = some (.slice qj.ro.a qj.ro.n qj.ro.c) ∧ w'.cell? ⟨ab, jj * 6 + 5, none⟩ = some (.slice qj.sl.a qj.sl.n qj.sl.c) ∧ w'.cell? ⟨kb, 0, none⟩ = some (.bool true) ∧ w'.cell? ⟨kb, 1, none⟩ = some (.slice q2.st.a q2.st.n q2.st.c) ∧ w'.cell? ⟨kb, 2, none⟩ = some (.slice q2.ju.a q2.ju.n q2.ju.c) ∧ w'.cell? ⟨kb, 3, none⟩ = some (.slice q2.nu.a q2.nu.n q2.nu.c) ∧ w'.cell? ⟨kb, 4, none⟩ = some (.slice q2.ro.a q2.ro.n q2.ro.c) ∧ w'.cell? ⟨kb, 5, none⟩ = some (.slice q2.sl.a q2.sl.n q2.sl.c)) _ _ _ _ ?_
                have hHeld := HSJ.out W15.drew (Below.refl _ _).drew
                refine wpAnyH_take (i := 0) (v := ?_) (drop_at rfl) (by kernel_rfl) (by kernel_rfl) (by kernel_rfl) (fun _ _ _ h => h) (Or.inl ⟨by rfl, ?_⟩) hHeld ?_
                rotate_left
                · intro w0 hSw
                  try dsimp only at hSw
                  go_simp
                  try with_reducible rfl
                try simp only [Act.put, List.setIfInBounds_toArray, List.set_cons_zero, List.set_cons_succ]
                refine wpAnyH_take (i := 1) (v := ?_) (drop_at rfl) (by kernel_rfl) (by kernel_rfl) (by kernel_rfl) (fun _ _ _ h => h) (Or.inl ⟨by rfl, ?_⟩) hHeld ?_
                rotate_left
                · intro w0 hSw
                  try dsimp only at hSw
                  go_simp
                  try with_reducible rfl
                try simp only [Act.put, List.setIfInBounds_toArray, List.set_cons_zero, List.set_cons_succ]
                refine wpAnyH_take (i := 2) (v := ?_) (drop_at rfl) (by kernel_rfl) (by kernel_rfl) (by kernel_rfl) (fun _ _ _ h => h) (Or.inl ⟨by rfl, ?_⟩) hHeld ?_
                rotate_left
                · intro w0 hSw
                  try dsimp only at hSw
                  go_simp
                  try with_reducible rfl
                try simp only [Act.put, List.setIfInBounds_toArray, List.set_cons_zero, List.set_cons_succ]
                refine wpAnyH_take (i := 3) (v := ?_) (drop_at rfl) (by kernel_rfl) (by kernel_rfl) (by kernel_rfl) (fun _ _ _ h => h) (Or.inl ⟨by rfl, ?_⟩) hHeld ?_
                rotate_left
                · intro w0 hSw
                  try dsimp only at hSw
                  go_simp
                  try with_reducible rfl
                try simp only [Act.put, List.setIfInBounds_toArray, List.set_cons_zero, List.set_cons_succ]
                refine wpAnyH_take (i := 4) (v := ?_) (drop_at rfl) (by kernel_rfl) (by kernel_rfl) (by kernel_rfl) (fun _ _ _ h => h) (Or.inl ⟨by rfl, ?_⟩) hHeld ?_
                rotate_left
                · intro w0 hSw
                  try dsimp only at hSw
                  go_simp
                  try with_reducible rfl
                try simp only [Act.put, List.setIfInBounds_toArray, List.set_cons_zero, List.set_cons_succ]
                refine wpAnyH_take (i := 5) (v := ?_) (drop_at rfl) (by kernel_rfl) (by kernel_rfl) (by kernel_rfl) (fun _ _ _ h => h) (Or.inl ⟨by rfl, ?_⟩) hHeld ?_
                rotate_left
                · intro w0 hSw
                  try dsimp only at hSw
                  go_simp
                  try with_reducible rfl
                try simp only [Act.put, List.setIfInBounds_toArray, List.set_cons_zero, List.set_cons_succ]
                refine wpAnyH_take (i := 6) (v := ?_) (drop_at rfl) (by kernel_rfl) (by kernel_rfl) (by kernel_rfl) (fun _ _ _ h => h) (Or.inl ⟨by rfl, ?_⟩) hHeld ?_
                rotate_left
                · intro w0 hSw
                  try dsimp only at hSw
                  go_simp
                  try with_reducible rfl
                try simp only [Act.put, List.setIfInBounds_toArray, List.set_cons_zero, List.set_cons_succ]
                refine wpAnyH_take (i := 7) (v := ?_) (drop_at rfl) (by kernel_rfl) (by kernel_rfl) (by kernel_rfl) (fun _ _ _ h => h) (Or.inl ⟨by rfl, ?_⟩) hHeld ?_
                rotate_left
                · intro w0 hSw
                  try dsimp only at hSw
                  go_simp
                  try with_reducible rfl
                try simp only [Act.put, List.setIfInBounds_toArray, List.set_cons_zero, List.set_cons_succ]
                refine wpAnyH_take (i := 8) (v := ?_) (drop_at rfl) (by kernel_rfl) (by kernel_rfl) (by kernel_rfl) (fun _ _ _ h => h) (Or.inl ⟨by rfl, ?_⟩) hHeld ?_
                rotate_left
                · intro w0 hSw
                  try dsimp only at hSw
                  go_simp
                  try with_reducible rfl
                try simp only [Act.put, List.setIfInBounds_toArray, List.set_cons_zero, List.set_cons_succ]
                refine wpAnyH_take (i := 9) (v := ?_) (drop_at rfl) (by kernel_rfl) (by kernel_rfl) (by kernel_rfl) (fun _ _ _ h => h) (Or.inl ⟨by rfl, ?_⟩) hHeld ?_
                rotate_left
                · intro w0 hSw
                  try dsimp only at hSw
                  go_simp
                  try with_reducible rfl
                try simp only [Act.put, List.setIfInBounds_toArray, List.set_cons_zero, List.set_cons_succ]
                refine wpAnyH_take (i := 10) (v := ?_) (drop_at rfl) (by kernel_rfl) (by kernel_rfl) (by kernel_rfl) (fun _ _ _ h => h) (Or.inl ⟨by rfl, ?_⟩) hHeld ?_
                rotate_left
                · intro w0 hSw
                  try dsimp only at hSw
                  go_simp
                  try with_reducible rfl
                try simp only [Act.put, List.setIfInBounds_toArray, List.set_cons_zero, List.set_cons_succ]
                refine wpAnyH_take (i := 11) (v := ?_) (drop_at rfl) (by kernel_rfl) (by kernel_rfl) (by kernel_rfl) (fun _ _ _ h => h) (Or.inl ⟨by rfl, ?_⟩) hHeld ?_
                rotate_left
                · intro w0 hSw
                  try dsimp only at hSw
                  go_simp
                  try with_reducible rfl
                try simp only [Act.put, List.setIfInBounds_toArray, List.set_cons_zero, List.set_cons_succ]
                refine wpAnyH_take (i := 12) (v := ?_) (drop_at rfl) (by kernel_rfl) (by kernel_rfl) (by kernel_rfl) (fun _ _ _ h => h) (Or.inl ⟨by rfl, ?_⟩) hHeld ?_
                rotate_left
                · intro w0 hSw
                  try dsimp only at hSw
                  go_simp
                  try with_reducible rfl
                try simp only [Act.put, List.setIfInBounds_toArray, List.set_cons_zero, List.set_cons_succ]
                refine wpAnyH_take (i := 13) (v := ?_) (drop_at rfl) (by kernel_rfl) (by kernel_rfl) (by kernel_rfl) (fun _ _ _ h => h) (Or.inl ⟨by rfl, ?_⟩) hHeld ?_
                rotate_left
                · intro w0 hSw
                  try dsimp only at hSw
                  go_simp
                  try with_reducible rfl
                try simp only [Act.put, List.setIfInBounds_toArray, List.set_cons_zero, List.set_cons_succ]
                refine wpAnyH_take (i := 14) (v := ?_) (drop_at rfl) (by kernel_rfl) (by kernel_rfl) (by kernel_rfl) (fun _ _ _ h => h) (Or.inl ⟨by rfl, ?_⟩) hHeld ?_
                rotate_left
                · intro w0 hSw
                  try dsimp only at hSw
                  go_simp
                  try with_reducible rfl
                try simp only [Act.put, List.setIfInBounds_toArray, List.set_cons_zero, List.set_cons_succ]
                refine wpAnyH_ready (rs := [15]) (by kernel_rfl) (by simp) ?_
                refine AllReadyH.cons (drop_at rfl) (fun K hK => ?_) AllReadyH.nil
                go_simp
                go_at_call 17
                refine (HME.out _ (Below.refl _ _).drew).mono ?_
                rintro e w16 ⟨q3, rfl, hk3, hb3⟩
                have B3 := hid (bl_step (Below.refl W15.heap.size W15).drew hb3)
                have HK3 := hid hk3
                clear hk3 hb3
                refine hK.out _ _ (HSJ.out _ B3.out) (fun hHeld => ?_)
                clear hK K
                refine wpAnyH_take (i := 16) (v := ?_) (drop_at rfl) (by kernel_rfl) (by kernel_rfl) (by kernel_rfl) (fun _ _ _ h => h) (Or.inl ⟨by rfl, ?_⟩) hHeld ?_
                rotate_left
                · intro w0 hSw
                  try dsimp only at hSw
                  go_simp
                  try with_reducible rfl
                try simp only [Act.put, List.setIfInBounds_toArray, List.set_cons_zero, List.set_cons_succ]
                clear hHeld
                have HMP := hid (HM15.out.step B3.out)
                obtain ⟨W17, hwn⟩ : ∃ W, W = set6 w16 ab (jj * 6) (.bool true) (.slice q3.st.a q3.st.n q3.st.c) (.slice q3.ju.a q3.ju.n q3.ju.c) (.slice q3.nu.a q3.nu.n q3.nu.c) (.slice q3.ro.a q3.ro.n q3.ro.c) (.slice q3.sl.a q3.sl.n q3.sl.c) := ⟨_, rfl⟩
                have HM17 : Hid (MidAt w d S n ab pb fb i (putA (A) jj (joinO ((A) jj) (bhD d.ts s x))) (fun g => W9.heap.size ≤ g ∧ g < h9) W9.heap.size h9 xb kb x q2 W17) := by
                  rw [hwn]
                  exact HMP.out.put (show i + 1 ≤ jj by omega) (show jj ≤ n by omega) (HK3.out.low (Nat.zero_le _)) HOJ.out (fun g hg hX => by have h1 := (HK3.out.1.lo g hg).1; have h2 := HM15.out.hi; have h3 : W15.heap.size ≤ g := h1; have h4 : g < h9 := hX.2; omega)
                have HO17 : Hid (KOwn W9.heap.size S q2 (bhD d.ts s x) N2 W17) := by
                  rw [hwn]
                  exact ⟨set6_krw HMP.out.g.g.row (HO15.out.step B3.out).1, HO15.out.2⟩
                obtain ⟨q9, x9, _⟩ := HMP.out.g.g.six (show i + 1 ≤ jj by omega) (show jj ≤ n by omega)
                obtain ⟨c0, c1, c2, c3, c4, c5, cz, yl⟩ := x9
                have cz0 := cz (jj * 6)
                have cz1 := cz (jj * 6 + 1)
                have cz2 := cz (jj * 6 + 2)
                have cz3 := cz (jj * 6 + 3)
                have cz4 := cz (jj * 6 + 4)
                have cz5 := cz (jj * 6 + 5)
                dsimp only [set6] at hwn
                have EWN := hid hwn
                clear hwn HSJ HME HMP HK3 B3 cz HOJ
                refine wpAnyH_done (by kernel_rfl) ?_ _
                show wpList _ _ _ _ _ _
                simp only [List.drop_succ_cons, List.drop_zero]
                dsimp only [KV.v]
                go_wp2_with fail
                rw [← EWN.out]
                clear EWN c0 c1 c2 c3 c4 c5 cz0 cz1 cz2 cz3 cz4 cz5 yl
                go_meet
                exact ⟨_, rfl, HM17, HO17, HAE⟩
              · have hTf : hasT x.op = false := by simpa using hT
                rw [hTf]
                have HAE : Hid (A = if hasT x.op = true then putA A (i + 1 + x.to.toNat) (joinO (A (i + 1 + x.to.toNat)) (bhD d.ts s x)) else A) := by show _ = _; rw [if_neg hT]
                clear hT hTf h3 hbl
                go_wp2_with fail
                go_meet
                exact ⟨A, rfl, HM15, HO15, HAE⟩
            case rest =>
              obtain ⟨A1, rfl, HM1, HO1, HAE⟩ := hcut
              clear HM15 HO15 h3 hbl
              have e0 := (HM1.out.x.cell 0).trans (rfl : _ = some (Value.int .i64 x.op))
              have hxl := HM1.out.x.lt
              by_cases hg : goesD x = true
              · have hgo : x.op ≠ 12 ∧ x.op ≠ 16 ∧ x.op ≠ 17 := by
                  unfold goesD endsB at hg
                  simp only [Bool.not_eq_true', Bool.or_eq_false_iff, decide_eq_false_iff_not] at hg
                  exact ⟨hg.1, hg.2.1, hg.2.2⟩
                have hb12 : (x.op == 12) = false := by simpa using hgo.1
                have hb16 : (x.op == 16) = false := by simpa using hgo.2.1
                have hb17 : (x.op == 17) = false := by simpa using hgo.2.2
                have HOV : Hid (overA d.ts A i x s = putA A1 (i + 1) (joinO (A1 (i + 1)) (behindD d.ts s x))) := by show _ = _; rw [HAE.out]; exact over_goes hg
                have HIN : Hid (i + 1 ≤ n) := by
                  have he : endsB x.op = false := by unfold endsB; simp [hgo.2.1, hgo.2.2]
                  have := HGOK.out.on he
                  show _ ≤ _
                  rw [HNN.out]
                  omega
                obtain ⟨r, hr⟩ : ∃ r : Nat, x.r = r := ⟨x.r.toNat, by have := HGOK.out.r; omega⟩
                have hr10 : r < 10 := by have := HGOK.out.r; omega
                have hri : (r : Int) < 10 := by omega
                obtain ⟨nn, hnn⟩ : ∃ r : Nat, x.n = r := ⟨x.n.toNat, by have := HGOK.out.n; omega⟩
                obtain ⟨g1, g2, g3, g4, ka⟩ := HO1.out.1.blocks
                obtain ⟨RZ, hRZ⟩ : ∃ z, z = roomZ ((bhD d.ts s x).reg r).room := ⟨_, rfl⟩
                obtain ⟨LB, hLB⟩ : ∃ b, b = (decide (x.op = 9) && decide (RZ < (nn : Int))) := ⟨_, rfl⟩
                have HRC : Hid (∀ w', Below wc.heap.size wc w' → w'.cell? ⟨kb, 4, none⟩ = some (.slice (some ⟨g4, 0, none⟩) 10 q2.ro.c) ∧ w'.cell? ⟨xb, 0, none⟩ = some (.int .i64 x.op) ∧ w'.cell? ⟨xb, 1, none⟩ = some (.int .i64 (r : Int)) ∧ w'.cell? ⟨xb, 5, none⟩ = some (.int .u64 (nn : Int)) ∧ w'.cell? ⟨g4, r, none⟩ = some (.int .i64 RZ) ∧ w'.frozen? ⟨g4, r, none⟩ = false) := fun w' hb => by
                  have m := HM1.out.step hb
                  have rg := (HO1.out.step hb).1.reg ka hr10
                  exact ⟨by rw [← ka.e4, ← ka.n4]; exact m.k.cell 4, m.x.cell 0, by rw [← hr]; exact m.x.cell 1, by rw [← hnn]; exact m.x.cell 5, by rw [hRZ]; exact rg.c4, rg.f4⟩
                have HBHR : Hid (LB = false → bhD d.ts s x = behindD d.ts s x) := fun h => bh_same hr hnn (by rw [← hRZ, ← hLB]; exact h)
                have HBHT : Hid (LB = true → x.op = 9 ∧ bhD d.ts s x = s ∧ behindD d.ts s x = s.setR r ⟨(s.reg r).set, (s.reg r).just, some nn⟩) := fun h => bh_more hr hnn (by rw [← hRZ, ← hLB]; exact h)
                have HKA := hid ka
                have HR := hid hr
                have HN := hid hnn
                have HRZ := hid hRZ
                have HLB := hid hLB
                have HN6 : Hid (x.op = 9 → nn ≤ 600) := fun h => by have := HGOK.out.room h; omega
                clear hg hgo hr hnn ka hRZ hLB
                go_wp2_with fail
                go_cut [116] from 27 to 135 (fun v116 wx => v116 = .bool LB ∧ Hid (Below wc.heap.size wc wx))
                case first =>
                  obtain ⟨k4, d0, d1, d5, dr, _⟩ := HRC.out wc (Below.refl _ _)
                  have lk4 := World.block_lt_of_cell? _ _ k4
                  have lx0 := World.block_lt_of_cell? _ _ d0
                  have lg4 := World.block_lt_of_cell? _ _ dr
                  clear e0
                  by_cases hop9 : x.op = 9
                  · rw [hop9] at d0
                    have hn600 := HN6.out hop9
                    have hwn : IntKind.i64.wrap (nn : Int) = (nn : Int) := wrap_small _ (by omega) (by omega)
                    have HLB2 : Hid (LB = decide (RZ < (nn : Int))) := by show _ = _; rw [HLB.out, decide_eq_true hop9, Bool.true_and]
                    have k4' := cell_by k4
                    have d0' := cell_by d0
                    have d1' := cell_by d1
                    have d5' := cell_by d5
                    have dr' := cell_by dr
                    haveI inhB : ∀ w : World, Inhabited (BelowBy w) := fun w => ⟨⟨w, Below.refl _ _⟩⟩
                    clear hop9
                    refine wp_region_quiet_below (by kernel_rfl) (by kernel_rfl) ?_
                    repeat (go_big_quiet_step (fail))
                    refine wpQuiet_nil ?_
                    intro wq hw'
                    obtain ⟨⟨_, hwq⟩, hw''⟩ := hw'
                    subst hw''
                    go_wp2_with fail
                    go_meet
                    exact ⟨by rw [HLB2.out], hwq⟩
                  · have hb9 : (x.op == 9) = false := by simpa using hop9
                    have HLB2 : Hid (LB = false) := by show _ = _; rw [HLB.out, decide_eq_false hop9, Bool.false_and]
                    have d0' := cell_by d0
                    haveI inhB : ∀ w : World, Inhabited (BelowBy w) := fun w => ⟨⟨w, Below.refl _ _⟩⟩
                    clear k4 d1 d5 dr
                    refine wp_region_quiet_below (by kernel_rfl) (by kernel_rfl) ?_
                    repeat (go_big_quiet_step (fail))
                    refine wpQuiet_nil ?_
                    intro wq hw'
                    obtain ⟨⟨_, hwq⟩, hw''⟩ := hw'
                    subst hw''
                    go_wp2_with fail
                    go_meet
                    exact ⟨by rw [HLB2.out], hwq⟩
                case rest =>
                  obtain ⟨rfl, HBX⟩ := hcut
                  have HM2 := hid (HM1.out.step HBX.out)
                  have HO2 := hid (HO1.out.step HBX.out)
                  obtain ⟨k4, d0, d1, d5, dr, dz⟩ := HRC.out _ HBX.out
                  clear HM1 HO1 HRC HBX e0 hxl
                  go_upto_if 116 with fail
                  go_cut [8] from 27 to 135 (fun v8 wx => v8 = .int .i64 0 ∧ Hid (MidAt w d S n ab pb fb i A1 (fun g => W9.heap.size ≤ g ∧ g < h9) W9.heap.size h9 xb kb x q2 wx) ∧ Hid (KOwn W9.heap.size S q2 (behindD d.ts s x) N2 wx))
                  case first =>
                    have lk4 := World.block_lt_of_cell? _ _ k4
                    have lx0 := World.block_lt_of_cell? _ _ d0
                    have lg4 := World.block_lt_of_cell? _ _ dr
                    cases LB
                    · have HO3 : Hid (KOwn W9.heap.size S q2 (behindD d.ts s x) N2 wc) := by rw [← HBHR.out rfl]; exact HO2.out
                      go_wp2_with fail
                      go_meet
                      exact ⟨rfl, HM2, HO3⟩
                    · obtain ⟨hop9, eb, eh⟩ := HBHT.out rfl
                      have hn600 := HN6.out hop9
                      have hwn : IntKind.i64.wrap (nn : Int) = (nn : Int) := wrap_small _ (by omega) (by omega)
                      have HMO : Hid (MidAt w d S n ab pb fb i A1 (fun g => W9.heap.size ≤ g ∧ g < h9) W9.heap.size h9 xb kb x q2 (wc.setCell ⟨g4, r, none⟩ (.int .i64 (nn : Int))) ∧ KOwn W9.heap.size S q2 (behindD d.ts s x) N2 (wc.setCell ⟨g4, r, none⟩ (.int .i64 (nn : Int)))) := by
                        rw [eh]
                        have ho := HO2.out
                        rw [eb] at ho
                        exact mid_room HM2.out ho HKA.out hr10 (HL92.out g4 (.inr (.inr (.inr (.inl (blk_of HKA.out.e4))))))
                      clear hop9 eb eh
                      go_wp2_with fail
                      go_meet
                      exact ⟨rfl, HMO.out.1, HMO.out.2⟩
                  case rest =>
                    obtain ⟨rfl, HM3, HO3⟩ := hcut
                    clear HM2 HO2 k4 d0 d1 d5 dr dz
                    obtain ⟨u1, hu1⟩ : ∃ u, u = i + 1 := ⟨_, rfl⟩
                    have hw1 : IntKind.i64.wrap ((i : Int) + 1) = (u1 : Int) := by rw [wrap_small _ (by omega) (by omega)]; omega
                    have hua : i + 1 ≤ u1 := by omega
                    have hub : u1 ≤ n := by have := HIN.out; omega
                    have hum : (u1 : Int) < (m1 : Int) := by have := HMM.out; omega
                    have HU1 := hid hu1
                    clear hu1
                    obtain ⟨qj, xj, hqj⟩ := HM3.out.g.g.six (show i + 1 ≤ u1 by omega) (show u1 ≤ n by omega)
                    obtain ⟨tj, htj⟩ : ∃ t, t = ((A1) u1).isSome := ⟨_, rfl⟩
                    rw [← htj] at xj
                    have HSJ : Hid (∀ w', Below wc.heap.size wc w' → w'.cell? ⟨ab, u1 * 6, none⟩ = some (.bool tj) ∧ w'.cell? ⟨ab, u1 * 6 + 1, none⟩ = some (.slice qj.st.a qj.st.n qj.st.c) ∧ w'.cell? ⟨ab, u1 * 6 + 2, none⟩ = some (.slice qj.ju.a qj.ju.n qj.ju.c) ∧ w'.cell? ⟨ab, u1 * 6 + 3, none⟩ = some (.slice qj.nu.a qj.nu.n qj.nu.c) ∧ w'.cell? ⟨ab, u1 * 6 + 4, none⟩ = some (.slice qj.ro.a qj.ro.n qj.ro.c) ∧ w'.cell? ⟨ab, u1 * 6 + 5, none⟩ = some (.slice qj.sl.a qj.sl.n qj.sl.c) ∧ w'.cell? ⟨kb, 0, none⟩ = some (.bool true) ∧ w'.cell? ⟨kb, 1, none⟩ = some (.slice q2.st.a q2.st.n q2.st.c) ∧ w'.cell? ⟨kb, 2, none⟩ = some (.slice q2.ju.a q2.ju.n q2.ju.c) ∧ w'.cell? ⟨kb, 3, none⟩ = some (.slice q2.nu.a q2.nu.n q2.nu.c) ∧ w'.cell? ⟨kb, 4, none⟩ = some (.slice q2.ro.a q2.ro.n q2.ro.c) ∧ w'.cell? ⟨kb, 5, none⟩ = some (.slice q2.sl.a q2.sl.n q2.sl.c)) := fun w' hb => by
                      have m := HM3.out.step hb
                      exact ⟨cell_keep xj.c0 hb, cell_keep xj.c1 hb, cell_keep xj.c2 hb, cell_keep xj.c3 hb, cell_keep xj.c4 hb, cell_keep xj.c5 hb, m.k.cell 0, m.k.cell 1, m.k.cell 2, m.k.cell 3, m.k.cell 4, m.k.cell 5⟩
                    obtain ⟨Nj, hme⟩ : ∃ Nj, ∀ w', Below wc.heap.size wc w' → Calls Try.prog 17 #[.agg #[.bool tj, .slice qj.st.a qj.st.n qj.st.c, .slice qj.ju.a qj.ju.n qj.ju.c, .slice qj.nu.a qj.nu.n qj.nu.c, .slice qj.ro.a qj.ro.n qj.ro.c, .slice qj.sl.a qj.sl.n qj.sl.c], .agg #[.bool true, .slice q2.st.a q2.st.n q2.st.c, .slice q2.ju.a q2.ju.n q2.ju.c, .slice q2.nu.a q2.nu.n q2.nu.c, .slice q2.ro.a q2.ro.n q2.ro.c, .slice q2.sl.a q2.sl.n q2.sl.c]] w' (OwnKIs S true (joinO ((A1) u1) (behindD d.ts s x)) Nj w') := by
                      cases e : (A1) u1 with
                      | none =>
                        rw [e] at htj
                        subst htj
                        exact ⟨_, fun w' hb => kmeet_none S hS96 qj q2 _ _ w' (HO3.out.step hb).lie⟩
                      | some t =>
                        obtain ⟨Nt, kt, okt, _⟩ := hqj t e
                        rw [e] at htj
                        subst htj
                        exact ⟨_, fun w' hb => kmeet_some S hS96 qj q2 t _ Nt _ w' (kt.step hb).lie (HO3.out.step hb).lie okt HOKB.out⟩
                    have HOJ : Hid ((joinO ((A1) u1) (behindD d.ts s x)).ok) := by
                      show SD.ok _
                      cases e : (A1) u1 with
                      | none => exact HOKB.out
                      | some t => exact (hqj t e).choose_spec.2.1.join HOKB.out
                    have HME := hid hme
                    clear hme hqj xj htj
                    go_wp2_with fail
                    refine wp_region_cut 11 (by kernel_rfl) (by kernel_rfl) ?_
                    refine wpAny_of_held (S := fun w' => w'.cell? ⟨ab, u1 * 6, none⟩ = some (.bool tj) ∧ w'.cell? ⟨ab, u1 * 6 + 1, none⟩ = some (.slice qj.st.a qj.st.n qj.st.c) ∧ w'.cell? ⟨ab, u1 * 6 + 2, none⟩ = some (.slice qj.ju.a qj.ju.n qj.ju.c) ∧ w'.cell? ⟨ab, u1 * 6 + 3, none⟩ = some (.slice qj.nu.a qj.nu.n qj.nu.c) ∧ w'.cell? ⟨ab, u1 * 6 + 4, none⟩ = some (.slice qj.ro.a qj.ro.n qj.ro.c) ∧ w'.cell? ⟨ab, u1 * 6 + 5, none⟩ = some (.slice qj.sl.a qj.sl.n qj.sl.c) ∧ w'.cell? ⟨kb, 0, none⟩ = some (.bool true) ∧ w'.cell? ⟨kb, 1, none⟩ = some (.slice q2.st.a q2.st.n q2.st.c) ∧ w'.cell? ⟨kb, 2, none⟩ = some (.slice q2.ju.a q2.ju.n q2.ju.c) ∧ w'.cell? ⟨kb, 3, none⟩ = some (.slice q2.nu.a q2.nu.n q2.nu.c) ∧ w'.cell? ⟨kb, 4, none⟩ = some (.slice q2.ro.a q2.ro.n q2.ro.c) ∧ w'.cell? ⟨kb, 5, none⟩ = some (.slice q2.sl.a q2.sl.n q2.sl.c)) _ _ _ _ ?_
                    have hHeld := HSJ.out wc.drew (Below.refl _ _).drew
                    refine wpAnyH_take (i := 0) (v := ?_) (drop_at rfl) (by kernel_rfl) (by kernel_rfl) (by kernel_rfl) (fun _ _ _ h => h) (Or.inl ⟨by rfl, ?_⟩) hHeld ?_
                    rotate_left
                    · intro w0 hSw
                      try dsimp only at hSw
                      go_simp
                      try with_reducible rfl
                    try simp only [Act.put, List.setIfInBounds_toArray, List.set_cons_zero, List.set_cons_succ]
                    refine wpAnyH_take (i := 1) (v := ?_) (drop_at rfl) (by kernel_rfl) (by kernel_rfl) (by kernel_rfl) (fun _ _ _ h => h) (Or.inl ⟨by rfl, ?_⟩) hHeld ?_
                    rotate_left
                    · intro w0 hSw
                      try dsimp only at hSw
                      go_simp
                      try with_reducible rfl
                    try simp only [Act.put, List.setIfInBounds_toArray, List.set_cons_zero, List.set_cons_succ]
                    refine wpAnyH_take (i := 2) (v := ?_) (drop_at rfl) (by kernel_rfl) (by kernel_rfl) (by kernel_rfl) (fun _ _ _ h => h) (Or.inl ⟨by rfl, ?_⟩) hHeld ?_
                    rotate_left
                    · intro w0 hSw
                      try dsimp only at hSw
                      go_simp
                      try with_reducible rfl
                    try simp only [Act.put, List.setIfInBounds_toArray, List.set_cons_zero, List.set_cons_succ]
                    refine wpAnyH_take (i := 3) (v := ?_) (drop_at rfl) (by kernel_rfl) (by kernel_rfl) (by kernel_rfl) (fun _ _ _ h => h) (Or.inl ⟨by rfl, ?_⟩) hHeld ?_
                    rotate_left
                    · intro w0 hSw
                      try dsimp only at hSw
                      go_simp
                      try with_reducible rfl
                    try simp only [Act.put, List.setIfInBounds_toArray, List.set_cons_zero, List.set_cons_succ]
                    refine wpAnyH_take (i := 4) (v := ?_) (drop_at rfl) (by kernel_rfl) (by kernel_rfl) (by kernel_rfl) (fun _ _ _ h => h) (Or.inl ⟨by rfl, ?_⟩) hHeld ?_
                    rotate_left
                    · intro w0 hSw
                      try dsimp only at hSw
                      go_simp
                      try with_reducible rfl
                    try simp only [Act.put, List.setIfInBounds_toArray, List.set_cons_zero, List.set_cons_succ]
                    refine wpAnyH_take (i := 5) (v := ?_) (drop_at rfl) (by kernel_rfl) (by kernel_rfl) (by kernel_rfl) (fun _ _ _ h => h) (Or.inl ⟨by rfl, ?_⟩) hHeld ?_
                    rotate_left
                    · intro w0 hSw
                      try dsimp only at hSw
                      go_simp
                      try with_reducible rfl
                    try simp only [Act.put, List.setIfInBounds_toArray, List.set_cons_zero, List.set_cons_succ]
                    refine wpAnyH_take (i := 6) (v := ?_) (drop_at rfl) (by kernel_rfl) (by kernel_rfl) (by kernel_rfl) (fun _ _ _ h => h) (Or.inl ⟨by rfl, ?_⟩) hHeld ?_
                    rotate_left
                    · intro w0 hSw
                      try dsimp only at hSw
                      go_simp
                      try with_reducible rfl
                    try simp only [Act.put, List.setIfInBounds_toArray, List.set_cons_zero, List.set_cons_succ]
                    refine wpAnyH_take (i := 7) (v := ?_) (drop_at rfl) (by kernel_rfl) (by kernel_rfl) (by kernel_rfl) (fun _ _ _ h => h) (Or.inl ⟨by rfl, ?_⟩) hHeld ?_
                    rotate_left
                    · intro w0 hSw
                      try dsimp only at hSw
                      go_simp
                      try with_reducible rfl
                    try simp only [Act.put, List.setIfInBounds_toArray, List.set_cons_zero, List.set_cons_succ]
                    refine wpAnyH_take (i := 8) (v := ?_) (drop_at rfl) (by kernel_rfl) (by kernel_rfl) (by kernel_rfl) (fun _ _ _ h => h) (Or.inl ⟨by rfl, ?_⟩) hHeld ?_
                    rotate_left
                    · intro w0 hSw
                      try dsimp only at hSw
                      go_simp
                      try with_reducible rfl
                    try simp only [Act.put, List.setIfInBounds_toArray, List.set_cons_zero, List.set_cons_succ]
                    refine wpAnyH_ready (rs := [9]) (by kernel_rfl) (by simp) ?_
                    refine AllReadyH.cons (drop_at rfl) (fun K hK => ?_) AllReadyH.nil
                    go_simp
                    go_at_call 17
                    refine (HME.out _ (Below.refl _ _).drew).mono ?_
                    rintro e w20 ⟨q3, rfl, hk3, hb3⟩
                    have B3 := hid (bl_step (Below.refl wc.heap.size wc).drew hb3)
                    have HK3 := hid hk3
                    clear hk3 hb3
                    refine hK.out _ _ (HSJ.out _ B3.out) (fun hHeld => ?_)
                    clear hK K
                    refine wpAnyH_take (i := 10) (v := ?_) (drop_at rfl) (by kernel_rfl) (by kernel_rfl) (by kernel_rfl) (fun _ _ _ h => h) (Or.inl ⟨by rfl, ?_⟩) hHeld ?_
                    rotate_left
                    · intro w0 hSw
                      try dsimp only at hSw
                      go_simp
                      try with_reducible rfl
                    try simp only [Act.put, List.setIfInBounds_toArray, List.set_cons_zero, List.set_cons_succ]
                    clear hHeld
                    have HMP := hid (HM3.out.step B3.out)
                    obtain ⟨W21, hwn⟩ : ∃ W, W = set6 w20 ab (u1 * 6) (.bool true) (.slice q3.st.a q3.st.n q3.st.c) (.slice q3.ju.a q3.ju.n q3.ju.c) (.slice q3.nu.a q3.nu.n q3.nu.c) (.slice q3.ro.a q3.ro.n q3.ro.c) (.slice q3.sl.a q3.sl.n q3.sl.c) := ⟨_, rfl⟩
                    have HM4 : Hid (MidAt w d S n ab pb fb i (putA (A1) u1 (joinO ((A1) u1) (behindD d.ts s x))) (fun g => W9.heap.size ≤ g ∧ g < h9) W9.heap.size h9 xb kb x q2 W21) := by
                      rw [hwn]
                      exact HMP.out.put (show i + 1 ≤ u1 by omega) (show u1 ≤ n by omega) (HK3.out.low (Nat.zero_le _)) HOJ.out (fun g hg hX => by have h1 := (HK3.out.1.lo g hg).1; have h2 := HM3.out.hi; have h3 : wc.heap.size ≤ g := h1; have h4 : g < h9 := hX.2; omega)
                    have HO4 : Hid (KOwn W9.heap.size S q2 (behindD d.ts s x) N2 W21) := by
                      rw [hwn]
                      exact ⟨set6_krw HMP.out.g.g.row (HO3.out.step B3.out).1, HO3.out.2⟩
                    obtain ⟨q9, x9, _⟩ := HMP.out.g.g.six (show i + 1 ≤ u1 by omega) (show u1 ≤ n by omega)
                    obtain ⟨c0, c1, c2, c3, c4, c5, cz, yl⟩ := x9
                    have cz0 := cz (u1 * 6)
                    have cz1 := cz (u1 * 6 + 1)
                    have cz2 := cz (u1 * 6 + 2)
                    have cz3 := cz (u1 * 6 + 3)
                    have cz4 := cz (u1 * 6 + 4)
                    have cz5 := cz (u1 * 6 + 5)
                    dsimp only [set6] at hwn
                    have EWN := hid hwn
                    clear hwn HSJ HME HMP HK3 B3 cz HOJ
                    refine wpAnyH_done (by kernel_rfl) ?_ _
                    show wpList _ _ _ _ _ _
                    simp only [List.drop_succ_cons, List.drop_zero]
                    dsimp only [KV.v]
                    go_upto_region 8 with fail
                    rw [← EWN.out]
                    clear EWN c0 c1 c2 c3 c4 c5 cz0 cz1 cz2 cz3 cz4 cz5 yl
                    have HGN := hid (HM4.out.g.less (Y := fun _ => False) (fun g h => h.elim))
                    have HRN2 : Hid ((R1, R2) = guardG d.ts (d.cs.drop (i + 1)) (i + 1) (putA A1 u1 (joinO (A1 u1) (behindD d.ts s x)))) := by rw [HU1.out, ← HOV.out]; exact HRN.out
                    clear HM3 HO3 HM4 HO4 HRN
                    go_wp2
                    go_roundg (n - (i + 1))
                    case measure => have := HGK.out; omega
                    case rel => exact ⟨i + 1, _, by omega, rfl, by rw [HU1.out], HGN, HRN2⟩
              · have hgo : x.op = 12 ∨ x.op = 16 ∨ x.op = 17 := by
                  by_cases h1 : x.op = 12
                  · exact .inl h1
                  by_cases h2 : x.op = 16
                  · exact .inr (.inl h2)
                  by_cases h3 : x.op = 17
                  · exact .inr (.inr h3)
                  · exact absurd (show goesD x = true by unfold goesD endsB; simp [h1, h2, h3]) hg
                have HOV : Hid (overA d.ts A i x s = A1) := by show _ = _; rw [HAE.out]; exact over_stays hg
                have HGN := hid (HM1.out.g.less (Y := fun _ => False) (fun g h => h.elim))
                have HRN2 : Hid ((R1, R2) = guardG d.ts (d.cs.drop (i + 1)) (i + 1) A1) := by rw [← HOV.out]; exact HRN.out
                clear hg HM1 HO1 HAE HRN HOV
                rcases hgo with h | h | h
                all_goals
                  rw [h] at e0
                  clear h
                  go_wp2
                  go_roundg (n - (i + 1))
                  case measure => have := HGK.out; omega
                  case rel => exact ⟨i + 1, A1, by omega, rfl, by go_num, HGN, HRN2⟩
          · have HRB : Hid ((R1, R2) = (wrongD d.ts s x, (i : Int))) := GR.out.trans (guardG_bad HX.out HA1.out hw)
            have hwb : (wrongD d.ts s x != 0) = true := by simpa using hw
            have HG12 := hid HM12.out.g
            obtain ⟨E, hE⟩ : ∃ E, E = wrongD d.ts s x := ⟨_, rfl⟩
            rw [← hE] at hwb HRB ⊢
            clear hE hw GR HO12 HM12 HL9
            go_wp2_with fail
            refine (HFA.out _ _ _).mono ?_
            rintro e w13 ⟨rfl, b13⟩
            have g13 := HG12.out.step b13
            have f0 : w13.cell? ⟨fb, 0, none⟩ = some (.int .i64 0) := g13.f.cell 0
            have f1 : w13.cell? ⟨fb, 1, none⟩ = some (.int .i64 0) := g13.f.cell 1
            have z0 := g13.f.fz 0
            have z1 := g13.f.fz 1
            have hfl := g13.f.lt
            have HE : Hid (∀ u v, Below w.heap.size w ((w13.setCell ⟨fb, 0, none⟩ u).setCell ⟨fb, 1, none⟩ v)) := fun u v => (g13.bel.setCell (p := ⟨fb, 0, none⟩) g13.lf _).setCell (p := ⟨fb, 1, none⟩) g13.lf _
            obtain ⟨rfl, rfl⟩ : R1 = E ∧ R2 = (i : Int) := by simpa using HRB.out
            clear g13 b13 HG12 HRB
            go_wp2
            exact bodyPost_ret (v := .agg #[.int .i64 R1, .int .i64 (i : Int)]) (by simp [results, Try.results8, go_sem, *]) rfl ⟨rfl, HE.out _ _⟩
    · have hki : ¬ (i : Int) < (n : Int) := by omega
      have f0 : wr.cell? ⟨fb, 0, none⟩ = some (.int .i64 0) := GF.out.f.cell 0
      have f1 : wr.cell? ⟨fb, 1, none⟩ = some (.int .i64 0) := GF.out.f.cell 1
      have z0 := GF.out.f.fz 0
      have z1 := GF.out.f.fz 1
      have hfl := GF.out.f.lt
      have HE : Hid (∀ u v, Below w.heap.size w ((wr.setCell ⟨fb, 0, none⟩ u).setCell ⟨fb, 1, none⟩ v)) := fun u v => (GF.out.bel.setCell (p := ⟨fb, 0, none⟩) GF.out.lf _).setCell (p := ⟨fb, 1, none⟩) GF.out.lf _
      have hend := GR.out.trans (guardG_end (by rw [HCL.out, ← HNN.out]; omega))
      obtain ⟨rfl, rfl⟩ : R1 = 0 ∧ R2 = 0 := by simpa using hend
      clear GF GR hend
      go_wp2
      exact bodyPost_ret (v := .agg #[.int .i64 0, .int .i64 0]) (by simp [results, Try.results8, go_sem, *]) rfl ⟨rfl, HE.out _ _⟩
end Go.Proofs.Ytmohffibkpecpaa
