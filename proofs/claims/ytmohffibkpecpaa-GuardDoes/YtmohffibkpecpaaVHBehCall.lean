/- guard's visit: goBehind of a call. -/
import Derived.Test.YtmohffibkpecpaaJ6
namespace Go.Proofs.Ytmohffibkpecpaa
open Go.RowKit

theorem fill_next (s : SD) (a n : Nat) : (∀ j, ((s.fill a (n + 1)).reg j) = (s.fill a n).reg j) ∧ (s.fill a (n + 1)).slot (a + n) = true ∧ ∀ j, j ≠ a + n → (s.fill a (n + 1)).slot j = (s.fill a n).slot j := by
  refine ⟨fun _ => rfl, ?_, fun j hj => ?_⟩
  · show (s.slot (a + n) || (decide (a ≤ a + n) && decide (a + n < a + (n + 1)))) = true
    rw [decide_eq_true (by omega : a ≤ a + n), decide_eq_true (by omega : a + n < a + (n + 1))]
    simp
  · show (s.slot j || (decide (a ≤ j) && decide (j < a + (n + 1)))) = (s.slot j || (decide (a ≤ j) && decide (j < a + n)))
    by_cases e : j < a + n
    · rw [decide_eq_true e, decide_eq_true (by omega : j < a + (n + 1))]
    · rw [decide_eq_false e, decide_eq_false (by omega : ¬ j < a + (n + 1))]
theorem fill_zero (s : SD) (a : Nat) : s.fill a 0 = s := by
  unfold SD.fill
  have : (fun j => s.slot j || (decide (a ≤ j) && decide (j < a + 0))) = s.slot := by
    funext j
    by_cases e : a ≤ j
    · rw [decide_eq_false (by omega : ¬ j < a + 0), Bool.and_false, Bool.or_false]
    · rw [decide_eq_false e, Bool.false_and, Bool.or_false]
  rw [this]

set_option maxHeartbeats 4000000 in
set_option maxRecDepth 20000 in
theorem hbeh_call {w : World} {vb wk : Nat} {d : ProgD} {x : InsD} {s : SD} {m i : Nat} (h : VisAt w vb wk d x s) (ha : VisAp w vb wk d) (hx : GOk d.slots d.ts m i x) (hsl : d.slots ≤ 96) (hop : x.op = 13) : Calls Try.prog 25 #[vptr vb] w (BehIs w vb wk d x (behindD d.ts s x)) := by
  have hr := hx.r
  have hn := hx.n
  obtain ⟨t, ht, a0, a1, a2, a3, k0, k1, q0, q1⟩ := hx.call hop
  have hnl : x.n.toNat < d.tabs.n := by rw [← h.lie.t.1]; exact (List.getElem?_eq_some_iff.1 ht).1
  have EQ : behindD d.ts s x = (s.setR x.r.toNat RD.any).fill x.k.toNat t.args.toNat := by
    unfold behindD argsOf
    rw [if_neg (by omega), if_neg (by omega), if_neg (by omega), if_neg (by omega), if_neg (by omega), if_pos hop, ht]
  rw [EQ]
  have HV := hid h
  have HX := hid ha
  have i0 := h.i0
  have i1 := h.i1
  have hl := h.lt
  obtain ⟨r0, r1, r2, r3, r4⟩ := h.reg (i := x.r.toNat) (by omega)
  have HRN : Hid (∀ wq, Below w.heap.size w wq → VisAt (wq.setCells vb (7 + 1 + x.r.toNat * 5) (regC RD.any)) vb wk d x (s.setR x.r.toNat RD.any) ∧ HRn vb w (wq.setCells vb (7 + 1 + x.r.toNat * 5) (regC RD.any))) := fun wq hb => BehIs.reg HV.out HX.out hb (by omega) _ rfl
  have HF : Hid (∀ wq, Below w.heap.size w wq → Fz5 wq vb x.r.toNat) := fun wq hb => (HV.out.step hb).fz5 (by omega)
  have HTB : Hid (∀ w', VisAt w' vb wk d x (s.setR x.r.toNat RD.any) → ∃ g off, d.tabs.a = some ⟨g, off, none⟩ ∧ w'.cell? ⟨g, off + x.n.toNat * 3 + 2, none⟩ = some (.int .i64 t.args)) := fun w' hv => by
    obtain ⟨g, off, t', ea, ht', hp⟩ := grow_at hv.lie.t hnl
    obtain rfl : t' = t := Option.some.inj (ht'.symm.trans ht)
    exact ⟨g, off, ea, hp.2.2.1⟩
  generalize hS1 : s.setR x.r.toNat RD.any = S1 at *
  clear EQ h ha hx ht hS1
  obtain ⟨op, r, ss, kk, tt, n⟩ := x
  dsimp only at *
  obtain ⟨n, rfl⟩ : ∃ k : Nat, n = k := ⟨n.toNat, by omega⟩
  obtain ⟨kk, rfl⟩ : ∃ k : Nat, kk = k := ⟨kk.toNat, by omega⟩
  obtain ⟨r, rfl⟩ : ∃ k : Nat, r = k := ⟨r.toNat, by omega⟩
  obtain ⟨T, hT⟩ : ∃ k : Nat, t.args = k := ⟨t.args.toNat, by omega⟩
  rw [hT] at HTB a3 q0 q1 ⊢
  simp only [Int.toNat_natCast] at r0 r1 r2 r3 r4 HRN HF HTB hnl ⊢
  have hri : (r : Int) < 10 := by omega
  have hni : (n : Int) < (d.tabs.n : Int) := by omega
  have HB : Hid (kk + T ≤ 96 ∧ T ≤ 3) := ⟨by omega, by omega⟩
  rw [show regC RD.any = [.bool true, .bool false, .int .u64 0, .bool false, .int .u64 0] from rfl] at HRN
  have i1' := cell_by i1
  clear hr hn a0 a1 a2 a3 k0 k1 q0 q1 hsl hT
  subst hop
  haveI inhB : ∀ w : World, Inhabited (BelowBy w) := fun w => ⟨⟨w, Below.refl _ _⟩⟩
  go_enter Try.func25, Try.ntmps25
  go_wp2_with fail
  refine wp_region_cutQ 11 (by kernel_rfl) (by kernel_rfl) ?_
  simp only [List.take_succ_cons, List.take_zero]
  repeat (go_big_quiet_step (fail))
  refine wpQuiet_nil ?_
  intro wq hw'
  obtain ⟨⟨_, hwq⟩, hw''⟩ := hw'
  subst hw''
  simp only [List.drop_succ_cons, List.drop_zero]
  obtain ⟨f0, f1, f2, f3, f4⟩ := HF.out wq hwq
  replace r0 := cell_keep r0 hwq
  replace r1 := cell_keep r1 hwq
  replace r2 := cell_keep r2 hwq
  replace r3 := cell_keep r3 hwq
  replace r4 := cell_keep r4 hwq
  have hlq : vb < wq.heap.size := World.block_lt_of_cell? _ _ r0
  obtain ⟨W1, hW1⟩ : ∃ W, W = ((((wq.setCell ⟨vb, 8 + r * 5, none⟩ (.bool true)).setCell ⟨vb, 8 + r * 5 + 1, none⟩ (.bool false)).setCell ⟨vb, 8 + r * 5 + 2, none⟩ (.int .u64 0)).setCell ⟨vb, 8 + r * 5 + 3, none⟩ (.bool false)).setCell ⟨vb, 8 + r * 5 + 4, none⟩ (.int .u64 0) := ⟨_, rfl⟩
  have HE : VisAt W1 vb wk d ⟨13, (r : Int), ss, (kk : Int), tt, (n : Int)⟩ S1 ∧ HRn vb w W1 := by rw [hW1]; exact HRN.out wq hwq
  have EW := hid hW1
  have HE1 := hid HE
  clear hwq HRN HF HV i0 i1 i1' hl hW1
  go_upto_region 17 with fail
  rw [← EW.out]
  clear EW r0 r1 r2 r3 r4 f0 f1 f2 f3 f4 hlq
  obtain ⟨hv, hrn⟩ := HE
  obtain ⟨g, off, ea, tc⟩ := HTB.out W1 hv
  have c0 := hv.c0
  have i3 := hv.i3
  have i5 := hv.i5
  have p1 := hv.p1
  rw [ea] at p1
  dsimp only at i3 i5
  have hl := hv.lt
  have hpl : wk < W1.heap.size := World.block_lt_of_cell? _ _ p1
  have hgl : g < W1.heap.size := World.block_lt_of_cell? _ _ tc
  have c0' := cell_by c0
  have i3' := cell_by i3
  have i5' := cell_by i5
  have p1' := cell_by p1
  have tc' := cell_by tc
  have EA := hid ea
  clear hv hrn HTB ea
  generalize hdn : d.tabs.n = tn at *
  generalize hdc : d.tabs.c = tcp at *
  go_wp2_with fail
  refine wp_region_quiet_below (by kernel_rfl) (by kernel_rfl) ?_
  repeat (go_big_quiet_step (fail))
  refine wpQuiet_nil ?_
  intro wr hw'
  obtain ⟨⟨_, hwq⟩, hw''⟩ := hw'
  subst hw''
  have HV2 : Hid (VisAt wr vb wk d ⟨13, (r : Int), ss, (kk : Int), tt, (n : Int)⟩ (S1.fill kk 0) ∧ HRn vb w wr) := by
    rw [fill_zero]
    exact ⟨HE1.out.1.step hwq, HE1.out.2.trans (HRn.of hwq)⟩
  clear hwq c0 i3 i5 p1 tc c0' i3' i5' p1' tc' HE1 hl hpl hgl hdn hdc hni hnl
  go_wp2
  go_loopw [147, 2] (fun q _ wr => ∃ k : Nat, k ≤ T ∧ q = .int .i64 k ∧ Hid (VisAt wr vb wk d ⟨13, (r : Int), ss, (kk : Int), tt, (n : Int)⟩ (S1.fill kk k) ∧ HRn vb w wr)) (fun q _ _ => T - (intOf q).toNat)
  case atStart => exact ⟨0, Nat.zero_le _, rfl, HV2⟩
  case round =>
    obtain ⟨k, hk, rfl, J⟩ := hrel
    clear HV2
    by_cases hlt : k < T
    · have hki : (k : Int) < (T : Int) := by omega
      have hb := HB.out
      have hT3 : T ≤ 3 := hb.2
      have hw1 : IntKind.i64.wrap ((kk : Int) + (k : Int)) = ((kk + k : Nat) : Int) := by rw [gwrap_i _ (by omega) (by omega)]; omega
      have i3 := J.out.1.i3
      dsimp only at i3
      have c0 := J.out.1.slot (i := kk + k) (by omega)
      have HRN : Hid (∀ wq, Below wr.heap.size wr wq → VisAt (wq.setCell ⟨vb, 58 + (kk + k), none⟩ (.bool true)) vb wk d ⟨13, (r : Int), ss, (kk : Int), tt, (n : Int)⟩ (S1.fill kk (k + 1)) ∧ HRn vb w (wq.setCell ⟨vb, 58 + (kk + k), none⟩ (.bool true))) := fun wq hq =>
        ⟨(J.out.1.step hq).putS ((HX.out.up J.out.2.size).up hq.size) (by omega) (fill_next S1 kk k).1 (fill_next S1 kk k).2.1 (fill_next S1 kk k).2.2, (J.out.2.trans (HRn.of hq)).trans (HRn.put vb _ _ _)⟩
      have HF : Hid (∀ wq, Below wr.heap.size wr wq → wq.frozen? ⟨vb, 58 + (kk + k), none⟩ = false) := fun wq hq => by
        have := (J.out.1.step hq).fz (j := 51 + (kk + k)) (by omega)
        rw [show 58 + (kk + k) = 7 + (51 + (kk + k)) by omega]
        exact this
      have hl := J.out.1.lt
      have hkn : kk + k < 96 := by omega
      obtain ⟨kj, hkj⟩ : ∃ j, j = kk + k := ⟨_, rfl⟩
      rw [← hkj] at hw1 c0 HRN HF hkn
      have hkji : (kj : Int) < 96 := by omega
      have i3' := cell_by i3
      clear J hkj hb hkn
      go_wp2_with fail
      refine wp_region_cutQ 12 (by kernel_rfl) (by kernel_rfl) ?_
      simp only [List.take_succ_cons, List.take_zero]
      repeat (go_big_quiet_step (fail))
      refine wpQuiet_nil ?_
      intro wq hw'
      obtain ⟨⟨_, hwq⟩, hw''⟩ := hw'
      subst hw''
      simp only [List.drop_succ_cons, List.drop_zero]
      have f0 := HF.out wq hwq
      replace c0 := cell_keep c0 hwq
      have hlq : vb < wq.heap.size := World.block_lt_of_cell? _ _ c0
      have HE := hid (HRN.out wq hwq)
      clear hwq HRN HF i3 i3' hl
      go_wp2
      go_roundw
      case rel => exact ⟨k + 1, by omega, by go_num, HE⟩
      case measure => simp [intOf]; omega
    · obtain rfl : k = T := by omega
      have hki : ¬ (k : Int) < (k : Int) := by omega
      go_wp2
      exact bodyPost_end (v := .tuple #[]) (results_none Try.results25 _ _ _) rfl ⟨rfl, J.out.1, J.out.2⟩
end Go.Proofs.Ytmohffibkpecpaa
