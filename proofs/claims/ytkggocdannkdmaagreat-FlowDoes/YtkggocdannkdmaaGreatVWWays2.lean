/- The document's Ways: the walk. -/
import Derived.Test.YtkggocdannkdmaaGreatVWWays
import Derived.Test.YtkggocdannkdmaaGreatJ17
namespace Go.Proofs.YtkggocdannkdmaaGreat
open Go.RowKit

theorem cell_block {w w' : World} {k o : Nat} {v : Value} (h : w'.heap[k]? = w.heap[k]?) (hc : w.cell? ⟨k, o, none⟩ = some v) : w'.cell? ⟨k, o, none⟩ = some v := by
  simp only [World.cell?] at hc ⊢
  rw [h]; exact hc

theorem has_grown {kd : IntKind} {w w' : World} {a : Option Addr} {n : Nat} {zs : List Int} {ob : Option Nat} (h : Has kd w a n zs) (hg : w.grownBy w' ob) (hn : 0 < n → ∀ g o q, a = some ⟨g, o, q⟩ → some g ≠ ob) : Has kd w' a n zs := by
  refine ⟨h.1, h.2.1, ?_⟩
  rcases h.2.2 with e | ⟨b, off, e, hb, hc⟩
  · exact .inl e
  · exact .inr ⟨b, off, e, Nat.lt_of_lt_of_le hb hg.size, fun i hi => cell_block (hg.block b hb (hn (by omega) _ _ _ e)) (hc i hi)⟩

theorem succ_at {d : PlanD} (en : d.p.ss.length = d.states.n) (hc : (chkP d.p).1 = 0) {y : Wk.Way} (hy : y.st < d.states.n) {x : StateD} (hx : d.ss[y.st]? = some x) : Wk.succW (parOf d.p hc) (ldOf d.p) y = (leadR d.states.n (outsP x.p)).map (fun j => (⟨j, y.tk ||| bitN x.head, y.by_ + szP d.p x.p⟩ : Wk.Way)) := by
  unfold Wk.succW
  rw [if_neg (by show ¬ y.st = d.p.ss.length; omega)]
  show (leadR d.p.ss.length (outsP (d.p.ss.getD y.st PState.z))).map (fun j => (⟨j, y.tk ||| bitN (d.p.ss.getD y.st PState.z).head, y.by_ + szP d.p (d.p.ss.getD y.st PState.z)⟩ : Wk.Way)) = _
  rw [p_at hx, en]
  rfl

/-- one way more in a region that draws: what it leaves -/
theorem ways_push {W1 w : World} {ga gc b5 K j TK BY m : Nat} {L : List Wk.Way} {ka : Option Addr} {zs : List Int} (HO : OwnW W1.heap.size (some ⟨ga, 0, none⟩) gc L w) (HH : Has .i64 w ka m zs) (HV : w.cell? ⟨b5, 1, none⟩ = some (.int .u64 (TK : Int)) ∧ w.cell? ⟨b5, 2, none⟩ = some (.int .i64 (BY : Int))) (HG : ga ≠ b5) (HF : 0 < m → ∀ g o qq, ka = some ⟨g, o, qq⟩ → ga ≠ g) (HB : Below W1.heap.size W1 w) (hK : L.length = K) (hn : K ≤ 100000) :
    ∃ g6 cap6 w6, (Builtin.append_ #[144, 144] 144 #[.slice (some ⟨ga, 0, none⟩) K gc, .slice (some ⟨w.heap.size, 0, none⟩) 1 1]).run Tryz.prog (w.alloc (.cells #[.int .i64 (j : Int), .int .u64 (TK : Int), .int .i64 (BY : Int)] 148)).drew = .ok (.slice (some ⟨g6, 0, none⟩) (K + 1) cap6) w6 ∧ OwnW W1.heap.size (some ⟨g6, 0, none⟩) cap6 (L ++ [⟨j, TK, BY⟩]) w6 ∧ Below W1.heap.size W1 w6 ∧ (Has .i64 w6 ka m zs ∧ (w6.cell? ⟨b5, 1, none⟩ = some (.int .u64 (TK : Int)) ∧ w6.cell? ⟨b5, 2, none⟩ = some (.int .i64 (BY : Int))) ∧ True) ∧ (g6 ≠ b5 ∧ (0 < m → ∀ g o qq, ka = some ⟨g, o, qq⟩ → g6 ≠ g)) := by
  subst hK
  have b1 : Below w.heap.size w (w.alloc (.cells #[.int .i64 (j : Int), .int .u64 (TK : Int), .int .i64 (BY : Int)] 148)).drew := (bl_alloc (Below.refl _ _)).drew
  have hbl : b5 < w.heap.size := World.block_lt_of_cell? w _ HV.1
  obtain ⟨g6, cap6, w6, hrun, ho, hg, hnw⟩ := run_appK (w := (w.alloc (.cells #[.int .i64 (j : Int), .int .u64 (TK : Int), .int .i64 (BY : Int)] 148)).drew) (ad := ⟨w.heap.size, 0, none⟩) (m := 1) (c := 1) (news := wcell ⟨j, TK, BY⟩) 144 Tryz.underlying144 Tryz.infoWay rfl (by decide) (owns_belowK HO b1) rfl (fun i u hu => by
    have := src_of (w := w) (cs := wcell ⟨j, TK, BY⟩) (T := 148) i u hu
    exact this) (fun u hu => wcell_one [⟨j, TK, BY⟩] u (by simpa using hu)) (by decide) (by unfold maxLen; omega) (by omega) (by have := b1.size; have := HB.size; omega)
  have hsz : w.heap.size ≤ (w.alloc (.cells #[.int .i64 (j : Int), .int .u64 (TK : Int), .int .i64 (BY : Int)] 148)).drew.heap.size := b1.size
  refine ⟨g6, cap6, w6, hrun, ?_, (bl_step HB b1).grown hg (Nat.le_trans HB.size hsz) fun k hk => (HO.lt k hk).1, ⟨has_grown (HH.step b1) hg fun h0 g o qq e h => HF h0 g o qq e (by simpa [Value.ownBlock] using h.symm), ⟨?_, ?_⟩, trivial⟩, ?_, ?_⟩
  · unfold OwnW
    rw [List.length_append, List.length_singleton, List.flatMap_append, List.flatMap_cons, List.flatMap_nil, List.append_nil]
    exact ho
  · exact cell_block (hg.block b5 (by omega) (by simp [Value.ownBlock]; exact fun h => HG h.symm)) (cell_keep HV.1 b1)
  · exact cell_block (hg.block b5 (by omega) (by simp [Value.ownBlock]; exact fun h => HG h.symm)) (cell_keep HV.2 b1)
  · rcases hnw with h | h
    · simp only [Option.some.injEq, Addr.mk.injEq, and_true] at h
      rw [← h]; exact HG
    · omega
  · intro h0 g o qq e
    rcases hnw with h | h
    · simp only [Option.some.injEq, Addr.mk.injEq, and_true] at h
      rw [← h]; exact HF h0 g o qq e
    · rcases HH.2.2 with e2 | ⟨b, off, e2, hb, _⟩
      · have := HH.1
        rw [e2] at this
        simp at this
        omega
      · rw [e] at e2
        simp only [Option.some.injEq, Addr.mk.injEq] at e2
        omega

set_option maxHeartbeats 16000000 in
set_option maxRecDepth 20000 in
theorem ways_any (d : PlanD) (w : World) (hl : d.lie w) (hc : (chkP d.p).1 = 0) : Calls Tryz.prog 49 #[d.v] w (WaysDone d.p hc w) := by
  have en : d.p.ss.length = d.states.n := by simp [PlanD.p, hl.ss.1]
  have hn8 : d.states.n ≤ 8 := by have : (d.p.ss.length : Int) ≤ 8 := (chk_zero hc 2 (by decide)).2.1; omega
  obtain ⟨W1, hW1⟩ : ∃ W1, W1 = w.alloc (.cells #[.slice d.heads.a d.heads.n d.heads.c, .slice d.mta.a d.mta.n d.mta.c, .slice d.states.a d.states.n d.states.c, .slice d.acts.a d.acts.n d.acts.c, .slice d.tabs.a d.tabs.n d.tabs.c, .slice d.nodes.a d.nodes.n d.nodes.c, .slice d.out.a d.out.n d.out.c] 29) := ⟨_, rfl⟩
  obtain ⟨s, es⟩ : ∃ s, s = w.heap.size := ⟨_, rfl⟩
  have hb1 : Below w.heap.size w W1 := by rw [hW1]; exact bl_alloc (Below.refl _ _)
  have hps : W1.cell? ⟨s, 0, none⟩ = some (.slice d.heads.a d.heads.n d.heads.c) ∧ W1.cell? ⟨s, 1, none⟩ = some (.slice d.mta.a d.mta.n d.mta.c) ∧ W1.cell? ⟨s, 2, none⟩ = some (.slice d.states.a d.states.n d.states.c) ∧ W1.cell? ⟨s, 3, none⟩ = some (.slice d.acts.a d.acts.n d.acts.c) ∧ W1.cell? ⟨s, 4, none⟩ = some (.slice d.tabs.a d.tabs.n d.tabs.c) ∧ W1.cell? ⟨s, 5, none⟩ = some (.slice d.nodes.a d.nodes.n d.nodes.c) ∧ W1.cell? ⟨s, 6, none⟩ = some (.slice d.out.a d.out.n d.out.c) := by rw [hW1, es]; refine ⟨?_, ?_, ?_, ?_, ?_, ?_, ?_⟩ <;> exact (World.cell?_alloc_at _ _ _ _ rfl).trans rfl
  obtain ⟨W2, hW2⟩ : ∃ W2, W2 = W1.alloc (.cells #[.int .i64 0, .int .u64 0, .int .i64 0] 148) := ⟨_, rfl⟩
  have HB2 : Hid (Below W1.heap.size W1 W2) := by rw [hW2]; exact bl_alloc (Below.refl _ _)
  obtain ⟨g0, eg0⟩ : ∃ g0, g0 = W1.heap.size := ⟨_, rfl⟩
  have HO2 : Hid (OwnW W1.heap.size (some ⟨g0, 0, none⟩) 1 [⟨0, 0, 0⟩] W2) := by rw [eg0, hW2]; exact ways_new W1
  have E2 : Hid ((w.alloc (.cells #[.slice d.heads.a d.heads.n d.heads.c, .slice d.mta.a d.mta.n d.mta.c, .slice d.states.a d.states.n d.states.c, .slice d.acts.a d.acts.n d.acts.c, .slice d.tabs.a d.tabs.n d.tabs.c, .slice d.nodes.a d.nodes.n d.nodes.c, .slice d.out.a d.out.n d.out.c] 29)).alloc (.cells #[.int .i64 0, .int .u64 0, .int .i64 0] 148) = W2) := by show _ = _; rw [hW2, hW1]
  have EG : Hid (w.heap.size + 1 = g0) := by show _ = _; rw [eg0, hW1]; simp
  have ES := hid es.symm
  have HL := hid hl
  have HC := hid hc
  have HN8 := hid hn8
  have EN := hid en
  have HBW1 := hid hb1
  have HPS := hid hps
  have HGB : Hid (g0 = W1.heap.size) := eg0
  clear hl hn8 en hb1 hps hW1 hW2 es eg0
  have HHC := hid hc
  go_enter Tryz.func49, Tryz.ntmps49
  go_wp2
  rw [E2.out, EG.out, ES.out]
  clear E2 EG ES
  go_loopw [4, 3, 5, 6, 7, 8, 9, 10] (fun q4 q3 _ _ _ _ _ _ wr => ∃ (i : Nat) (L : List Wk.Way) (la : Nat) (lc : Nat), i ≤ L.length ∧ q4 = .int .i64 i ∧ q3 = .slice (some ⟨la, 0, none⟩) L.length lc ∧ Hid (Wk.Gone (parOf d.p hc) (ldOf d.p) i L) ∧ Hid (OwnW W1.heap.size (some ⟨la, 0, none⟩) lc L wr) ∧ Hid (Below W1.heap.size W1 wr)) (fun q4 _ _ _ _ _ _ _ _ => 2 ^ (d.states.n + 1) + 1 - (intOf q4).toNat)
  case atStart => exact ⟨0, [⟨0, 0, 0⟩], g0, 1, Nat.zero_le _, rfl, rfl, Wk.Gone.start _ _, HO2, HB2⟩
  case round =>
    obtain ⟨i, L, lg, lc, hi, rfl, rfl, HG, HO, HB⟩ := hrel
    have HLL : Hid (L.length ≤ 512) := by
      have h1 := HG.out.len
      have h2 : 2 ^ ((parOf d.p hc).n + 1) ≤ 2 ^ 9 := Nat.pow_le_pow_right (by decide) (by show d.p.ss.length + 1 ≤ 9; rw [EN.out]; have := HN8.out; omega)
      show L.length ≤ 512
      omega
    have HLG : Hid (lg < wr.heap.size) := (HO.out.lt lg rfl).2
    by_cases hlt : i < L.length
    · have hii : (i : Int) < (L.length : Int) := by omega
      obtain ⟨y, hy⟩ : ∃ y, L[i]? = some y := ⟨L[i], List.getElem?_eq_getElem hlt⟩
      obtain ⟨lg', elg, hlB, q0, q1, q2⟩ := HO.out.at hy
      simp only [Option.some.injEq, Addr.mk.injEq, and_true] at elg
      subst elg
      have hyn : y.st ≤ d.states.n := by have h := HG.out.st y (List.mem_of_getElem? hy); rw [← EN.out]; exact h
      have hys := gone_small hc HG.out y (List.mem_of_getElem? hy)
      have HNX : Hid (Wk.Gone (parOf d.p hc) (ldOf d.p) (i + 1) (L ++ Wk.succW (parOf d.p hc) (ldOf d.p) y)) := HG.out.next (leads_same hc) (fun j => leadR_nodup _ _) hy
      obtain ⟨z0, z1, z2, z3, z4, z5, z6⟩ := keep7 HPS.out HB.out
      have hsl : s < wr.heap.size := World.block_lt_of_cell? wr _ z0
      have h512 := HLL.out
      by_cases hst : y.st = d.states.n
      · have hstb : ((y.st : Int) == (d.states.n : Int)) = true := by rw [hst]; simp
        have RG : Hid (Wk.Gone (parOf d.p hc) (ldOf d.p) (i + 1) L) := by
          have h := HNX.out
          have e : Wk.succW (parOf d.p hc) (ldOf d.p) y = [] := by unfold Wk.succW; rw [if_pos (by show y.st = d.p.ss.length; rw [EN.out]; exact hst)]
          rw [e, List.append_nil] at h
          exact h
        have RO : Hid (∀ o, OwnW W1.heap.size (some ⟨lg, 0, none⟩) lc L (wr.alloc o)) := fun o => HO.out.step (bl_alloc (Below.refl _ _))
        have RB : Hid (∀ o, Below W1.heap.size W1 (wr.alloc o)) := fun o => bl_alloc HB.out
        have HMS : Hid (i < 2 ^ (d.states.n + 1)) := by have h1 := HG.out.len; have h2 : (parOf d.p hc).n = d.states.n := EN.out; show i < _; rw [h2] at h1; omega
        clear HG HO HB HNX hys hyn
        go_wp2
        go_roundw
        case rel => exact ⟨i + 1, L, _, _, by omega, by go_num, rfl, RG, RO.out _, RB.out _⟩
        case measure => have := HMS.out; simp [intOf]; omega
      · have hstn : y.st < d.states.n := by omega
        have hstb : ((y.st : Int) == (d.states.n : Int)) = false := by rw [beq_eq_false_iff_ne]; omega
        obtain ⟨sg, so, x, ea, hx, hp⟩ := row_at (HL.out.step (bl_step HBW1.out HB.out)).ss hstn
        rw [ea] at z2
        obtain ⟨⟨k0, _⟩, ⟨k1, _⟩, ⟨k2, _⟩, ⟨k3, _⟩, ⟨k4, _⟩, _⟩ := hp
        have HXX := hid hx
        have hsgl : sg < wr.heap.size := World.block_lt_of_cell? wr _ k0
        have HOK : Hid (StateOk d.p y.st x.p) := by have := state_ok hc (i := y.st) (by rw [EN.out]; exact hstn); rwa [p_at hx] at this
        have hsti : (y.st : Int) < (d.states.n : Int) := by omega
        have hst0 : (0 : Int) ≤ (y.st : Int) := by omega
        have hhx : x.head = -1 ∨ 0 ≤ x.head ∧ x.head < (d.p.hs.length : Int) := HOK.out.head
        by_cases hh : x.head < 0
        · obtain ⟨W8, hW8⟩ : ∃ W8, W8 = (wr.alloc (.cells #[.int .i64 (y.st : Int), .int .u64 (y.tk : Int), .int .i64 (y.by_ : Int)] 148)).alloc (.cells #[.int .i64 x.head, .int .i64 x.r.h, .int .i64 x.r.f, .slice x.cases.a x.cases.n x.cases.c, .int .i64 x.els] 76) := ⟨_, rfl⟩
          have hh' : ¬ (0 : Int) ≤ x.head := by omega
          obtain ⟨b5, hb5⟩ : ∃ b5, b5 = wr.heap.size := ⟨_, rfl⟩
          obtain ⟨TK, hTK⟩ : ∃ TK, TK = y.tk := ⟨_, rfl⟩
          obtain ⟨BY, hBY⟩ : ∃ BY, BY = y.by_ := ⟨_, rfl⟩
          have bw8 : Below wr.heap.size wr W8 := by rw [hW8]; exact bl_alloc (bl_alloc (Below.refl _ _))
          have HB8 := hid (bl_step HB.out bw8)
          have HO8 := hid (HO.out.step bw8)
          have HP8 : Hid (W8.cell? ⟨b5, 1, none⟩ = some (.int .u64 (TK : Int)) ∧ W8.cell? ⟨b5, 2, none⟩ = some (.int .i64 (BY : Int))) := by
            rw [hW8, hb5, hTK, hBY]
            exact ⟨(World.cell?_alloc_past _ _ _ (by simp)).trans ((World.cell?_alloc_at _ _ _ _ rfl).trans rfl), (World.cell?_alloc_past _ _ _ (by simp)).trans ((World.cell?_alloc_at _ _ _ _ rfl).trans rfl)⟩
          have HLG8 : Hid (lg < W8.heap.size) := Nat.lt_of_lt_of_le HLG.out bw8.size
          have HLB : Hid (lg ≠ b5) := by show lg ≠ b5; have := HLG.out; omega
          have HSU : Hid (Wk.succW (parOf d.p hc) (ldOf d.p) y = (leadR d.states.n (outsP x.p)).map (fun j => (⟨j, TK, BY⟩ : Wk.Way))) := by
            show _ = _
            rw [succ_at (EN.out) hc hstn hx, hTK, hBY]
            have e1 : bitN x.head = 0 := by unfold bitN; rw [if_pos hh]
            have e2 : szP d.p x.p = 0 := by unfold szP; rw [if_pos (show x.p.head < 0 from hh)]
            rw [e1, e2, Nat.or_zero, Nat.add_zero]
          have HMS : Hid (i < 2 ^ (d.states.n + 1)) := by have h1 := HG.out.len; have h2 : (parOf d.p hc).n = d.states.n := EN.out; show i < _; rw [h2] at h1; omega
          have E8 := hid hW8
          have E5 := hid hb5
          have HLE := hid (leads_any (HL.out.step (bl_step HBW1.out HB8.out)) hstn HXX.out HOK.out HN8.out)
          unfold PlanD.v at HLE
          rw [ea] at HLE
          clear hW8 hb5 hTK hBY bw8 HG HO HB hys hyn
          go_wp2_with fail
          rw [← E8.out, ← E5.out]
          clear E8 E5 k0 k1 k2 k3 k4 q0 q1 q2 z0 z1 z2 z3 z4 z5 z6

          refine HLE.out.mono ?_
          rintro e w9 ⟨ka, kc, rfl, hh9, hfr9, hb9⟩
          have HB9 := hid (bl_step HB8.out hb9)
          have HO9 := hid (HO8.out.step hb9)
          obtain ⟨M, hM⟩ : ∃ M, M = leadR d.states.n (outsP x.p) := ⟨_, rfl⟩
          rw [← hM] at hh9 ⊢
          have HM := hid hM
          have HV := hid (And.intro (cell_keep HP8.out.1 hb9) (cell_keep HP8.out.2 hb9))
          have H9 := hid hh9
          have HKF : Hid (0 < M.length → ∀ g o qq, ka = some ⟨g, o, qq⟩ → lg ≠ g) := fun _ g o qq e h => by have := hfr9 g o qq e; have := HLG8.out; omega
          have hb5l : Hid (lg ≠ b5) := HLB.out
          have HML : Hid (M.length ≤ 9) := by
            show M.length ≤ 9
            rw [HM.out]
            exact nodup_le (leadR_nodup _ _) fun j hj => by obtain ⟨_, _, _, h⟩ := mem_leadR.1 hj; have := HN8.out; omega
          clear HLE hh9 hfr9 hb9 hM HB8 HO8 HP8
          go_wp2
          go_loopw [10, 3] (fun q10 q3 wr2 => ∃ (k : Nat) (ga : Nat) (gc : Nat), k ≤ M.length ∧ q10 = .int .i64 k ∧ q3 = .slice (some ⟨ga, 0, none⟩) (L.length + k) gc ∧ Hid (OwnW W1.heap.size (some ⟨ga, 0, none⟩) gc (L ++ (M.take k).map (fun j => (⟨j, TK, BY⟩ : Wk.Way))) wr2) ∧ Hid (wr2.cell? ⟨b5, 1, none⟩ = some (.int .u64 (TK : Int)) ∧ wr2.cell? ⟨b5, 2, none⟩ = some (.int .i64 (BY : Int))) ∧ Hid (Has .i64 wr2 ka M.length (M.map (fun j : Nat => (j : Int)))) ∧ Hid (ga ≠ b5) ∧ Hid (0 < M.length → ∀ g o qq, ka = some ⟨g, o, qq⟩ → ga ≠ g) ∧ Hid (Below W1.heap.size W1 wr2)) (fun q10 _ _ => M.length - (intOf q10).toNat)
          case atStart => exact ⟨0, lg, lc, Nat.zero_le _, rfl, rfl, by show OwnW _ _ _ (L ++ []) _; rw [List.append_nil]; exact HO9.out, HV, H9, hb5l, HKF, HB9⟩
          case round =>
            obtain ⟨k, ga, gc, hk, rfl, rfl, HOk, HVk, HHk, HGk, HFk, HBk⟩ := hrel
            by_cases hkl : k < M.length
            · have hki : (k : Int) < (M.length : Int) := by omega
              obtain ⟨mb, mo, eka, hmb, hmc⟩ := HHk.out.some (by omega)
              obtain rfl : ka = some ⟨mb, mo, none⟩ := eka
              have hm9 := HML.out
              have hm := hmc k hkl
              obtain ⟨j, hj⟩ : ∃ j, M[k]? = some j := ⟨M[k], List.getElem?_eq_getElem hkl⟩
              have ejk : (M.map (fun j : Nat => (j : Int))).getD k 0 = (j : Int) := by rw [List.getD_eq_getElem?_getD, List.getElem?_map, hj]; rfl
              rw [ejk] at hm
              obtain ⟨n1, n2⟩ := HVk.out
              obtain ⟨g6, cap6, w6, hrun6, NO, NB, NF, NG⟩ := ways_push HOk.out HHk.out HVk.out HGk.out HFk.out HBk.out (j := j) (K := L.length + k) (by simp; omega) (by have := HLL.out; have := HML.out; omega)
              have ND : Hid (L ++ (M.take (k + 1)).map (fun j => (⟨j, TK, BY⟩ : Wk.Way)) = L ++ (M.take k).map (fun j => (⟨j, TK, BY⟩ : Wk.Way)) ++ [⟨j, TK, BY⟩]) := by
                show _ = _
                rw [List.take_add_one, hj]
                simp
              obtain ⟨NH, NV, NW⟩ := NF
              have RO : Hid (OwnW W1.heap.size (some ⟨g6, 0, none⟩) cap6 (L ++ (M.take (k + 1)).map (fun j => (⟨j, TK, BY⟩ : Wk.Way))) w6) := by show OwnW _ _ _ _ _; rw [ND.out]; exact NO
              have RV := hid NV
              have RH := hid NH
              have RB := hid NB
              have RG := hid NG.1
              have RF := hid NG.2
              clear hj ejk hmc hmb NO NB NH NV NW NG ND HOk HVk HHk HGk HFk HBk
              go_wp2_with fail
              go_region_law (first
                | (refine append_runR rfl _ _ rfl (by simp [Act.eval]) (by simp [Act.eval]) hrun6 ?_))
              all_goals
                go_wp2
                go_roundw
                case rel => exact ⟨k + 1, g6, cap6, by omega, by go_num, by rw [Nat.add_assoc], RO, RV, RH, RG, RF, RB⟩
                case measure => simp [intOf]; omega
            · have ek : k = M.length := by omega
              have hki : ¬ (k : Int) < (M.length : Int) := by omega
              have RO : Hid (OwnW W1.heap.size (some ⟨ga, 0, none⟩) gc (L ++ Wk.succW (parOf d.p hc) (ldOf d.p) y) wr) := by
                have h := HOk.out
                have e : Wk.succW (parOf d.p hc) (ldOf d.p) y = (M.take k).map (fun j => (⟨j, TK, BY⟩ : Wk.Way)) := by
                  rw [ek, List.take_length, HSU.out, HM.out]
                show OwnW _ _ _ _ _
                rw [e]; exact h
              have RL : Hid ((L ++ Wk.succW (parOf d.p hc) (ldOf d.p) y).length = L.length + k) := by
                show _ = _
                have e : Wk.succW (parOf d.p hc) (ldOf d.p) y = M.map (fun j => (⟨j, TK, BY⟩ : Wk.Way)) := by rw [HSU.out, HM.out]
                rw [e, List.length_append, List.length_map, ek]
              clear HOk HVk HHk HGk HFk ek
              go_wp2
              go_roundw
              case rel => exact ⟨i + 1, L ++ Wk.succW (parOf d.p hc) (ldOf d.p) y, ga, gc, by rw [RL.out]; omega, by go_num, by rw [RL.out], HNX, RO, HBk⟩
              case measure => have := HMS.out; simp [intOf]; omega

        · have h0 : (0 : Int) ≤ x.head := by omega
          have e6 : (d.p.hs.length : Int) ≤ 6 := (chk_zero hc 0 (by decide)).2.1
          have eh : d.p.hs.length = d.heads.n := by simp [PlanD.p, HL.out.hs.1]
          have hhn : x.head.toNat < d.heads.n := by omega
          obtain ⟨hg, hof, hd, ea2, hxh, hph⟩ := row_at (HL.out.step (bl_step HBW1.out HB.out)).hs hhn
          rw [Nat.mul_one] at hph
          have hz : sizeC (d.p.hs.getD x.head.toNat []) = 0 := (chk_zero hc 0 (by decide)).2.2 _ (by show _ < d.p.hs.length; omega)
          have ew : d.p.hs.getD x.head.toNat [] = hd.ws := map_getD hxh _
          rw [ew] at hz
          have e2 : szP d.p x.p = sizeN hd.ws := by
            unfold szP
            rw [if_neg (show ¬ x.p.head < 0 from hh)]
            show sizeN (d.p.hs.getD x.head.toNat []) = _
            rw [ew]
          have hsz : sizeN hd.ws ≤ 32 := by obtain ⟨_, _, _, _, h⟩ := sizeC_good hz; unfold sizeN; omega
          rw [ea2] at z0
          have c0 := hph.1.1
          have hgl : hg < wr.heap.size := World.block_lt_of_cell? wr _ c0
          have hxi : x.head < (d.heads.n : Int) := by omega
          have h6 : x.head < 6 := by omega
          have HSZ : Hid (∀ o o', Calls Tryz.prog 64 #[.agg #[.slice hd.w.a hd.w.n hd.w.c]] ((wr.alloc o).alloc o') fun e w'' => e = .returned (.tuple #[.int .i64 (sizeN hd.ws : Int), .agg #[.int .i64 0, .int .i64 0]]) ∧ Below ((wr.alloc o).alloc o').heap.size ((wr.alloc o).alloc o') w'') := fun o o' => rsize_good _ _ _ _ _ (hph.2.step (bl_alloc (bl_alloc (Below.refl _ _)))) hz
          have HBT : Hid (∀ w', Calls Tryz.prog 50 #[.int .i64 x.head] w' fun e w'' => e = .returned (.int .u64 (bitN x.head)) ∧ w'' = w') := fun w' => rbit_any x.head h0 h6 w'
          obtain ⟨b5, hb5⟩ : ∃ b5, b5 = wr.heap.size := ⟨_, rfl⟩
          obtain ⟨b6, hb6⟩ : ∃ b6, b6 = wr.heap.size + 1 := ⟨_, rfl⟩
          obtain ⟨W4, hW4⟩ : ∃ W4, W4 = (wr.alloc (.cells #[.int .i64 (y.st : Int), .int .u64 (y.tk : Int), .int .i64 (y.by_ : Int)] 148)).alloc (.cells #[.int .i64 x.head, .int .i64 x.r.h, .int .i64 x.r.f, .slice x.cases.a x.cases.n x.cases.c, .int .i64 x.els] 76) := ⟨_, rfl⟩
          have HS4 := hid (HSZ.out (.cells #[.int .i64 (y.st : Int), .int .u64 (y.tk : Int), .int .i64 (y.by_ : Int)] 148) (.cells #[.int .i64 x.head, .int .i64 x.r.h, .int .i64 x.r.f, .slice x.cases.a x.cases.n x.cases.c, .int .i64 x.els] 76))
          rw [← hW4] at HS4
          have b4 : Below wr.heap.size wr W4 := by rw [hW4]; exact bl_alloc (bl_alloc (Below.refl _ _))
          have H4 : Hid ((W4.cell? ⟨b5, 0, none⟩ = some (.int .i64 (y.st : Int)) ∧ W4.cell? ⟨b5, 1, none⟩ = some (.int .u64 (y.tk : Int)) ∧ W4.cell? ⟨b5, 2, none⟩ = some (.int .i64 (y.by_ : Int)) ∧ W4.cell? ⟨b6, 0, none⟩ = some (.int .i64 x.head)) ∧ (∀ o, W4.frozen? ⟨b5, o, none⟩ = false) ∧ b5 < W4.heap.size ∧ b6 < W4.heap.size ∧ b5 ≠ b6) := by
            rw [hW4, hb5, hb6]
            exact ⟨⟨(World.cell?_alloc_past _ _ _ (by simp)).trans ((World.cell?_alloc_at _ _ _ _ rfl).trans rfl), (World.cell?_alloc_past _ _ _ (by simp)).trans ((World.cell?_alloc_at _ _ _ _ rfl).trans rfl), (World.cell?_alloc_past _ _ _ (by simp)).trans ((World.cell?_alloc_at _ _ _ _ rfl).trans rfl), (World.cell?_alloc_at _ _ _ _ (by simp)).trans rfl⟩, fun o => (World.frozen?_alloc_past _ _ _ (by simp)).trans (World.frozen?_alloc_at _ _ _ _ rfl), by simp; omega, by simp, by omega⟩
          have E4 := hid hW4
          have E5 := hid hb5
          have E6 := hid hb6
          have HB4 := hid b4
          have HZZ := hid e2
          have HWB : Hid (W1.heap.size ≤ b5) := by show W1.heap.size ≤ b5; have := HB.out.size; omega
          have o1 := u64or y.tk (bitN x.head) (few64 hys.1) (few64 (bitN_six h6))
          have hby := hys.2
          have HHB := hid (bitN_six h6)
          generalize sizeN hd.ws = Z at *
          clear hW4 hb5 hb6 b4 hph hz ew e2 hxh HSZ hhx e6 eh hhn
          go_wp2_with fail
          rw [← E4.out, ← E6.out, ← E5.out]
          refine HS4.out.mono ?_
          rintro e w5 ⟨rfl, hb5⟩
          have b45 := bl_step HB4.out hb5
          have u0 := cell_keep H4.out.1.1 hb5
          have u1 := cell_keep H4.out.1.2.1 hb5
          have u2 := cell_keep H4.out.1.2.2.1 hb5
          have u3 := cell_keep H4.out.1.2.2.2 hb5
          have f1 := (hb5.frozen (p := ⟨b5, 1, none⟩) H4.out.2.2.1).trans (H4.out.2.1 1)
          have f2 := (hb5.frozen (p := ⟨b5, 2, none⟩) H4.out.2.2.1).trans (H4.out.2.1 2)
          have l5 : b5 < w5.heap.size := Nat.lt_of_lt_of_le H4.out.2.2.1 hb5.size
          have l6 : b6 < w5.heap.size := Nat.lt_of_lt_of_le H4.out.2.2.2.1 hb5.size
          have n56 : b5 ≠ b6 := H4.out.2.2.2.2
          have HB5 := hid b45
          obtain ⟨t0, t1, t2, t3, t4, t5, t6⟩ := keep7 HPS.out (bl_step HB.out b45)
          rw [ea2] at t0
          rw [ea] at t2
          have tsl : s < w5.heap.size := World.block_lt_of_cell? w5 _ t0
          have nsb : s ≠ b5 := by have := E5.out; omega
          clear HS4 hb5 b45 k0 k1 k2 k3 k4 q0 q1 q2 z0 z1 z2 z3 z4 z5 z6 c0 hsl hsgl hgl E4 E6
          go_wp2_with fail
          go_region_with (go_at_call 50; refine (HBT.out _).mono ?_; rintro e wy ⟨rfl, rfl⟩)
          all_goals
            obtain ⟨TK, hTK⟩ : ∃ TK, TK = y.tk ||| bitN x.head := ⟨_, rfl⟩
            obtain ⟨BY, hBY⟩ : ∃ BY, BY = y.by_ + Z := ⟨_, rfl⟩
            have HSU : Hid (Wk.succW (parOf d.p hc) (ldOf d.p) y = (leadR d.states.n (outsP x.p)).map (fun j => (⟨j, TK, BY⟩ : Wk.Way))) := by
              show _ = _
              rw [succ_at (EN.out) hc hstn hx, hTK, hBY, HZZ.out]
            have HMS : Hid (i < 2 ^ (d.states.n + 1)) := by have h1 := HG.out.len; have h2 : (parOf d.p hc).n = d.states.n := EN.out; show i < _; rw [h2] at h1; omega
            obtain ⟨W8, hW8⟩ : ∃ W8, W8 = (((w5.setCell ⟨b5, 1, none⟩ (.int .u64 ((y.tk ||| bitN x.head : Nat) : Int))).setCell ⟨b5, 2, none⟩ (.int .i64 ((y.by_ : Int) + (Z : Int)))).alloc (.cells #[.int .i64 0, .int .i64 0] 35)).drew := ⟨_, rfl⟩
            have kb : But b5 w5 ((w5.setCell ⟨b5, 1, none⟩ (.int .u64 ((y.tk ||| bitN x.head : Nat) : Int))).setCell ⟨b5, 2, none⟩ (.int .i64 ((y.by_ : Int) + (Z : Int)))) := set_but.trans set_but
            have k8 : Below ((w5.setCell ⟨b5, 1, none⟩ (.int .u64 ((y.tk ||| bitN x.head : Nat) : Int))).setCell ⟨b5, 2, none⟩ (.int .i64 ((y.by_ : Int) + (Z : Int)))).heap.size ((w5.setCell ⟨b5, 1, none⟩ (.int .u64 ((y.tk ||| bitN x.head : Nat) : Int))).setCell ⟨b5, 2, none⟩ (.int .i64 ((y.by_ : Int) + (Z : Int)))) W8 := by rw [hW8]; exact (bl_alloc (Below.refl _ _)).drew
            have hlb : lg ≠ b5 := by have := HLG.out; have := E5.out; omega
            have HB8 : Hid (Below W1.heap.size W1 W8) := bl_step ((bl_step HB.out HB5.out).trans (kb.low.mono HWB.out)) k8
            have HO8 : Hid (OwnW W1.heap.size (some ⟨lg, 0, none⟩) lc L W8) := by
              have h1 := HO.out.step HB5.out
              unfold OwnW at h1
              have h2 := ownsRow_setCell_other h1 (a := ⟨b5, 1, none⟩) (by simp [Value.ownBlock]; exact hlb) (.int .u64 ((y.tk ||| bitN x.head : Nat) : Int))
              have h3 := ownsRow_setCell_other h2 (a := ⟨b5, 2, none⟩) (by simp [Value.ownBlock]; exact hlb) (.int .i64 ((y.by_ : Int) + (Z : Int)))
              exact OwnW.step h3 k8
            have HP8 : Hid (W8.cell? ⟨b5, 1, none⟩ = some (.int .u64 (TK : Int)) ∧ W8.cell? ⟨b5, 2, none⟩ = some (.int .i64 (BY : Int))) := by
              rw [hTK, hBY]
              exact ⟨cell_keep (cell_other (World.cell?_setCell_same _ _ _ u1) (by omega)) k8, cell_keep (by have := World.cell?_setCell_same (w5.setCell ⟨b5, 1, none⟩ (.int .u64 ((y.tk ||| bitN x.head : Nat) : Int))) ⟨b5, 2, none⟩ (.int .i64 ((y.by_ : Int) + (Z : Int))) (cell_other u2 (by omega)); rw [show (((y.by_ + Z : Nat) : Int)) = (y.by_ : Int) + (Z : Int) by omega]; exact this) k8⟩
            have HLG8 : Hid (lg < W8.heap.size) := (HO8.out.lt lg rfl).2
            have HLB := hid hlb
            have E8 := hid hW8
            have HLE := hid (leads_any (HL.out.step (bl_step HBW1.out HB8.out)) hstn HXX.out HOK.out HN8.out)
            unfold PlanD.v at HLE
            rw [ea, ea2] at HLE
            clear hW8 hTK hBY kb k8 HG HO HB hys hyn HBT
            go_wp2_with fail
            rw [← E8.out]
            clear E8 u0 u1 u2 u3 f1 f2 l5 l6 n56 t0 t1 t2 t3 t4 t5 t6 tsl nsb o1 hby hlb

            refine HLE.out.mono ?_
            rintro e w9 ⟨ka, kc, rfl, hh9, hfr9, hb9⟩
            have HB9 := hid (bl_step HB8.out hb9)
            have HO9 := hid (HO8.out.step hb9)
            obtain ⟨M, hM⟩ : ∃ M, M = leadR d.states.n (outsP x.p) := ⟨_, rfl⟩
            rw [← hM] at hh9 ⊢
            have HM := hid hM
            have HV := hid (And.intro (cell_keep HP8.out.1 hb9) (cell_keep HP8.out.2 hb9))
            have H9 := hid hh9
            have HKF : Hid (0 < M.length → ∀ g o qq, ka = some ⟨g, o, qq⟩ → lg ≠ g) := fun _ g o qq e h => by have := hfr9 g o qq e; have := HLG8.out; omega
            have hb5l : Hid (lg ≠ b5) := HLB.out
            have HML : Hid (M.length ≤ 9) := by
              show M.length ≤ 9
              rw [HM.out]
              exact nodup_le (leadR_nodup _ _) fun j hj => by obtain ⟨_, _, _, h⟩ := mem_leadR.1 hj; have := HN8.out; omega
            clear HLE hh9 hfr9 hb9 hM HB8 HO8 HP8
            go_wp2
            go_loopw [10, 3] (fun q10 q3 wr2 => ∃ (k : Nat) (ga : Nat) (gc : Nat), k ≤ M.length ∧ q10 = .int .i64 k ∧ q3 = .slice (some ⟨ga, 0, none⟩) (L.length + k) gc ∧ Hid (OwnW W1.heap.size (some ⟨ga, 0, none⟩) gc (L ++ (M.take k).map (fun j => (⟨j, TK, BY⟩ : Wk.Way))) wr2) ∧ Hid (wr2.cell? ⟨b5, 1, none⟩ = some (.int .u64 (TK : Int)) ∧ wr2.cell? ⟨b5, 2, none⟩ = some (.int .i64 (BY : Int))) ∧ Hid (Has .i64 wr2 ka M.length (M.map (fun j : Nat => (j : Int)))) ∧ Hid (ga ≠ b5) ∧ Hid (0 < M.length → ∀ g o qq, ka = some ⟨g, o, qq⟩ → ga ≠ g) ∧ Hid (Below W1.heap.size W1 wr2)) (fun q10 _ _ => M.length - (intOf q10).toNat)
            case atStart => exact ⟨0, lg, lc, Nat.zero_le _, rfl, rfl, by show OwnW _ _ _ (L ++ []) _; rw [List.append_nil]; exact HO9.out, HV, H9, hb5l, HKF, HB9⟩
            case round =>
              obtain ⟨k, ga, gc, hk, rfl, rfl, HOk, HVk, HHk, HGk, HFk, HBk⟩ := hrel
              by_cases hkl : k < M.length
              · have hki : (k : Int) < (M.length : Int) := by omega
                obtain ⟨mb, mo, eka, hmb, hmc⟩ := HHk.out.some (by omega)
                obtain rfl : ka = some ⟨mb, mo, none⟩ := eka
                have hm9 := HML.out
                have hm := hmc k hkl
                obtain ⟨j, hj⟩ : ∃ j, M[k]? = some j := ⟨M[k], List.getElem?_eq_getElem hkl⟩
                have ejk : (M.map (fun j : Nat => (j : Int))).getD k 0 = (j : Int) := by rw [List.getD_eq_getElem?_getD, List.getElem?_map, hj]; rfl
                rw [ejk] at hm
                obtain ⟨n1, n2⟩ := HVk.out
                obtain ⟨g6, cap6, w6, hrun6, NO, NB, NF, NG⟩ := ways_push HOk.out HHk.out HVk.out HGk.out HFk.out HBk.out (j := j) (K := L.length + k) (by simp; omega) (by have := HLL.out; have := HML.out; omega)
                have ND : Hid (L ++ (M.take (k + 1)).map (fun j => (⟨j, TK, BY⟩ : Wk.Way)) = L ++ (M.take k).map (fun j => (⟨j, TK, BY⟩ : Wk.Way)) ++ [⟨j, TK, BY⟩]) := by
                  show _ = _
                  rw [List.take_add_one, hj]
                  simp
                obtain ⟨NH, NV, NW⟩ := NF
                have RO : Hid (OwnW W1.heap.size (some ⟨g6, 0, none⟩) cap6 (L ++ (M.take (k + 1)).map (fun j => (⟨j, TK, BY⟩ : Wk.Way))) w6) := by show OwnW _ _ _ _ _; rw [ND.out]; exact NO
                have RV := hid NV
                have RH := hid NH
                have RB := hid NB
                have RG := hid NG.1
                have RF := hid NG.2
                clear hj ejk hmc hmb NO NB NH NV NW NG ND HOk HVk HHk HGk HFk HBk
                go_wp2_with fail
                go_region_law (first
                  | (refine append_runR rfl _ _ rfl (by simp [Act.eval]) (by simp [Act.eval]) hrun6 ?_))
                all_goals
                  go_wp2
                  go_roundw
                  case rel => exact ⟨k + 1, g6, cap6, by omega, by go_num, by rw [Nat.add_assoc], RO, RV, RH, RG, RF, RB⟩
                  case measure => simp [intOf]; omega
              · have ek : k = M.length := by omega
                have hki : ¬ (k : Int) < (M.length : Int) := by omega
                have RO : Hid (OwnW W1.heap.size (some ⟨ga, 0, none⟩) gc (L ++ Wk.succW (parOf d.p hc) (ldOf d.p) y) wr) := by
                  have h := HOk.out
                  have e : Wk.succW (parOf d.p hc) (ldOf d.p) y = (M.take k).map (fun j => (⟨j, TK, BY⟩ : Wk.Way)) := by
                    rw [ek, List.take_length, HSU.out, HM.out]
                  show OwnW _ _ _ _ _
                  rw [e]; exact h
                have RL : Hid ((L ++ Wk.succW (parOf d.p hc) (ldOf d.p) y).length = L.length + k) := by
                  show _ = _
                  have e : Wk.succW (parOf d.p hc) (ldOf d.p) y = M.map (fun j => (⟨j, TK, BY⟩ : Wk.Way)) := by rw [HSU.out, HM.out]
                  rw [e, List.length_append, List.length_map, ek]
                clear HOk HVk HHk HGk HFk ek
                go_wp2
                go_roundw
                case rel => exact ⟨i + 1, L ++ Wk.succW (parOf d.p hc) (ldOf d.p) y, ga, gc, by rw [RL.out]; omega, by go_num, by rw [RL.out], HNX, RO, HBk⟩
                case measure => have := HMS.out; simp [intOf]; omega

    · have ei : i = L.length := by omega
      have hii : ¬ (i : Int) < (L.length : Int) := by omega
      have HE : Hid (WaysDone d.p hc w (.returned (.slice (some ⟨lg, 0, none⟩) L.length lc)) wr) := by
        refine ⟨_, lc, L, rfl, HG.out.done ei, fun y hy => HG.out.st y hy, HG.out.len, ?_, bl_step HBW1.out HB.out⟩
        have h := HO.out
        unfold OwnW at h ⊢
        exact ⟨h.1, by
          rcases h.2 with h2 | ⟨g2, c2, cur, e2, hb2, r⟩
          · exact .inl h2
          · exact .inr ⟨g2, c2, cur, e2, Nat.le_trans HBW1.out.size hb2, r⟩⟩
      clear HG HO HB ei
      go_wp2
      go_ret
      exact HE.out
end Go.Proofs.YtkggocdannkdmaaGreat
