/- The document's bytes of a program: ProgramBytes. -/
import Derived.Test.YtcdpmpcpgijebaaGEnc
import Derived.Test.YtcdpmpcpgijebaaGPure
import Derived.Test.YtcdpmpcpgijebaaRef4
import Derived.Deep.RegionHeld3
namespace Go.Proofs.Ytcdpmpcpgijebaa
open Go.RowKit

theorem bit_big (k v j : Nat) (hj : j < 8 * k) : Mth.bit (bigL k v) j = v.testBit (8 * k - 1 - j) := by
  have hat : ∀ (k i : Nat), i < k → (bigL k v).getD i 0 = ((v / 256 ^ (k - 1 - i) % 256 : Nat) : Int) := by
    intro k
    induction k with
    | zero => intro i hi; omega
    | succ k ih =>
      intro i hi
      cases i with
      | zero => simp [bigL]
      | succ i =>
        have := ih i (by omega)
        rw [bigL, List.getD_cons_succ, this]
        congr 4
        omega
  unfold Mth.bit
  rw [hat k (j / 8) (by omega), Int.toNat_natCast, show (256 : Nat) = 2 ^ 8 from rfl, ← Nat.pow_mul, Nat.testBit_mod_two_pow, Nat.testBit_div_two_pow, decide_eq_true (by omega), Bool.true_and]
  congr 1
  omega

theorem by8_big (v : Nat) : Mth.by8 (Mth.nb v 64 64) 8 = bigL 8 v := by
  refine Mth.ext _ _ (Mth.by8_bytes _ _ (Mth.nb_bits _ _ _)) (gbytes_byt (bigL_byt _ _)) (by rw [Mth.by8_length, bigL_len]) (fun j hj => ?_)
  rw [Mth.by8_length] at hj
  rw [Mth.by8_bit _ _ _ (Mth.nb_bits _ _ _) hj, bit_big 8 v j hj, Mth.nb_at _ _ _ _ (by omega)]
  cases v.testBit (64 - 1 - j) <;> simp

theorem num_bo {zs : List Int} (h : GByt zs) (hl : zs.length = 8) : Mth.num (Mth.bo zs 64) 64 = numB zs := by
  have e : bigL 8 (numB zs) = zs := big_num' h hl
  have hlt : numB zs < 256 ^ 8 := numB_small h (by omega)
  have h1 := Mth.num_rd zs (Mth.bo zs 64) 0 64 (fun j hj => by rw [Mth.bo_at _ _ _ hj, Nat.zero_add])
  have h2 := Mth.rd_of_bits zs 0 64 (numB zs) 64 (Nat.le_refl _) (fun j hj => by
    rw [Nat.zero_add]
    conv => lhs; rw [← e]
    rw [bit_big 8 _ j (by omega)])
  rw [h1, h2, Nat.sub_self, Nat.pow_zero, Nat.div_one]
  exact Nat.mod_eq_of_lt hlt

theorem big1 {x : Int} (h : 0 ≤ x ∧ x < 256) : bigL 1 x.toNat = [x] := by
  simp only [bigL, Nat.pow_zero, Nat.div_one]
  congr 1
  omega
theorem big2 (n : Nat) : bigL 2 n = [((n / 256 % 256 : Nat) : Int), ((n % 256 : Nat) : Int)] := by
  simp only [bigL, Nat.pow_zero, Nat.div_one, Nat.pow_one]

/-- bytes that lie, put behind a row of bytes: the append's run -/
theorem GRowB.more {B : Nat} {a : Option Addr} {c : Nat} {bs : List Int} {w : World} (h : GRowB B (.slice a bs.length c) bs w) {ad : Option Addr} {m c2 : Nat} {zs : List Int} (hz : Has .u8 w ad m zs) (h0 : 0 < m) (hn : bs.length + m ≤ 9000000) (hB : B ≤ w.heap.size) :
    ∃ g cap w6, (Builtin.append_ #[26, 26] 26 #[.slice a bs.length c, .slice ad m c2]).run Try.prog w = .ok (.slice (some ⟨g, 0, none⟩) (bs.length + m) cap) w6 ∧ GRowB B (.slice (some ⟨g, 0, none⟩) (bs.length + m) cap) (bs ++ zs) w6 ∧ Below B w w6 := by
  have hz' := hz
  obtain ⟨b, off, rfl, _, _⟩ := hz.some h0
  obtain ⟨g, cap, w6, hrun, ho, hg⟩ := h.app (ad := ⟨b, off, none⟩) (m := m) (c2 := c2) (zs := zs) hz'.1 (has_cells hz') h0 (by omega) hB
  refine ⟨g, cap, w6, hrun, .inl ?_, (Below.refl _ _).grown hg hB fun k hk => (h.blk hk).1⟩
  rw [List.length_append, hz'.1]
  exact ho

theorem lit_has {w : World} {zs : List Int} (hz : GByt zs) : Has .u8 (w.alloc (.cells (BB zs).toArray 5)) (some ⟨w.heap.size, 0, none⟩) zs.length zs := by
  refine ⟨rfl, fun n hn => wf_u8 n (hz n hn), .inr ⟨w.heap.size, 0, rfl, by simp, fun i hi => ?_⟩⟩
  rw [World.cell?_alloc_at _ _ _ _ rfl]
  simp [BB, List.getD_eq_getElem?_getD, List.getElem?_eq_getElem hi]

/-- the same of bytes just made -/
theorem GRowB.lit {B : Nat} {a : Option Addr} {c : Nat} {bs : List Int} {w : World} (h : GRowB B (.slice a bs.length c) bs w) (zs : List Int) (hz : GByt zs) (h0 : 0 < zs.length) (hn : bs.length + zs.length ≤ 9000000) (hB : B ≤ w.heap.size) :
    ∃ g cap w6, (Builtin.append_ #[26, 26] 26 #[.slice a bs.length c, .slice (some ⟨w.heap.size, 0, none⟩) zs.length zs.length]).run Try.prog (w.alloc (.cells (BB zs).toArray 5)) = .ok (.slice (some ⟨g, 0, none⟩) (bs.length + zs.length) cap) w6 ∧ GRowB B (.slice (some ⟨g, 0, none⟩) (bs.length + zs.length) cap) (bs ++ zs) w6 ∧ Below B w w6 := by
  have b1 : Below w.heap.size w (w.alloc (.cells (BB zs).toArray 5)) := bl_alloc (Below.refl _ _)
  obtain ⟨g, cap, w6, hrun, hr, hb⟩ := (h.step b1).more (lit_has hz) (c2 := zs.length) h0 hn (Nat.le_trans hB b1.size)
  exact ⟨g, cap, w6, hrun, hr, (b1.mono hB).trans hb⟩

theorem GByt.three {x y z : Int} (h1 : 0 ≤ x ∧ x < 256) (h2 : 0 ≤ y ∧ y < 256) (h3 : 0 ≤ z ∧ z < 256) : GByt [x, y, z] := fun u hu => by
  simp only [List.mem_cons, List.not_mem_nil, or_false] at hu
  rcases hu with rfl | rfl | rfl
  · exact h1
  · exact h2
  · exact h3

theorem bits_bytes {l : List Int} (h : Mth.IsBits l) : Mth.Bytes l := by
  intro i
  rcases h i with e | e <;> rw [e] <;> decide

theorem gu8 {x : Int} (h : 0 ≤ x ∧ x < 256) : IntKind.u8.wrap x = x := by
  simp [IntKind.wrap, IntKind.bits, IntKind.signed]
  omega

/-- it tells bytes of its own -/
def GBytesIs (L : List Int) (w : World) (e : Ending) (w' : World) : Prop := ∃ a c, e = .returned (.slice a L.length c) ∧ GRowB w.heap.size (.slice a L.length c) L w' ∧ Below w.heap.size w w'

/-- what comes ahead of the tables -/
def headL (slots : Int) (n : Nat) : List Int := [83, 87, 1, slots, (n : Int)]

set_option maxHeartbeats 8000000 in
set_option maxRecDepth 20000 in
theorem rbytes (d : ProgD) (w : World) (hl : d.lie w) (hf : ProgFit d.slots d.ts d.cs) : Calls Try.prog 17 #[d.v] w (GBytesIs (gencL d.slots d.ts d.cs) w) := by
  have e1 : d.ts.length = d.tabs.n := hl.t.1
  have e2 : d.cs.length = d.code.n := hl.c.1
  have hs := hf.s
  have hnt := hf.nt
  have hnc := hf.nc
  have EL : gencL d.slots d.ts d.cs = headL d.slots d.tabs.n ++ d.ts.flatMap tabL ++ bigL 2 d.code.n ++ d.cs.flatMap insL := by
    unfold gencL progL headL
    rw [big1 (by omega), e1, e2, show bigL 1 d.tabs.n = [(d.tabs.n : Int)] from big1 (x := (d.tabs.n : Int)) (by omega)]
    simp
  rw [EL]
  obtain ⟨W1, hW1⟩ : ∃ W1, W1 = w.alloc (.cells #[.int .i64 d.slots, .slice d.tabs.a d.tabs.n d.tabs.c, .slice d.code.a d.code.n d.code.c] 25) := ⟨_, rfl⟩
  obtain ⟨pb, hpb⟩ : ∃ b, b = w.heap.size := ⟨_, rfl⟩
  obtain ⟨W2, hW2⟩ : ∃ W2, W2 = W1.alloc (.cells #[.int .u8 83, .int .u8 87, .int .u8 1, .int .u8 d.slots, .int .u8 (d.tabs.n : Int)] 5) := ⟨_, rfl⟩
  obtain ⟨g0, hg0⟩ : ∃ b, b = w.heap.size + 1 := ⟨_, rfl⟩
  have hs1 : W1.heap.size = w.heap.size + 1 := by rw [hW1]; simp
  have b1 : Below w.heap.size w W1 := by rw [hW1]; exact bl_alloc (Below.refl _ _)
  have b2 : Below W1.heap.size W1 W2 := by rw [hW2]; exact bl_alloc (Below.refl _ _)
  have PB : Hid (PBox d W1 pb) := by rw [hW1, hpb]; exact pbox_new d w
  have HROW : Hid (GRowB W1.heap.size (.slice (some ⟨g0, 0, none⟩) 5 5) (headL d.slots d.tabs.n) W2) := .inr ⟨g0, #[.int .u8 83, .int .u8 87, .int .u8 1, .int .u8 d.slots, .int .u8 (d.tabs.n : Int)], (0, 0), rfl, by omega, by rw [hW2, hg0, ← hs1]; exact galloc_at _ _ _, rfl, by simp [headL]⟩
  have HB1 := hid b1
  have HB2 := hid b2
  have HL := hid (hl.step b1)
  have HF := hid hf
  have E1 := hid e1
  have E2 := hid e2
  have EW : Hid (W2 = (w.alloc (.cells #[.int .i64 d.slots, .slice d.tabs.a d.tabs.n d.tabs.c, .slice d.code.a d.code.n d.code.c] 25)).alloc (.cells #[.int .u8 83, .int .u8 87, .int .u8 1, .int .u8 d.slots, .int .u8 (d.tabs.n : Int)] 5)) := by show _ = _; rw [hW2, hW1]
  have EP := hid hpb
  have EG := hid hg0
  have HW1S : Hid (w.heap.size ≤ W1.heap.size) := b1.size
  have u1 := gu8 (x := d.slots) (by omega)
  have u2 := gu8 (x := (d.tabs.n : Int)) (by omega)
  have hn1 : d.tabs.n ≤ 5 := by omega
  have hn2 : d.code.n ≤ 60000 := by omega
  dsimp only [ProgD.v]
  clear hW1 hpb hW2 hg0 b1 b2 hs1 hl hf e1 e2 EL hs hnt hnc
  go_enter Try.func17, Try.ntmps17
  go_wp2
  rw [← EW.out, ← EG.out, ← EP.out]
  clear EW EG EP u1 u2
  go_loopw [3, 4] (fun v q wr => ∃ (i : Nat) (a : Option Addr) (c : Nat), i ≤ d.tabs.n ∧ q = .int .i64 i ∧ v = .slice a (5 + 3 * i) c ∧ Hid (GRowB W1.heap.size (.slice a (5 + 3 * i) c) (headL d.slots d.tabs.n ++ (d.ts.take i).flatMap tabL) wr) ∧ Hid (Below W1.heap.size W1 wr)) (fun _ q _ => d.tabs.n - (intOf q).toNat)
  case atStart => exact ⟨0, some ⟨g0, 0, none⟩, 5, Nat.zero_le _, rfl, rfl, by simpa using HROW, HB2⟩
  case round =>
    obtain ⟨i, a, c, hi, rfl, rfl, HR, HB⟩ := hrel
    obtain ⟨p0, p1, p2⟩ := PB.out.step HB.out
    by_cases hlt : i < d.tabs.n
    · have hii : (i : Int) < (d.tabs.n : Int) := by omega
      obtain ⟨g, off, x, ea, hx, ⟨x0, _⟩, ⟨x1, _⟩, ⟨x2, _⟩⟩ := grow_at (HL.out.step HB.out).t hlt
      have hfit := HF.out.t x (List.mem_of_getElem? hx)
      have FT := gflat_take (f := tabL) hx
      have u0 := gu8 (x := x.keys) (by omega)
      have u1 := gu8 (x := x.acts) (by omega)
      have u2 := gu8 (x := x.args) (by omega)
      have hlen : (headL d.slots d.tabs.n ++ (d.ts.take i).flatMap tabL).length = 5 + 3 * i := by
        rw [List.length_append, gflat_len tabL 3 tabL_len, List.length_take]
        have := E1.out
        simp [headL]
        omega
      have eT : tabL x = [x.keys, x.acts, x.args] := by
        unfold tabL
        rw [big1 (by omega), big1 (by omega), big1 (by omega)]
        rfl
      have hrd := HR.out.step ((Below.refl wr.heap.size wr).drew)
      rw [← hlen] at hrd
      obtain ⟨g6, cap6, w6, hrun, hr6, hb6⟩ := hrd.lit [x.keys, x.acts, x.args] (GByt.three (by omega) (by omega) (by omega)) (by simp) (by rw [hlen]; simp; omega) HB.out.size
      rw [hlen] at hrun hr6
      have hrun' : (Builtin.append_ #[26, 26] 26 #[.slice a (5 + 3 * i) c, .slice (some ⟨wr.heap.size, 0, none⟩) 3 3]).run Try.prog (wr.alloc (.cells #[.int .u8 x.keys, .int .u8 x.acts, .int .u8 x.args] 5)).drew = .ok (.slice (some ⟨g6, 0, none⟩) (5 + 3 * i + 3) cap6) w6 := hrun
      have HB6 := hid ((HB.out.trans ((Below.refl W1.heap.size wr).drew)).trans hb6)
      have HR6 : Hid (GRowB W1.heap.size (.slice (some ⟨g6, 0, none⟩) (5 + 3 * (i + 1)) cap6) (headL d.slots d.tabs.n ++ (d.ts.take (i + 1)).flatMap tabL) w6) := by
        show GRowB _ _ _ _
        rw [FT, eT, ← List.append_assoc]
        exact hr6
      have s0 := (PB.out.step HB6.out).c1
      rw [ea] at p1 s0
      have s1 := (HL.out.step HB6.out).t
      obtain ⟨g', off', x', ea', hx', ⟨s2, _⟩, ⟨s3, _⟩, ⟨s4, _⟩⟩ := grow_at s1 hlt
      rw [hx] at hx'
      obtain rfl := Option.some.inj hx'
      rw [ea] at ea'
      simp only [Option.some.injEq, Addr.mk.injEq, and_true] at ea'
      obtain ⟨rfl, rfl⟩ := ea'
      clear hx hfit FT hlen eT hrd hrun hr6 hb6 HR HB hx' s1 ea p0 p2
      go_wp2_with fail
      go_region_held3 (fun w' => w'.cell? ⟨pb, 1, none⟩ = some (.slice (some ⟨g, off, none⟩) d.tabs.n d.tabs.c) ∧ w'.cell? ⟨g, off + i * 3, none⟩ = some (.int .i64 x.keys) ∧ w'.cell? ⟨g, off + i * 3 + 1, none⟩ = some (.int .i64 x.acts) ∧ w'.cell? ⟨g, off + i * 3 + 2, none⟩ = some (.int .i64 x.args)) (first | go_keep | exact ⟨s0, s2, s3, s4⟩) (refine gapp_runR rfl _ _ rfl (by simp [Act.eval]) (by simp [Act.eval]) hrun' ?_)
      all_goals
        clear hrun' s0 s2 s3 s4 x0 x1 x2 p1
        go_wp2
        go_roundw
        case rel => exact ⟨i + 1, some ⟨g6, 0, none⟩, cap6, by omega, by go_num, rfl, HR6, HB6⟩
        case measure => simp [intOf]; omega
    · have hii : ¬ (i : Int) < (d.tabs.n : Int) := by omega
      have hin : i = d.tabs.n := by omega
      subst i
      have hfull : d.ts.take d.tabs.n = d.ts := List.take_of_length_le (by have := E1.out; omega)
      rw [hfull] at HR
      obtain ⟨L1, hL1⟩ : ∃ L, L = headL d.slots d.tabs.n ++ d.ts.flatMap tabL := ⟨_, rfl⟩
      rw [← hL1] at HR
      have hlen : L1.length = 5 + 3 * d.tabs.n := by
        rw [hL1, List.length_append, gflat_len tabL 3 tabL_len]
        have := E1.out
        simp [headL]
        omega
      have hrd := HR.out
      rw [← hlen] at hrd
      obtain ⟨g6, cap6, w6, hrun, hr6, hb6⟩ := hrd.lit [((d.code.n / 256 % 256 : Nat) : Int), ((d.code.n % 256 : Nat) : Int)] (fun u hu => by
        simp only [List.mem_cons, List.not_mem_nil, or_false] at hu
        rcases hu with rfl | rfl <;> omega) (by simp) (by rw [hlen]; simp; omega) HB.out.size
      rw [hlen] at hrun hr6
      have hy0 : ((d.code.n / 256 % 256 : Nat) : Int) = (d.code.n : Int) / 256 := by omega
      have hy1 : ((d.code.n % 256 : Nat) : Int) = (d.code.n : Int) % 256 := by omega
      rw [hy0, hy1] at hrun hr6
      have hrun' : (Builtin.append_ #[26, 26] 26 #[.slice a (5 + 3 * d.tabs.n) c, .slice (some ⟨wr.heap.size, 0, none⟩) 2 2]).run Try.prog (wr.alloc (.cells #[.int .u8 ((d.code.n : Int) / 256), .int .u8 ((d.code.n : Int) % 256)] 5)) = .ok (.slice (some ⟨g6, 0, none⟩) (5 + 3 * d.tabs.n + 2) cap6) w6 := hrun
      have HB6 := hid (HB.out.trans hb6)
      have HR6 : Hid (GRowB W1.heap.size (.slice (some ⟨g6, 0, none⟩) (5 + 3 * d.tabs.n + 2) cap6) (L1 ++ bigL 2 d.code.n) w6) := by
        show GRowB _ _ _ _
        rw [big2, hy0, hy1]
        exact hr6
      have HL1 := hid hlen
      have EL1 := hid hL1
      clear hfull hL1 hlen hrd hrun hr6 hb6 hy0 hy1 HR HB hlt p0
      go_wp2_with (at_builtin; refine gapp_run rfl _ _ rfl rfl rfl hrun' ?_)
      clear hrun' p1 p2
      go_loopw [3, 5, 6] (fun v q _ wr => ∃ (i : Nat) (a : Option Addr) (c : Nat), i ≤ d.code.n ∧ q = .int .i64 i ∧ v = .slice a (5 + 3 * d.tabs.n + 2 + 14 * i) c ∧ Hid (GRowB W1.heap.size (.slice a (5 + 3 * d.tabs.n + 2 + 14 * i) c) (L1 ++ bigL 2 d.code.n ++ (d.cs.take i).flatMap insL) wr) ∧ Hid (Below W1.heap.size W1 wr)) (fun _ q _ _ => d.code.n - (intOf q).toNat)
      case atStart => exact ⟨0, some ⟨g6, 0, none⟩, cap6, Nat.zero_le _, rfl, rfl, by simpa using HR6, HB6⟩
      case round =>
        obtain ⟨i, a, c, hi, rfl, rfl, HR, HB⟩ := hrel
        clear HR6 HB6
        obtain ⟨p0, p1, p2⟩ := PB.out.step HB.out
        by_cases hlt : i < d.code.n
        · have hii : (i : Int) < (d.code.n : Int) := by omega
          obtain ⟨g, off, x, ea, hx, ⟨x0, _⟩, ⟨x1, _⟩, ⟨x2, _⟩, ⟨x3, _⟩, ⟨x4, _⟩, ⟨x5, _⟩⟩ := grow_at (HL.out.step HB.out).c hlt
          have hfit := HF.out.c x (List.mem_of_getElem? hx)
          obtain ⟨k0, k1, k2, k3, k4, k5⟩ := hfit
          have FT := gflat_take (f := insL) hx
          obtain ⟨t, ht⟩ : ∃ t : Nat, x.to = (t : Int) := ⟨x.to.toNat, by omega⟩
          obtain ⟨n, hn⟩ : ∃ n : Nat, x.n = (n : Int) := ⟨x.n.toNat, by omega⟩
          rw [ht] at x4
          rw [hn] at x5
          have u0 := gu8 k0
          have u1 := gu8 k1
          have u2 := gu8 k2
          have u3 := gu8 k3
          have ht5 : t < 65536 := by omega
          obtain ⟨y0, ey0⟩ : ∃ y : Int, y = (t : Int) / 256 := ⟨_, rfl⟩
          obtain ⟨y1, ey1⟩ : ∃ y : Int, y = (t : Int) % 256 := ⟨_, rfl⟩
          have hy0 : y0 = ((t / 256 % 256 : Nat) : Int) := by omega
          have hy1 : y1 = ((t % 256 : Nat) : Int) := by omega
          have hlen : (L1 ++ bigL 2 d.code.n ++ (d.cs.take i).flatMap insL).length = 5 + 3 * d.tabs.n + 2 + 14 * i := by
            rw [List.length_append, List.length_append, bigL_len, HL1.out, gflat_len insL 14 insL_len, List.length_take]
            have := E2.out
            omega
          have eI : insL x = [x.op, x.r, x.s, x.k, y0, y1] ++ bigL 8 n := by
            unfold insL
            rw [big1 k0, big1 k1, big1 k2, big1 k3, ht, hn, Int.toNat_natCast, Int.toNat_natCast, big2, hy0, hy1]
            rfl
          obtain ⟨W3, hW3⟩ : ∃ W3, W3 = wr.alloc (.cells #[.int .i64 x.op, .int .i64 x.r, .int .i64 x.s, .int .i64 x.k, .int .i64 (t : Int), .int .u64 (n : Int)] 47) := ⟨_, rfl⟩
          obtain ⟨ib, hib⟩ : ∃ b, b = wr.heap.size := ⟨_, rfl⟩
          have b3 : Below wr.heap.size wr W3 := by rw [hW3]; exact bl_alloc (Below.refl _ _)
          have hI3 : W3.heap[ib]? = some (.cells #[.int .i64 x.op, .int .i64 x.r, .int .i64 x.s, .int .i64 x.k, .int .i64 (t : Int), .int .u64 (n : Int)] 47 (0, 0)) := by rw [hW3, hib]; exact galloc_at _ _ _
          have hs3 : W3.heap.size = wr.heap.size + 1 := by rw [hW3]; simp
          have HB3 := HB.out.trans (b3.mono HB.out.size)
          have hrd := HR.out.step b3
          have hne : ∀ k, (Value.slice a (5 + 3 * d.tabs.n + 2 + 14 * i) c).ownBlock = some k → k ≠ ib := fun k hk e => by
            obtain ⟨_, cur, f', hh⟩ := hrd.blk hk
            rw [e, hI3] at hh
            simp only [Option.some.injEq, Obj.cells.injEq] at hh
            exact absurd hh.2.1 (by decide)
          rw [← hlen] at hrd
          have hby6 : GByt [x.op, x.r, x.s, x.k, y0, y1] := fun u hu => by
            simp only [List.mem_cons, List.not_mem_nil, or_false] at hu
            rcases hu with rfl | rfl | rfl | rfl | rfl | rfl
            · exact k0
            · exact k1
            · exact k2
            · exact k3
            · omega
            · omega
          have b4 : Below W3.heap.size W3 (W3.alloc (.cells (BB [x.op, x.r, x.s, x.k, y0, y1]).toArray 5)) := bl_alloc (Below.refl _ _)
          obtain ⟨g6, cap6, w6, hrun, ho6, hg6⟩ := (hrd.step b4).app (ad := ⟨W3.heap.size, 0, none⟩) (m := 6) (c2 := 6) (zs := [x.op, x.r, x.s, x.k, y0, y1]) rfl (has_cells (lit_has hby6)) (by decide) (by rw [hlen]; omega) (Nat.le_trans HB3.size b4.size)
          have hI6 : w6.heap[ib]? = some (.cells #[.int .i64 x.op, .int .i64 x.r, .int .i64 x.s, .int .i64 x.k, .int .i64 (t : Int), .int .u64 (n : Int)] 47 (0, 0)) := (hg6.block ib (by have := (Array.getElem?_eq_some_iff.1 hI3).1; have := b4.size; omega) (fun e => by rw [hlen] at e; exact hne ib e.symm rfl)).trans ((b4.block ib (Array.getElem?_eq_some_iff.1 hI3).1).trans hI3)
          have hb6 : Below W1.heap.size W3 w6 := ((b4.mono HB3.size)).trans ((Below.refl W1.heap.size _).grown hg6 (Nat.le_trans HB3.size b4.size) fun k hk => (hrd.blk hk).1)
          have hr6 : GRowB W1.heap.size (.slice (some ⟨g6, 0, none⟩) ((L1 ++ bigL 2 d.code.n ++ (d.cs.take i).flatMap insL ++ [x.op, x.r, x.s, x.k, y0, y1]).length) cap6) (L1 ++ bigL 2 d.code.n ++ (d.cs.take i).flatMap insL ++ [x.op, x.r, x.s, x.k, y0, y1]) w6 := .inl (by
            have e6 : (L1 ++ bigL 2 d.code.n ++ (d.cs.take i).flatMap insL ++ [x.op, x.r, x.s, x.k, y0, y1]).length = (L1 ++ bigL 2 d.code.n ++ (d.cs.take i).flatMap insL).length + 6 := by rw [List.length_append]; rfl
            rw [e6]
            exact ho6)
          have HROW6 := hid hr6
          have HLEN6 : Hid ((L1 ++ bigL 2 d.code.n ++ (d.cs.take i).flatMap insL ++ [x.op, x.r, x.s, x.k, y0, y1]).length = 5 + 3 * d.tabs.n + 2 + 14 * i + 6) := by show _ = _; rw [List.length_append, hlen]; rfl
          rw [hlen, hs3, hW3] at hrun
          have hrun' : (Builtin.append_ #[26, 26] 26 #[.slice a (5 + 3 * d.tabs.n + 2 + 14 * i) c, .slice (some ⟨wr.heap.size + 1, 0, none⟩) 6 6]).run Try.prog ((wr.alloc (.cells #[.int .i64 x.op, .int .i64 x.r, .int .i64 x.s, .int .i64 x.k, .int .i64 (t : Int), .int .u64 (n : Int)] 47)).alloc (.cells #[.int .u8 x.op, .int .u8 x.r, .int .u8 x.s, .int .u8 x.k, .int .u8 ((t : Int) / 256), .int .u8 ((t : Int) % 256)] 5)) = .ok (.slice (some ⟨g6, 0, none⟩) (5 + 3 * d.tabs.n + 2 + 14 * i + 6) cap6) w6 := by rw [← ey0, ← ey1]; exact hrun
          have HB6 := hid (HB3.trans hb6)
          have c5 : w6.cell? ⟨wr.heap.size, 5, none⟩ = some (.int .u64 (n : Int)) := by rw [← hib]; exact gbox_cell hI6 5
          have HNB := hid (numBits_any n 64 w6 (by decide) (by omega))
          have HFT : Hid ((d.cs.take (i + 1)).flatMap insL = (d.cs.take i).flatMap insL ++ ([x.op, x.r, x.s, x.k, y0, y1] ++ bigL 8 n)) := by show _ = _; rw [FT, eI]
          rw [ea] at p2
          clear FT ea hx ht hn k0 k1 k2 k3 k4 k5 hy0 hy1 ey0 ey1 hlen eI hW3 hib b3 hI3 hs3 HB3 hrd hne hby6 b4 hrun ho6 hg6 hI6 hb6 hr6 HR HB p0 p1
          go_wp2_with (at_builtin; refine gapp_run rfl _ _ rfl rfl rfl hrun' ?_)
          refine HNB.out.mono ?_
          rintro e w7 ⟨v7, rfl, ho7, hb7⟩
          clear hrun' HNB x0 x1 x2 x3 x4 x5 p2 c5 u0 u1 u2 u3
          obtain ⟨a7, c7, rfl, hh7⟩ := has_of_owns8 ho7 (bits_bytes (Mth.nb_bits n 64 64))
          have HBO := hid (bytesOf_any a7 64 c7 _ w7 (by decide) hh7 (Mth.nb_bits n 64 64))
          have B7 := hid hb7
          clear ho7 hb7 hh7
          go_wp2_with fail
          refine HBO.out.mono ?_
          rintro e w8 ⟨v8, rfl, ho8, hb8⟩
          rw [show (64 + 7) / 8 = 8 from rfl, by8_big] at ho8
          obtain ⟨a8, c8, rfl, hh8⟩ := has_of_owns8 ho8 (gbytes_byt (bigL_byt _ _))
          have bb8 := bl_step B7.out hb8
          have hrd8 := HROW6.out.step bb8
          have hB68 : W1.heap.size ≤ w6.heap.size := HB6.out.size
          obtain ⟨g9, cap9, w9, hrun9, hr9, hb9⟩ := hrd8.more hh8 (c2 := c8) (by decide) (by rw [HLEN6.out]; omega) (Nat.le_trans hB68 bb8.size)
          rw [HLEN6.out] at hrun9 hr9
          have R9 : Hid (GRowB W1.heap.size (.slice (some ⟨g9, 0, none⟩) (5 + 3 * d.tabs.n + 2 + 14 * (i + 1)) cap9) (L1 ++ bigL 2 d.code.n ++ (d.cs.take (i + 1)).flatMap insL) w9) := by
            show GRowB _ _ _ _
            rw [HFT.out, ← List.append_assoc, ← List.append_assoc]
            exact hr9
          have RB9 := hid ((HB6.out.trans (bb8.mono hB68)).trans hb9)
          clear HBO B7 ho8 hb8 hh8 bb8 hrd8 hB68 hr9 hb9 HROW6 HLEN6 HB6 HFT
          go_wp2_with (at_builtin; refine gapp_run rfl _ _ rfl rfl rfl hrun9 ?_)
          clear hrun9
          go_roundw
          case rel => exact ⟨i + 1, some ⟨g9, 0, none⟩, cap9, by omega, by go_num, rfl, R9, RB9⟩
          case measure => simp [intOf]; omega
        · have hii : ¬ (i : Int) < (d.code.n : Int) := by omega
          have hin : i = d.code.n := by omega
          subst i
          have hfull : d.cs.take d.code.n = d.cs := List.take_of_length_le (by have := E2.out; omega)
          rw [hfull, EL1.out] at HR
          have hlen : (headL d.slots d.tabs.n ++ d.ts.flatMap tabL ++ bigL 2 d.code.n ++ d.cs.flatMap insL).length = 5 + 3 * d.tabs.n + 2 + 14 * d.code.n := by
            have h1 := HL1.out
            rw [EL1.out] at h1
            rw [List.length_append, List.length_append, bigL_len, h1, gflat_len insL 14 insL_len]
            have := E2.out
            omega
          have HE : Hid (GBytesIs (headL d.slots d.tabs.n ++ d.ts.flatMap tabL ++ bigL 2 d.code.n ++ d.cs.flatMap insL) w (.returned (.slice a (5 + 3 * d.tabs.n + 2 + 14 * d.code.n) c)) wr) := ⟨a, c, by rw [hlen], by rw [hlen]; exact HR.out.far HW1S.out, HB1.out.trans (HB.out.mono HW1S.out)⟩
          clear HR HB hfull hlen p0 p1
          go_wp2
          go_ret
          have hE := HE.out
          simp only [List.append_assoc] at hE
          exact hE
end Go.Proofs.Ytcdpmpcpgijebaa
