/- Texts of one chain, joined: ExMath, Same, ExName, ExKeys. -/
import Derived.Test.YtffbnggdckjogaaGreatG0
import Derived.Laws.IdiomStrings
namespace Go.Proofs.YtffbnggdckjogaaGreat.Ex.Mth
open Go.Proofs.YtffbnggdckjogaaGreat.Mth
def byteOf (v : Int) (i : Nat) : Int := v / 2 ^ (8 * (7 - i)) % 256
def be (v : Int) (i : Nat) : List Int := (List.range i).map (byteOf v)
def nmI (ks : List Int) : Nat → List Int
  | 0 => []
  | j + 1 => nmI ks j ++ be (ks.getD j 0) 8
def toB (zs : List Int) : List UInt8 := zs.map fun n => UInt8.ofNat n.toNat
def nm (ks : List Int) : List UInt8 := toB (nmI ks ks.length)
theorem byteOf_is (v : Int) (i : Nat) : 0 ≤ byteOf v i ∧ byteOf v i < 256 := by
  unfold byteOf; omega
theorem be_length (v : Int) (i : Nat) : (be v i).length = i := by simp [be]
theorem be_succ (v : Int) (i : Nat) : be v (i + 1) = be v i ++ [byteOf v i] := by
  simp [be, List.range_succ]
theorem nmI_length (ks : List Int) (j : Nat) : (nmI ks j).length = 8 * j := by
  induction j with
  | zero => rfl
  | succ j ih => simp only [nmI, List.length_append, ih, be_length]; omega
theorem bytes_append {xs ys : List Int} (h : Bytes xs) (k : Bytes ys) : Bytes (xs ++ ys) := by
  intro i
  simp only [List.getD_eq_getElem?_getD]
  by_cases hi : i < xs.length
  · rw [List.getElem?_append_left hi]; simpa [List.getD_eq_getElem?_getD] using h i
  · rw [List.getElem?_append_right (Nat.le_of_not_lt hi)]; simpa [List.getD_eq_getElem?_getD] using k (i - xs.length)
theorem be_bytes (v : Int) (i : Nat) : Bytes (be v i) := by
  intro j
  by_cases hj : j < i
  · have := byteOf_is v j
    simp only [be, List.getD_eq_getElem?_getD, List.getElem?_map, List.getElem?_range hj, Option.map_some, Option.getD_some]
    exact this
  · have e : (be v i)[j]? = none := List.getElem?_eq_none (by rw [be_length]; omega)
    simp [List.getD_eq_getElem?_getD, e]
theorem nmI_bytes (ks : List Int) (j : Nat) : Bytes (nmI ks j) := by
  induction j with
  | zero => intro i; simp [nmI]
  | succ j ih => exact bytes_append ih (be_bytes _ _)
theorem nm_length (ks : List Int) : (nm ks).length = 8 * ks.length := by
  simp [nm, toB, nmI_length]
def acc (x : List UInt8) (j : Nat) : Nat → Nat
  | 0 => 0
  | r + 1 => acc x j r * 256 + (x.getD (8 * j + r) 0).toNat
def un (x : List UInt8) : List Int := (List.range (x.length / 8)).map fun j => (acc x j 8 : Int)
theorem acc_lt (x : List UInt8) (j r : Nat) : acc x j r < 2 ^ (8 * r) := by
  induction r with
  | zero => simp [acc]
  | succ r ih =>
    have h1 := (x.getD (8 * j + r) 0).toNat_lt
    have h2 : (2 : Nat) ^ (8 * (r + 1)) = 2 ^ (8 * r) * 256 := by rw [show 8 * (r + 1) = 8 * r + 8 by omega, Nat.pow_add]
    rw [acc, h2]
    omega
theorem un_length (x : List UInt8) : (un x).length = x.length / 8 := by simp [un]
theorem un_at (x : List UInt8) (j : Nat) (h : j < x.length / 8) : (un x).getD j 0 = (acc x j 8 : Int) := by
  simp [un, List.getD_eq_getElem?_getD, h]
theorem un_nums (x : List UInt8) : ∀ n ∈ un x, 0 ≤ n ∧ n < 18446744073709551616 := by
  intro n hn
  simp only [un, List.mem_map, List.mem_range] at hn
  obtain ⟨j, _, rfl⟩ := hn
  have := acc_lt x j 8
  omega
theorem bytes8 (b0 b1 b2 b3 b4 b5 b6 b7 : Nat) (h0 : b0 < 256) (h1 : b1 < 256) (h2 : b2 < 256) (h3 : b3 < 256) (h4 : b4 < 256) (h5 : b5 < 256) (h6 : b6 < 256) (h7 : b7 < 256) (A : Nat)
    (hA : A = (((((((0 * 256 + b0) * 256 + b1) * 256 + b2) * 256 + b3) * 256 + b4) * 256 + b5) * 256 + b6) * 256 + b7) :
    A / 72057594037927936 % 256 = b0 ∧ A / 281474976710656 % 256 = b1 ∧ A / 1099511627776 % 256 = b2 ∧ A / 4294967296 % 256 = b3 ∧ A / 16777216 % 256 = b4 ∧ A / 65536 % 256 = b5 ∧ A / 256 % 256 = b6 ∧ A / 1 % 256 = b7 := by
  omega
theorem byte_acc (x : List UInt8) (j i : Nat) (h : i < 8) : UInt8.ofNat (byteOf (acc x j 8 : Int) i).toNat = x.getD (8 * j + i) 0 := by
  have k := bytes8 _ _ _ _ _ _ _ _ (x.getD (8 * j + 0) 0).toNat_lt (x.getD (8 * j + 1) 0).toNat_lt (x.getD (8 * j + 2) 0).toNat_lt (x.getD (8 * j + 3) 0).toNat_lt (x.getD (8 * j + 4) 0).toNat_lt (x.getD (8 * j + 5) 0).toNat_lt (x.getD (8 * j + 6) 0).toNat_lt (x.getD (8 * j + 7) 0).toNat_lt (acc x j 8) rfl
  obtain ⟨k0, k1, k2, k3, k4, k5, k6, k7⟩ := k
  have e : (byteOf (acc x j 8 : Int) i).toNat = (x.getD (8 * j + i) 0).toNat := by
    unfold byteOf
    generalize acc x j 8 = A at *
    match i, h with
    | 0, _ => simp only [Nat.reduceSub, Nat.reduceMul, Int.reducePow]; omega
    | 1, _ => simp only [Nat.reduceSub, Nat.reduceMul, Int.reducePow]; omega
    | 2, _ => simp only [Nat.reduceSub, Nat.reduceMul, Int.reducePow]; omega
    | 3, _ => simp only [Nat.reduceSub, Nat.reduceMul, Int.reducePow]; omega
    | 4, _ => simp only [Nat.reduceSub, Nat.reduceMul, Int.reducePow]; omega
    | 5, _ => simp only [Nat.reduceSub, Nat.reduceMul, Int.reducePow]; omega
    | 6, _ => simp only [Nat.reduceSub, Nat.reduceMul, Int.reducePow]; omega
    | 7, _ => simp only [Nat.reduceSub, Nat.reduceMul, Int.reducePow]; omega
  rw [e, UInt8.ofNat_toNat]
theorem toB_append (xs ys : List Int) : toB (xs ++ ys) = toB xs ++ toB ys := by simp [toB]
theorem be_acc (x : List UInt8) (j r : Nat) (hr : r ≤ 8) (h : 8 * j + r ≤ x.length) : toB (be (acc x j 8 : Int) r) = (x.drop (8 * j)).take r := by
  induction r with
  | zero => simp [be, toB]
  | succ r ih =>
    rw [be_succ, toB_append, ih (by omega) (by omega)]
    have : (x.drop (8 * j)).take (r + 1) = (x.drop (8 * j)).take r ++ [x.getD (8 * j + r) 0] := by
      rw [List.take_succ_eq_append_getElem (by rw [List.length_drop]; omega)]
      simp [List.getD_eq_getElem?_getD, show 8 * j + r < x.length by omega]
    rw [this, ← byte_acc x j r (by omega)]
    rfl
theorem nm_take (x : List UInt8) (j : Nat) (h : 8 * j ≤ x.length) : toB (nmI (un x) j) = x.take (8 * j) := by
  induction j with
  | zero => simp [nmI, toB]
  | succ j ih =>
    rw [nmI, toB_append, ih (by omega), un_at x j (by omega), be_acc x j 8 (Nat.le_refl _) (by omega)]
    rw [show 8 * (j + 1) = 8 * j + 8 by omega, List.take_add]
theorem nm_un (x : List UInt8) (m : Nat) (h : x.length = 8 * m) : nm (un x) = x := by
  rw [nm, nm_take x _ (by rw [un_length]; omega), un_length]
  rw [show 8 * (x.length / 8) = x.length by omega]
  simp
end Go.Proofs.YtffbnggdckjogaaGreat.Ex.Mth

namespace Go.Proofs.YtffbnggdckjogaaGreat
open Go.RowKit
def str (zs : List Int) : ByteArray := ⟨(zs.map fun n => UInt8.ofNat n.toNat).toArray⟩
theorem conv_bytes {w : World} {a : Option Addr} {len : Nat} {zs : List Int} (cap : Nat) (h : Has .u8 w a len zs) : (convert 138 9 (.slice a len cap)).run Tryz.prog w = .ok (.string (str zs)) w := by
  have hb := h.bytes
  rcases h.2.2 with h0 | ⟨b, off, rfl, hlt, hc⟩
  · subst h0
    have hl : len = 0 := by have := h.1; simpa using this.symm
    subst hl
    rw [run_convert_bytes_string w 138 9 5 a 0 cap Tryz.underlying138 Tryz.underlying5 Tryz.underlying9]
    cases a
    · rfl
    · rfl
  · have hl := h.1
    have e : len = (zs.map fun n => UInt8.ofNat n.toNat).length := by simp [hl]
    conv => lhs; rw [e]
    rw [run_convert_bytes_back w 138 9 5 ⟨b, off, none⟩ cap (zs.map fun n => UInt8.ofNat n.toNat) Tryz.underlying138 Tryz.underlying5 Tryz.underlying9]
    · rfl
    · intro j hj
      simp only [List.length_map] at hj
      rw [Addr.add_lit, hc j (by omega)]
      have := hb j
      simp only [List.getD_eq_getElem?_getD, List.getElem?_eq_getElem hj, Option.getD_some] at this ⊢
      simp only [List.getElem_map]
      congr 2
      simp only [UInt8.toNat_ofNat']
      omega
end Go.Proofs.YtffbnggdckjogaaGreat

namespace Go.Proofs.YtffbnggdckjogaaGreat.Ex
open Go.RowKit
theorem one8 (w : World) (y : Value) : ∀ (j : Nat) (u : Value), [y][j]? = some u → (w.alloc (.cells #[y] 5)).cell? ((⟨w.heap.size, 0, none⟩ : Addr).add j) = some u := by
  intro j u hj
  match j, hj with
  | 0, hj => simp at hj; subst hj; simp [Addr.add]
theorem push_byte {w : World} {base n : Nat} {v : Value} {ys : List Int} {x y : Int} (h : w.ownsRow base 5 1 v (n + 1) (BB ys ++ [.int .u8 x])) (e : x = y) : w.ownsRow base 5 1 v (n + 1) (BB (ys ++ [y])) := by
  subst e
  simpa [BB] using h
set_option maxHeartbeats 1000000 in
set_option maxRecDepth 20000 in
theorem name_any (a : Option Addr) (m c : Nat) (ks : List Int) (w : World) (hm : m ≤ 1000) (hk : Has .u64 w a m ks) :
    Calls Tryz.prog 60 #[.slice a m c] w fun e w' => e = .returned (.string ⟨(Mth.nm ks).toArray⟩) ∧ Below w.heap.size w w' := by
  obtain ⟨i0, hi, hz0, hz1, hz2⟩ := info_parts Tryz.info5
  have hlen := hk.1
  go_enter Tryz.func60, Tryz.ntmps60
  go_wp2_with (at_make; refine wpList_make_own _ rfl _ _ 138 rfl w.heap.size 5 i0 (.int .u8 0) 1 Tryz.underlying138 hi hz0 hz1 _ _ _ (8 * m) rfl rfl ?m1 ?m2 ?m3 ?m4 ?_)
  case m1 => omega
  case m2 => rw [hz2]; omega
  case m3 => unfold maxLen; omega
  case m4 => exact Nat.le_refl _
  intro w1 hown1 hg1
  have hb1 : Below w.heap.size w w1 := (Below.refl _ _).grown hg1 (Nat.le_refl _) (by intro k hk; cases hk)
  clear hg1
  go_wp2
  go_loopw [3, 13] (fun x q wr => ∃ j : Nat, j ≤ m ∧ q = .int .i64 j ∧ wr.ownsRow w.heap.size 5 1 x (8 * j) (BB (Mth.nmI ks j)) ∧ Below w.heap.size w wr) (fun _ q _ => m - (intOf q).toNat)
  case atStart => exact ⟨0, Nat.zero_le _, rfl, hown1, hb1⟩
  case round =>
    obtain ⟨j, hj, rfl, hown, hb⟩ := hrel
    by_cases hlt : j < m
    · obtain ⟨p1, o1, rfl, hp1, hc1⟩ := hk.some (by omega)
      have q1 : wr.cell? ⟨p1, o1 + j, none⟩ = some (.int .u64 (ks.getD j 0)) := (hb.cell (p := ⟨p1, o1 + j, none⟩) hp1).trans (hc1 j hlt)
      have hv : 0 ≤ ks.getD j 0 ∧ ks.getD j 0 < 18446744073709551616 := by
        have e : ks.getD j 0 = ks[j]'(by omega) := by simp [List.getD_eq_getElem?_getD, show j < ks.length by omega]
        rw [e]; exact hk.nums _ (List.getElem_mem _)
      have HV : Hid (Mth.nmI ks (j + 1) = Mth.nmI ks j ++ Mth.be (ks.getD j 0) 8) := rfl
      clear hc1
      simp only [List.getD_eq_getElem?_getD] at q1 hv HV
      generalize ks[j]?.getD 0 = v at *
      have hki : (j : Int) < (m : Int) := by omega
      go_wp2
      go_loopw [3, 17] (fun x q wr => ∃ i : Nat, i ≤ 8 ∧ q = .int .i64 i ∧ wr.ownsRow w.heap.size 5 1 x (8 * j + i) (BB (Mth.nmI ks j ++ Mth.be v i)) ∧ Below w.heap.size w wr) (fun _ q _ => 8 - (intOf q).toNat)
      case atStart => exact ⟨0, Nat.zero_le _, rfl, by simpa [Mth.be] using hown, hb⟩
      case round =>
        obtain ⟨i, hi8, rfl, hown2, hb2⟩ := hrel
        by_cases hlt2 : i < 8
        · have h0 : 0 ≤ 8 * (7 - (i : Int)) := by omega
          have h1 : 8 * (7 - (i : Int)) < 64 := by omega
          go_wp2_with (at_builtin; refine wpList_append_own _ rfl _ _ 138 rfl w.heap.size 5 i0 (.int .u8 0) 1 1 Tryz.underlying138 hi hz0 hz1 hz2 rfl (by decide) _ (8 * j + i) (BB (Mth.nmI ks j ++ Mth.be v i)) rfl ?c0 ⟨wr.heap.size, 0, none⟩ 1 1 [.int .u8 (v / 2 ^ (8 * (7 - i)) % 256)] rfl rfl ?c1 ?c2 ?c3 ?c4 ?c5 ?_)
          case c1 => exact one8 _ _
          case c0 => exact hown2.alloc _
          case c2 => intro u hu; simp at hu; subst hu; rfl
          case c3 => unfold maxLen; omega
          case c4 => omega
          case c5 => have := hb2.size; simp; omega
          intro v' w2 hown3 hgr3 _
          have hb3 := (bl_alloc hb2).grown hgr3 (by have := hb2.size; simp; omega) (fun q hq => (hown2.lt q hq).1)
          have hown4 := push_byte hown3 (y := Mth.byteOf v i) rfl
          rw [List.append_assoc, ← Mth.be_succ] at hown4
          clear hown2 hown3 hgr3 hb2
          go_wp2
          go_roundw
          case rel => exact ⟨i + 1, by omega, by go_num, hown4, hb3⟩
          case measure => simp [intOf]; omega
        · have e : i = 8 := by omega
          subst e
          rw [← HV.out] at hown2
          go_wp2
          go_roundw
          case rel => exact ⟨j + 1, by omega, by go_num, by rw [show 8 * (j + 1) = 8 * j + 8 by omega]; exact hown2, hb2⟩
          case measure => simp [intOf]; omega
    · have e : j = m := by omega
      subst e
      obtain ⟨ad, cp, rfl, hz⟩ := has_of_owns8 hown (Mth.nmI_bytes _ _)
      have k1 := conv_bytes cp hz
      clear hz hown
      go_wp2
      go_ret
      exact ⟨by rw [Mth.nm, hlen]; rfl, hb⟩
end Go.Proofs.YtffbnggdckjogaaGreat.Ex

namespace Go.Proofs.YtffbnggdckjogaaGreat.Ex.Mth
open Go.Proofs.YtffbnggdckjogaaGreat.Mth
def st (x : List UInt8) (m i : Nat) : List Int := (List.range m).map fun j => (acc x j (min 8 (i - 8 * j)) : Int)
theorem st_length (x : List UInt8) (m i : Nat) : (st x m i).length = m := by simp [st]
theorem st_at (x : List UInt8) (m i j : Nat) (h : j < m) : (st x m i).getD j 0 = (acc x j (min 8 (i - 8 * j)) : Int) := by
  simp [st, List.getD_eq_getElem?_getD, h]
theorem st_end (x : List UInt8) (m : Nat) (h : x.length = 8 * m) : st x m (8 * m) = un x := by
  unfold st un
  rw [h, show 8 * m / 8 = m by omega]
  refine List.map_congr_left fun j hj => ?_
  rw [List.mem_range] at hj
  rw [show min 8 (8 * m - 8 * j) = 8 by omega]
theorem st_step (x : List UInt8) (m i : Nat) : st x m (i + 1) = (st x m i).set (i / 8) ((acc x (i / 8) (i % 8) * 256 + (x.getD i 0).toNat : Nat) : Int) := by
  apply List.ext_getElem?
  intro j
  by_cases hj : j < m
  · rw [List.getElem?_set]
    by_cases e : i / 8 = j
    · subst e
      rw [if_pos rfl, if_pos (by rw [st_length]; exact hj)]
      have e1 : min 8 (i + 1 - 8 * (i / 8)) = i % 8 + 1 := by omega
      simp only [st, List.getElem?_map, List.getElem?_range hj, Option.map_some, e1, acc]
      rw [show 8 * (i / 8) + i % 8 = i by omega]
    · rw [if_neg e]
      have e1 : min 8 (i + 1 - 8 * j) = min 8 (i - 8 * j) := by omega
      simp only [st, List.getElem?_map, List.getElem?_range hj, Option.map_some, e1]
  · rw [List.getElem?_eq_none (by rw [st_length]; omega), List.getElem?_eq_none (by rw [List.length_set, st_length]; omega)]
end Go.Proofs.YtffbnggdckjogaaGreat.Ex.Mth
namespace Go.Proofs.YtffbnggdckjogaaGreat.Ex
open Go.RowKit
theorem made64 (m : Nat) (x : List UInt8) : (madeCells #[Value.int .u64 0] m).toList = UU (Mth.st x m 0) := by
  have h := toList_madeCells_one (.int .u64 0) m
  have e : Mth.st x m 0 = List.replicate m 0 := by
    apply List.ext_getElem?
    intro j
    by_cases hj : j < m
    · simp [Mth.st, hj, Mth.acc]
    · rw [List.getElem?_eq_none (by rw [Mth.st_length]; omega), List.getElem?_eq_none (by rw [List.length_replicate]; omega)]
  rw [e]
  simp only [UU, List.map_replicate]
  exact h
theorem or_byte (A b : Nat) (hA : A < 72057594037927936) (hb : b < 256) : bits BinOp.or IntKind.u64 ((A : Int) * 256) (IntKind.u64.wrap (b : Int)) = ((A * 256 + b : Nat) : Int) := by
  have e1 : ((A : Int) * 256) = ((A * 256 : Nat) : Int) := by simp
  have e2 : IntKind.u64.wrap (b : Int) = (b : Int) := by rw [IntKind.wrap_u64]; omega
  rw [e1, e2, u64_or_nat _ _ (by omega) (by omega)]
  have := Nat.two_pow_add_eq_or_of_lt (i := 8) (b := b) (by omega) A
  rw [show (2 : Nat) ^ 8 = 256 from rfl, Nat.mul_comm 256 A] at this
  rw [← this]
theorem str_at (s : ByteArray) (i : Nat) (h : i < s.size) : (s.data.toList.getD i 0).toNat = s[i].toNat := by
  have : s.data.toList.getD i 0 = s[i] := by
    rw [List.getD_eq_getElem?_getD, List.getElem?_eq_getElem (by simpa using h)]; rfl
  rw [this]
theorem put64 {w : World} {base g m cap i : Nat} {ys : List Int} {x y : Int} (h : w.ownsRow base 63 1 (.slice (some ⟨g, 0, none⟩) m cap) m (UU ys)) (e : x = y) :
    (w.setCell ⟨g, i, none⟩ (.int .u64 x)).drew.ownsRow base 63 1 (.slice (some ⟨g, 0, none⟩) m cap) m (UU (ys.set i y)) := by
  subst e
  have h2 := (h.stored i (.int .u64 x)).1
  simp only [UU, List.map_set]
  exact h2.drew
set_option maxHeartbeats 1000000 in
set_option maxRecDepth 20000 in
theorem keys_new (s : ByteArray) (m : Nat) (w : World) (hm : m ≤ 1000) (hs : s.size = 8 * m) :
    Calls Tryz.prog 64 #[.string s] w fun e w' => ∃ a c, e = .returned (.slice a m c) ∧ (a = none → m = 0 ∧ c = 0) ∧ From w.heap.size a m ∧ Has .u64 w' a m (Mth.un s.data.toList) ∧ Below w.heap.size w w' := by
  obtain ⟨i0, hi, hz0, hz1, hz2⟩ := info_parts Tryz.info63
  have hd : (8 * (m : Int)) / 8 = m := by omega
  go_enter Tryz.func64, Tryz.ntmps64
  go_wp2_with (at_make; refine wpList_make_full _ rfl _ _ 24 rfl w.heap.size 63 i0 (.int .u64 0) 1 Tryz.underlying24 hi hz0 hz1 _ _ _ _ m rfl rfl ?m1 ?m2 ?m3 ?m4 ?m5 ?_)
  case m1 => rfl
  case m2 => rfl
  case m3 => rw [hz2]; omega
  case m4 => unfold maxLen; omega
  case m5 => exact Nat.le_refl _
  intro w1 hown1 hg1
  rw [made64 m s.data.toList] at hown1
  have hb1 : Below w.heap.size w w1 := (Below.refl _ _).grown hg1 (Nat.le_refl _) (by intro k hk; cases hk)
  clear hg1
  go_wp2
  go_loopw [11] (fun q wr => ∃ i : Nat, i ≤ 8 * m ∧ q = .int .i64 i ∧ wr.ownsRow w.heap.size 63 1 (.slice (some ⟨w.heap.size, 0, none⟩) m m) m (UU (Mth.st s.data.toList m i)) ∧ Below w.heap.size w wr) (fun q _ => 8 * m - (intOf q).toNat)
  case atStart => exact ⟨0, Nat.zero_le _, rfl, hown1, hb1⟩
  case round =>
    obtain ⟨i, hi8, rfl, hown, hb⟩ := hrel
    by_cases hlt : i < 8 * m
    · have hcx := own_at64 hown (i / 8) (by omega)
      rw [Mth.st_at _ _ _ _ (by omega), show min 8 (i - 8 * (i / 8)) = i % 8 by omega] at hcx
      have hfx : wr.frozen? ⟨w.heap.size, i / 8, none⟩ = false := hown.frozenAt _
      have hac := Mth.acc_lt s.data.toList (i / 8) (i % 8)
      have h2 : (2 : Nat) ^ (8 * (i % 8)) ≤ 2 ^ 56 := Nat.pow_le_pow_right (by decide) (by omega)
      have hst := Mth.st_step s.data.toList m i
      have HST := hid hst
      clear hst
      generalize Mth.acc s.data.toList (i / 8) (i % 8) = A at *
      have hA : A < 72057594037927936 := by omega
      clear hac h2
      have j1 : ((i : Int) / 8).toNat = i / 8 := by omega
      have j2 : (i : Int) / 8 < (m : Int) := by omega
      have j3 : 0 ≤ (i : Int) / 8 := by omega
      go_wp2_with fail
      go_region
      go_wp2
      go_roundw
      case rel =>
        refine ⟨i + 1, by omega, by go_num, ?_, (hb.setCell (Nat.le_refl _) _).drew⟩
        rw [HST.out]
        exact put64 hown (by rw [or_byte A _ hA (s[i].toNat_lt), str_at s i (by omega)])
      case measure => simp [intOf]; omega
    · have e : i = 8 * m := by omega
      subst e
      go_wp2
      go_ret
      rw [Mth.st_end _ _ (by simpa using hs)] at hown
      exact ⟨some ⟨w.heap.size, 0, none⟩, m, rfl, by simp, own_from hown, has_own64 hown (Mth.un_nums _), hb⟩
end Go.Proofs.YtffbnggdckjogaaGreat.Ex
