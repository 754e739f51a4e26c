/- What exact.keysOf does. -/
import Derived.Test.YtfpefjadlbphiabEName
namespace Go.Proofs.Ytfpefjadlbphiab.Mth

/-- the numbers of which i bytes are there -/
def st (x : List UInt8) (m i : Nat) : List Int := (List.range m).map fun j => (acc x j (min 8 (i - 8 * j)) : Int)

theorem st_length (x : List UInt8) (m i : Nat) : (st x m i).length = m := by simp [st]

theorem st_at (x : List UInt8) (m i j : Nat) (h : j < m) : (st x m i).getD j 0 = (acc x j (min 8 (i - 8 * j)) : Int) := by
  simp [st, List.getD_eq_getElem?_getD, h]

theorem st_nums (x : List UInt8) (m i : Nat) : ∀ n ∈ st x m i, 0 ≤ n ∧ n < 18446744073709551616 := by
  intro n hn
  simp only [st, List.mem_map, List.mem_range] at hn
  obtain ⟨j, _, rfl⟩ := hn
  have h1 := acc_lt x j (min 8 (i - 8 * j))
  have h2 : (2 : Nat) ^ (8 * min 8 (i - 8 * j)) ≤ 2 ^ 64 := Nat.pow_le_pow_right (by decide) (by omega)
  omega

theorem st_end (x : List UInt8) (m : Nat) (h : x.length = 8 * m) : st x m (8 * m) = un x := by
  unfold st un
  rw [h, show 8 * m / 8 = m by omega]
  refine List.map_congr_left fun j hj => ?_
  rw [List.mem_range] at hj
  rw [show min 8 (8 * m - 8 * j) = 8 by omega]

theorem st_step (x : List UInt8) (m i : Nat) : st x m (i + 1) = (st x m i).set (i / 8) ((acc x (i / 8) (i % 8) * 256 + (x.getD i 0).toNat : Nat) : Int) := by
  apply List.ext_getElem?
  intro j
  by_cases hj : j < m
  · rw [List.getElem?_set]
    by_cases e : i / 8 = j
    · subst e
      rw [if_pos rfl, if_pos (by rw [st_length]; exact hj)]
      have e1 : min 8 (i + 1 - 8 * (i / 8)) = i % 8 + 1 := by omega
      simp only [st, List.getElem?_map, List.getElem?_range hj, Option.map_some, e1, acc]
      rw [show 8 * (i / 8) + i % 8 = i by omega]
    · rw [if_neg e]
      have e1 : min 8 (i + 1 - 8 * j) = min 8 (i - 8 * j) := by omega
      simp only [st, List.getElem?_map, List.getElem?_range hj, Option.map_some, e1]
  · rw [List.getElem?_eq_none (by rw [st_length]; omega), List.getElem?_eq_none (by rw [List.length_set, st_length]; omega)]
end Go.Proofs.Ytfpefjadlbphiab.Mth
namespace Go.Proofs.Ytfpefjadlbphiab
open Go.RowKit

theorem made64 (m : Nat) (x : List UInt8) : (madeCells #[Value.int .u64 0] m).toList = UU (Mth.st x m 0) := by
  have h := toList_madeCells_one (.int .u64 0) m
  have e : Mth.st x m 0 = List.replicate m 0 := by
    apply List.ext_getElem?
    intro j
    by_cases hj : j < m
    · simp [Mth.st, hj, Mth.acc]
    · rw [List.getElem?_eq_none (by rw [Mth.st_length]; omega), List.getElem?_eq_none (by rw [List.length_replicate]; omega)]
  rw [e]
  simp only [UU, List.map_replicate]
  exact h

theorem or_byte (A b : Nat) (hA : A < 72057594037927936) (hb : b < 256) : bits BinOp.or IntKind.u64 ((A : Int) * 256) (IntKind.u64.wrap (b : Int)) = ((A * 256 + b : Nat) : Int) := by
  have e1 : ((A : Int) * 256) = ((A * 256 : Nat) : Int) := by simp
  have e2 : IntKind.u64.wrap (b : Int) = (b : Int) := by rw [IntKind.wrap_u64]; omega
  rw [e1, e2, u64_or_nat _ _ (by omega) (by omega)]
  have := Nat.two_pow_add_eq_or_of_lt (i := 8) (b := b) (by omega) A
  rw [show (2 : Nat) ^ 8 = 256 from rfl, Nat.mul_comm 256 A] at this
  rw [← this]

theorem str_at (s : ByteArray) (i : Nat) (h : i < s.size) : (s.data.toList.getD i 0).toNat = s[i].toNat := by
  have : s.data.toList.getD i 0 = s[i] := by
    rw [List.getD_eq_getElem?_getD, List.getElem?_eq_getElem (by simpa using h)]; rfl
  rw [this]

theorem put64 {w : World} {base g m cap i : Nat} {ys : List Int} {x y : Int} (h : w.ownsRow base 71 1 (.slice (some ⟨g, 0, none⟩) m cap) m (UU ys)) (e : x = y) :
    (w.setCell ⟨g, i, none⟩ (.int .u64 x)).drew.ownsRow base 71 1 (.slice (some ⟨g, 0, none⟩) m cap) m (UU (ys.set i y)) := by
  subst e
  have h2 := (h.stored i (.int .u64 x)).1
  simp only [UU, List.map_set]
  exact h2.drew

set_option maxHeartbeats 1000000 in
set_option maxRecDepth 20000 in
theorem keys_new (s : ByteArray) (m : Nat) (w : World) (hm : m ≤ 1000) (hs : s.size = 8 * m) :
    Calls Try.prog 55 #[.string s] w fun e w' => ∃ a c, e = .returned (.slice a m c) ∧ (a = none → m = 0 ∧ c = 0) ∧ From w.heap.size a m ∧ Has .u64 w' a m (Mth.un s.data.toList) ∧ Below w.heap.size w w' := by
  obtain ⟨i0, hi, hz0, hz1, hz2⟩ := info_parts Try.info71
  have hd : (8 * (m : Int)) / 8 = m := by omega
  go_enter Try.func55, Try.ntmps55
  go_wp2_with (at_make; refine wpList_make_full _ rfl _ _ 32 rfl w.heap.size 71 i0 (.int .u64 0) 1 Try.underlying32 hi hz0 hz1 _ _ _ _ m rfl rfl ?m1 ?m2 ?m3 ?m4 ?m5 ?_)
  case m1 => rfl
  case m2 => rfl
  case m3 => rw [hz2]; omega
  case m4 => unfold maxLen; omega
  case m5 => exact Nat.le_refl _
  intro w1 hown1 hg1
  rw [made64 m s.data.toList] at hown1
  have hb1 : Below w.heap.size w w1 := (Below.refl _ _).grown hg1 (Nat.le_refl _) (by intro k hk; cases hk)
  clear hg1
  go_wp2
  go_loopw [11] (fun q wr => ∃ i : Nat, i ≤ 8 * m ∧ q = .int .i64 i ∧ wr.ownsRow w.heap.size 71 1 (.slice (some ⟨w.heap.size, 0, none⟩) m m) m (UU (Mth.st s.data.toList m i)) ∧ Below w.heap.size w wr) (fun q _ => 8 * m - (intOf q).toNat)
  case atStart => exact ⟨0, Nat.zero_le _, rfl, hown1, hb1⟩
  case round =>
    obtain ⟨i, hi8, rfl, hown, hb⟩ := hrel
    by_cases hlt : i < 8 * m
    · have hcx := own_at64 hown (i / 8) (by omega)
      rw [Mth.st_at _ _ _ _ (by omega), show min 8 (i - 8 * (i / 8)) = i % 8 by omega] at hcx
      have hfx : wr.frozen? ⟨w.heap.size, i / 8, none⟩ = false := hown.frozenAt _
      have hac := Mth.acc_lt s.data.toList (i / 8) (i % 8)
      have h2 : (2 : Nat) ^ (8 * (i % 8)) ≤ 2 ^ 56 := Nat.pow_le_pow_right (by decide) (by omega)
      have hst := Mth.st_step s.data.toList m i
      have HST := hid hst
      clear hst
      generalize Mth.acc s.data.toList (i / 8) (i % 8) = A at *
      have hA : A < 72057594037927936 := by omega
      clear hac h2
      have j1 : ((i : Int) / 8).toNat = i / 8 := by omega
      have j2 : (i : Int) / 8 < (m : Int) := by omega
      have j3 : 0 ≤ (i : Int) / 8 := by omega
      go_wp2_with fail
      go_region
      go_wp2
      go_roundw
      case rel =>
        refine ⟨i + 1, by omega, by go_num, ?_, (hb.setCell (Nat.le_refl _) _).drew⟩
        rw [HST.out]
        exact put64 hown (by rw [or_byte A _ hA (s[i].toNat_lt), str_at s i (by omega)])
      case measure => simp [intOf]; omega
    · have e : i = 8 * m := by omega
      subst e
      go_wp2
      go_ret
      rw [Mth.st_end _ _ (by simpa using hs)] at hown
      exact ⟨some ⟨w.heap.size, 0, none⟩, m, rfl, by simp, own_from hown, has_own64 hown (Mth.un_nums _), hb⟩
end Go.Proofs.Ytfpefjadlbphiab
