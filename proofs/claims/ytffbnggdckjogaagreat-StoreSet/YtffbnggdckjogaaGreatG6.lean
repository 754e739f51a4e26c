/- Texts of one chain, joined: TSmall, TEntry, TGrow. -/
import Derived.Test.YtffbnggdckjogaaGreatG4
import Derived.Test.YtffbnggdckjogaaGreatG5
import Derived.Deep.RegionLaw
namespace Go.Proofs.YtffbnggdckjogaaGreat
open Go.RowKit Mth
theorem wrap64_small (n : Int) (h0 : 0 ≤ n) (h : n < 9223372036854775808) : wrap64 n = n := by
  simp [wrap64]; omega
theorem bit_wrap (W key i : Nat) (hW : W ≤ 64) (hi : i < W) : wrap64 (IntKind.u64.wrap ((key : Int) * 2 ^ (64 - W + i)) / 9223372036854775808) = (bitAt W key i : Int) := by
  have h := bit_shift W key i hW hi
  have hl := bitAt_lt W key i
  have e : IntKind.u64.wrap ((key : Int) * 2 ^ (64 - W + i)) = ((key * 2 ^ (64 - W + i) % 18446744073709551616 : Nat) : Int) := by
    rw [IntKind.wrap_u64]
    simp
  rw [e]
  generalize key * 2 ^ (64 - W + i) % 18446744073709551616 = x at *
  rw [show ((x : Int) / 9223372036854775808) = ((x / 9223372036854775808 : Nat) : Int) from by simp, h]
  generalize bitAt W key i = b at *
  exact wrap64_small (b : Int) (by omega) (by omega)
set_option maxHeartbeats 400000 in
set_option maxRecDepth 20000 in
theorem bit_any {w : World} {p W key i : Nat} (c0 : w.cell? ⟨p, 0, none⟩ = some (.int .i64 W)) (hW : W ≤ 64) (hi : i < W) :
    Calls Tryz.prog 107 #[.pointer (some ⟨p, 0, none⟩), .int .u64 key, .int .i64 i] w fun e w' => e = .returned (.int .i64 (bitAt W key i)) ∧ w' = w := by
  go_enter Tryz.func107, Tryz.ntmps107
  go_wp2
  go_ret
  exact ⟨ret_int (bit_wrap W key i hW hi), rfl⟩
set_option maxHeartbeats 400000 in
set_option maxRecDepth 20000 in
theorem bit_end {w : World} {p W key : Nat} (c0 : w.cell? ⟨p, 0, none⟩ = some (.int .i64 W)) (hW : W ≤ 64) :
    Calls Tryz.prog 107 #[.pointer (some ⟨p, 0, none⟩), .int .u64 key, .int .i64 W] w fun e w' => e = .returned (.int .i64 (bitAt W key W)) ∧ w' = w := by
  have e : bitAt W key W = 0 := by simp [bitAt]
  rw [e]
  clear e
  go_enter Tryz.func107, Tryz.ntmps107
  go_wp2
  go_ret
  refine ⟨ret_int ?_, rfl⟩
  have e : IntKind.u64.wrap ((key : Int) * 18446744073709551616) = 0 := by rw [IntKind.wrap_u64]; omega
  rw [e]
  exact wrap64_small 0 (by omega) (by omega)
theorem andNot_num (key W : Nat) (hk : key < 18446744073709551616) (hW : W ≤ 64) : bits BinOp.andNot IntKind.u64 (key : Int) ((2 ^ W - 1 : Nat) : Int) = ((2 ^ W * (key / 2 ^ W) : Nat) : Int) := by
  have h1 : 2 ^ W ≤ 2 ^ 64 := Nat.pow_le_pow_right (by decide) hW
  have h2 : 2 ^ W * 2 ^ (64 - W) = 18446744073709551616 := by rw [← Nat.pow_add, show W + (64 - W) = 64 from by omega]
  have h3 : 1 ≤ 2 ^ W := Nat.one_le_two_pow
  have h4 : 1 ≤ 2 ^ (64 - W) := Nat.one_le_two_pow
  rw [u64_andNot_nat _ _ hk (by omega)]
  have e : 18446744073709551615 - (2 ^ W - 1) = 2 ^ W * (2 ^ (64 - W) - 1) := by rw [Nat.mul_sub, h2]; omega
  rw [e]
  congr 1
  have hd : (key &&& 2 ^ W * (2 ^ (64 - W) - 1)) / 2 ^ W = key / 2 ^ W := by
    rw [Nat.and_div_two_pow, Nat.mul_div_cancel_left _ (Nat.two_pow_pos _), Nat.and_two_pow_sub_one_eq_mod]
    apply Nat.mod_eq_of_lt
    rw [Nat.div_lt_iff_lt_mul (Nat.two_pow_pos _), Nat.mul_comm, h2]
    exact hk
  have hm : (key &&& 2 ^ W * (2 ^ (64 - W) - 1)) % 2 ^ W = 0 := by
    rw [Nat.and_mod_two_pow, Nat.mul_mod_right, Nat.and_zero]
  have := Nat.div_add_mod (key &&& 2 ^ W * (2 ^ (64 - W) - 1)) (2 ^ W)
  rw [hd, hm] at this
  omega
theorem andNot_low (key W : Nat) (h : key < 2 ^ W) (hW : W ≤ 64) : bits BinOp.andNot IntKind.u64 (key : Int) ((2 ^ W - 1 : Nat) : Int) = 0 := by
  have h1 : 2 ^ W ≤ 2 ^ 64 := Nat.pow_le_pow_right (by decide) hW
  rw [andNot_num key W (by omega) hW, Nat.div_eq_of_lt h]
  rfl
theorem andNot_high (key W : Nat) (h : 2 ^ W ≤ key) (hk : key < 18446744073709551616) (hW : W ≤ 64) : (bits BinOp.andNot IntKind.u64 (key : Int) ((2 ^ W - 1 : Nat) : Int) == 0) = false := by
  rw [andNot_num key W hk hW]
  have h1 : 1 ≤ key / 2 ^ W := (Nat.one_le_div_iff (Nat.two_pow_pos _)).2 h
  have h3 : 1 ≤ 2 ^ W := Nat.one_le_two_pow
  have : 1 ≤ 2 ^ W * (key / 2 ^ W) := Nat.mul_le_mul h3 h1
  simp only [beq_eq_false_iff_ne, ne_eq]
  omega
theorem and_num (key m : Nat) (hk : key < 18446744073709551616) (hm : m ≤ 64) : bits BinOp.and IntKind.u64 (key : Int) ((2 ^ m - 1 : Nat) : Int) = ((key % 2 ^ m : Nat) : Int) := by
  have h1 : 2 ^ m ≤ 2 ^ 64 := Nat.pow_le_pow_right (by decide) hm
  rw [u64_and_nat _ _ hk (by omega), Nat.and_two_pow_sub_one_eq_mod]
abbrev Good (wd : Int) (key : Nat) (n : Int) : Prop := 1 ≤ wd ∧ wd ≤ 64 ∧ 0 ≤ n ∧ n ≤ wd ∧ key < 2 ^ wd.toNat ∧ key % 2 ^ (wd - n).toNat = 0
set_option maxHeartbeats 400000 in
set_option maxRecDepth 20000 in
theorem beg_low {w : World} {p key : Nat} {wd n : Int} (c0 : w.cell? ⟨p, 0, none⟩ = some (.int .i64 wd)) (h : wd < 1 ∨ 64 < wd ∨ n < 0 ∨ wd < n) :
    Calls Tryz.prog 101 #[.pointer (some ⟨p, 0, none⟩), .int .u64 key, .int .i64 n] w fun e w' => e = .returned (.bool false) ∧ w' = w := by
  by_cases h1 : wd < 1
  · clear h
    go_enter Tryz.func101, Tryz.ntmps101
    go_wp2
    go_ret
    exact ⟨rfl, rfl⟩
  · by_cases h2 : 64 < wd
    · clear h
      go_enter Tryz.func101, Tryz.ntmps101
      go_wp2
      go_ret
      exact ⟨rfl, rfl⟩
    · by_cases h3 : n < 0
      · clear h
        go_enter Tryz.func101, Tryz.ntmps101
        go_wp2
        go_ret
        exact ⟨rfl, rfl⟩
      · have h4 : wd < n := by omega
        clear h
        go_enter Tryz.func101, Tryz.ntmps101
        go_wp2
        go_ret
        exact ⟨rfl, rfl⟩
set_option maxHeartbeats 400000 in
set_option maxRecDepth 20000 in
theorem beg_wide {w : World} {p key W n : Nat} (c0 : w.cell? ⟨p, 0, none⟩ = some (.int .i64 W)) (h1 : 1 ≤ W) (h2 : W ≤ 64) (hn : n ≤ W) (hk : 2 ^ W ≤ key) (hk2 : key < 18446744073709551616) :
    Calls Tryz.prog 101 #[.pointer (some ⟨p, 0, none⟩), .int .u64 key, .int .i64 n] w fun e w' => e = .returned (.bool false) ∧ w' = w := by
  have hA := andNot_high key W hk hk2 h2
  clear hk hk2
  have g1 : ¬ (W : Int) < 1 := by omega
  have g2 : ¬ 64 < (W : Int) := by omega
  have g3 : ¬ (n : Int) < 0 := by omega
  have g4 : ¬ (W : Int) < (n : Int) := by omega
  go_enter Tryz.func101, Tryz.ntmps101
  go_wp2_with fail
  refine (mask_yes _ _ (by omega) (by omega)).mono ?_
  rintro e w' ⟨rfl, rfl⟩
  rw [Int.toNat_natCast]
  go_wp2
  go_ret
  exact ⟨rfl, rfl⟩
set_option maxHeartbeats 400000 in
set_option maxRecDepth 20000 in
theorem beg_rest {w : World} {p key W n : Nat} (c0 : w.cell? ⟨p, 0, none⟩ = some (.int .i64 W)) (h1 : 1 ≤ W) (h2 : W ≤ 64) (hn : n ≤ W) (hk : key < 2 ^ W) :
    Calls Tryz.prog 101 #[.pointer (some ⟨p, 0, none⟩), .int .u64 key, .int .i64 n] w fun e w' => e = .returned (.bool (decide (key % 2 ^ (W - n) = 0))) ∧ w' = w := by
  have h64 : 2 ^ W ≤ 2 ^ 64 := Nat.pow_le_pow_right (by decide) h2
  have hA := andNot_low key W hk h2
  have hA2 := hid (and_num key (W - n) (by omega) (by omega))
  clear hk h64
  have g1 : ¬ (W : Int) < 1 := by omega
  have g2 : ¬ 64 < (W : Int) := by omega
  have g3 : ¬ (n : Int) < 0 := by omega
  have g4 : ¬ (W : Int) < (n : Int) := by omega
  have hwn : ((W : Int) - (n : Int)).toNat = W - n := by omega
  by_cases he : n = W
  · subst he
    have h0 : bits BinOp.and IntKind.u64 (key : Int) 0 = 0 := by
      have := hA2.out
      rw [Nat.sub_self, Nat.pow_zero, Nat.mod_one] at this
      exact this
    have hd : decide (key % 2 ^ (n - n) = 0) = true := by rw [Nat.sub_self, Nat.pow_zero, Nat.mod_one]; rfl
    rw [hd]
    clear hd hA2 hwn
    go_enter Tryz.func101, Tryz.ntmps101
    go_wp2_with fail
    refine (mask_yes _ _ (by omega) (by omega)).mono ?_
    rintro e w' ⟨rfl, rfl⟩
    rw [Int.toNat_natCast]
    go_wp2_with fail
    refine (mask_no _ _ (by omega)).mono ?_
    rintro e w' ⟨rfl, rfl⟩
    go_wp2
    go_ret
    exact ⟨rfl, rfl⟩
  · by_cases hz : key % 2 ^ (W - n) = 0
    · have h0 : bits BinOp.and IntKind.u64 (key : Int) ((2 ^ (W - n) - 1 : Nat) : Int) = 0 := by rw [hA2.out, hz]; rfl
      rw [decide_eq_true hz]
      clear hA2 hz
      have HW := hid hwn
      clear hwn
      go_enter Tryz.func101, Tryz.ntmps101
      go_wp2_with fail
      refine (mask_yes _ _ (by omega) (by omega)).mono ?_
      rintro e w' ⟨rfl, rfl⟩
      rw [Int.toNat_natCast]
      go_wp2_with fail
      refine (mask_yes _ _ (by omega) (by omega)).mono ?_
      rintro e w' ⟨rfl, rfl⟩
      rw [HW.out]
      go_wp2
      go_ret
      exact ⟨rfl, rfl⟩
    · have h0 : (bits BinOp.and IntKind.u64 (key : Int) ((2 ^ (W - n) - 1 : Nat) : Int) == 0) = false := by
        rw [hA2.out]
        generalize key % 2 ^ (W - n) = x at *
        simp only [beq_eq_false_iff_ne, ne_eq]
        omega
      rw [decide_eq_false hz]
      clear hA2 hz
      have HW := hid hwn
      clear hwn
      go_enter Tryz.func101, Tryz.ntmps101
      go_wp2_with fail
      refine (mask_yes _ _ (by omega) (by omega)).mono ?_
      rintro e w' ⟨rfl, rfl⟩
      rw [Int.toNat_natCast]
      go_wp2_with fail
      refine (mask_yes _ _ (by omega) (by omega)).mono ?_
      rintro e w' ⟨rfl, rfl⟩
      rw [HW.out]
      go_wp2
      go_ret
      exact ⟨rfl, rfl⟩
theorem beg_any {w : World} {p key : Nat} {wd n : Int} (c0 : w.cell? ⟨p, 0, none⟩ = some (.int .i64 wd)) (hk : key < 18446744073709551616) :
    Calls Tryz.prog 101 #[.pointer (some ⟨p, 0, none⟩), .int .u64 key, .int .i64 n] w fun e w' => ∃ b : Bool, e = .returned (.bool b) ∧ (b = true ↔ Good wd key n) ∧ w' = w := by
  by_cases h : wd < 1 ∨ 64 < wd ∨ n < 0 ∨ wd < n
  · exact (beg_low c0 h).mono fun e w' ⟨he, hw⟩ => ⟨false, he, ⟨fun x => (by cases x), fun g => by obtain ⟨a, b, c, d, _⟩ := g; omega⟩, hw⟩
  · obtain ⟨W, rfl⟩ := Int.eq_ofNat_of_zero_le (show 0 ≤ wd by omega)
    obtain ⟨m, rfl⟩ := Int.eq_ofNat_of_zero_le (show 0 ≤ n by omega)
    have hwn : ((W : Int) - (m : Int)).toNat = W - m := by omega
    by_cases h2 : key < 2 ^ W
    · refine (beg_rest c0 (by omega) (by omega) (by omega) h2).mono fun e w' ⟨he, hw⟩ => ⟨_, he, ?_, hw⟩
      unfold Good
      rw [hwn, Int.toNat_natCast]
      rw [decide_eq_true_iff]
      constructor
      · exact fun x => ⟨by omega, by omega, by omega, by omega, h2, x⟩
      · exact fun x => x.2.2.2.2.2
    · exact (beg_wide c0 (by omega) (by omega) (by omega) (by omega) hk).mono fun e w' ⟨he, hw⟩ => ⟨false, he, ⟨fun x => (by cases x), fun g => by obtain ⟨_, _, _, _, d, _⟩ := g; rw [Int.toNat_natCast] at d; omega⟩, hw⟩
theorem step64 {ops : Array Oper} {o : Oper} {a : Act} {w : World} {K : Act → World → Prop} {Q : Exit → Act → World → Prop} {E : Prop} (hgd : o.guard = none) (s x : Operand)
    (ho : o.op = .call { callee := .builtin .append, args := #[s, x], argTypes := #[24, 24] }) (m c : Nat) (zs : List Int) (ad : Option Addr)
    (hs : a.eval s = .slice none 0 0) (hx : a.eval x = .slice ad m c) (hn : ad = none → m = 0 ∧ c = 0) (hz : Has .u64 w ad m zs) (hsmall : m ≤ 10000000)
    (h : ∀ v' w', w'.ownsRow w.heap.size 63 1 v' m (UU zs) → Below w.heap.size w w' → K (a.put o.dst v') w') :
    if Region.wanted o (yielded ops a.tmps) = true then Oper.wp Tryz.prog o a w K Q else E := by
  have hw : Region.wanted o (yielded ops a.tmps) = true := by simp [Region.wanted, hgd]
  rw [if_pos hw]
  obtain ⟨i0, hi, hz0, hz1, hz2⟩ := info_parts Tryz.info63
  cases ad with
  | none =>
    obtain ⟨rfl, rfl⟩ := hn rfl
    have e : zs = [] := List.eq_nil_of_length_eq_zero hz.1
    subst e
    have hrun := run_append_owned_none (P := Tryz.prog) (w := w) w.heap.size 24 o.type 63 i0 1 Tryz.underlying24 hi (.slice none 0 0) 0 [] (World.ownsRow_nil _ _ _ _)
    unfold Oper.wp execOp
    simp only [ho, resolve, invoke, builtin, Sem.run_bind, Sem.run_pure, Result.andThen_ok, List.map_toArray, List.map_cons, List.map_nil, hs, hx, hrun]
    exact h _ _ (World.ownsRow_nil _ _ _ _) (Below.refl _ _)
  | some ad =>
    refine wp_append_own w s x 24 ho w.heap.size 63 i0 (.int .u64 0) 1 8 Tryz.underlying24 hi hz0 hz1 hz2 rfl (by decide) (.slice none 0 0) 0 [] hs (World.ownsRow_nil _ _ _ _) ad m c (UU zs) hx (by have := hz.1; simp [UU]; omega) (has_cells64 hz) (uu_one zs) (by unfold maxLen; omega) (by omega) (Nat.le_refl _) ?_
    intro v' w' h1 h2 _
    rw [Nat.zero_add, List.nil_append] at h1
    exact h v' w' h1 ((Below.refl _ _).grown h2 (Nat.le_refl _) (by intro k hk; simp [Value.ownBlock] at hk))
theorem Has.drew {k : IntKind} {w : World} {a : Option Addr} {len : Nat} {zs : List Int} (h : Has k w a len zs) : Has k w.drew a len zs := h
abbrev HC (x : Int) (a : Option Addr) (n c : Nat) : Obj := .cells #[.int .i64 x, .slice a n c] 50
theorem new_two (w : World) (x y : Value) (t : TypeId) :
    (w.alloc (.cells #[x, y] t)).cell? ⟨w.heap.size, 0, none⟩ = some x ∧ (w.alloc (.cells #[x, y] t)).cell? ⟨w.heap.size, 1, none⟩ = some y ∧
    (w.alloc (.cells #[x, y] t)).frozen? ⟨w.heap.size, 0, none⟩ = false ∧ (w.alloc (.cells #[x, y] t)).frozen? ⟨w.heap.size, 1, none⟩ = false :=
  ⟨by simp, by simp, by simp, by simp⟩
theorem box_cells {w w1 : World} {x : Int} {a : Option Addr} {n c : Nat} (hb : Below (w.alloc (HC x a n c)).drew.heap.size (w.alloc (HC x a n c)).drew w1) :
    w1.cell? ⟨w.heap.size, 0, none⟩ = some (.int .i64 x) ∧ w1.cell? ⟨w.heap.size, 1, none⟩ = some (.slice a n c) :=
  ⟨(hb.cell (p := ⟨w.heap.size, 0, none⟩) (by simp)).trans (by simp), (hb.cell (p := ⟨w.heap.size, 1, none⟩) (by simp)).trans (by simp)⟩
def Fresh (w w' : World) (e : Ending) (h : HitM) : Prop := ∃ q, e = .returned (.pointer (some ⟨q, 0, none⟩)) ∧ w.heap.size ≤ q ∧ Lies w' q h ∧ Below w.heap.size w w'
def FreshAt (w w' : World) (q : Nat) (a : Option Addr) (n c : Nat) (h : HitM) : Prop :=
  w.heap.size ≤ q ∧ w'.cell? ⟨q, 0, none⟩ = some (.int .i64 h.1) ∧ w'.cell? ⟨q, 1, none⟩ = some (.slice a n c) ∧ (a = none → n = 0 ∧ c = 0) ∧ n ≤ 1000 ∧ Has .u64 w' a n h.2 ∧ From w.heap.size a n ∧ Below w.heap.size w w'
theorem end_copied {w w1 : World} {x : Int} {a a1 : Option Addr} {n c cp : Nat} {h : HitM} (hb : Below (w.alloc (HC x a n c)).drew.heap.size (w.alloc (HC x a n c)).drew w1)
    (ho : w1.ownsRow (w.alloc (HC x a n c)).drew.heap.size 63 1 (.slice a1 n cp) n (UU h.2)) (hn : a1 = none → n = 0 ∧ cp = 0) (hs : n ≤ 1000) (hz : ∀ n ∈ h.2, 0 ≤ n ∧ n < 18446744073709551616) :
    FreshAt w (w1.alloc (HC h.1 a1 n cp)) w1.heap.size a1 n cp h := by
  have hB : Below w.heap.size w w1 := (bl_alloc (Below.refl w.heap.size w)).drew.trans (hb.mono (by simp))
  exact ⟨hB.size, (new_two w1 _ _ _).1, (new_two w1 _ _ _).2.1, hn, hs, (has_own64 ho hz).alloc, (own_from ho).mono (by simp), bl_alloc hB⟩
set_option maxHeartbeats 400000 in
set_option maxRecDepth 20000 in
theorem copied_new {w : World} {v : Value} {h : HitM} (hs : Says w v h) :
    Calls Tryz.prog 103 #[v] w fun e w' => ∃ q a n c, e = .returned (.pointer (some ⟨q, 0, none⟩)) ∧ FreshAt w w' q a n c h := by
  obtain ⟨a, n, c, rfl, hn, hsm, hz⟩ := hs
  have HZ := hid hz
  have HN := hid hn
  clear hz hn
  go_enter Tryz.func103, Tryz.ntmps103
  go_wp2
  go_region_law (refine step64 rfl _ _ rfl n c h.2 a (by simp [Act.eval]) (by simp [Act.eval]) HN.out HZ.out.alloc.drew (by omega) ?_; intro v1 w1 hown1 hb1; obtain ⟨a1, cp1, rfl, hc1, hn1⟩ := own_is hown1; obtain ⟨c0, c1⟩ := box_cells hb1)
  all_goals
    have hE := end_copied hb1 hown1 hn1 hsm HZ.out.nums
    go_wp2
    go_ret
    exact ⟨_, _, _, _, rfl, hE⟩
theorem copied_any {w : World} {v : Value} {h : HitM} (hs : Says w v h) :
    Calls Tryz.prog 103 #[v] w fun e w' => Fresh w w' e h :=
  (copied_new hs).mono fun _ _ ⟨q, a, n, c, he, h1, h2, h3, h4, h5, h6, h7, h8⟩ => ⟨q, he, h1, ⟨a, n, c, h2, h3, h4, h5, h6, h7.mono (Nat.zero_le _)⟩, h8⟩
end Go.Proofs.YtffbnggdckjogaaGreat

namespace Go.Proofs.YtffbnggdckjogaaGreat
open Go.RowKit Mth
theorem Trie.on {w : World} {B : Nat → Prop} {p W : Nat} {N : Ways} {C : Told2} (t : Trie w B p W N C) {key i : Nat} {a : Loc} (hi : i < W) (ha : N i (key / 2 ^ (W - i)) = some a) :
    w.cell? ⟨a.1, a.2 + bitAt W key i, none⟩ = some (ptr (N (i + 1) (key / 2 ^ (W - (i + 1))))) := by
  rw [way_next W key i hi]
  exact ((t.node _ _ _ ha).child (N := N) _ (bitAt_lt W key i)).1
theorem Trie.drewN {w : World} {B : Nat → Prop} {p W : Nat} {N : Ways} {C : Told2} (t : Trie w B p W N C) (s : Nat) : Trie (w.drewN s) B p W N C :=
  t.step ⟨rfl, rfl, rfl, Nat.le_refl _, fun _ _ => rfl⟩
theorem below_drewN {B : Nat} {w w' : World} (h : Below B w w') (s : Nat) : Below B w (w'.drewN s) := ⟨h.os, h.tape, h.output, h.size, h.block⟩
theorem Trie.gone {w : World} {B : Nat → Prop} {p W : Nat} {N : Ways} {C : Told2} (t : Trie w B p W N C) {key i n : Nat} (hi : i ≤ n) (hn : n ≤ W) (h : N i (key / 2 ^ (W - i)) = none) : N n (key / 2 ^ (W - n)) = none := by
  refine t.none_up h n _ hi ?_
  rw [Nat.div_div_eq_div_mul, ← Nat.pow_add, show W - n + (n - i) = W - i from by omega]
set_option maxHeartbeats 1000000 in
set_option maxRecDepth 20000 in
theorem entry_any {w : World} {B : Nat → Prop} {p W key n : Nat} {N : Ways} {C : Told2} (t : Trie w B p W N C) (c0 : w.cell? ⟨p, 0, none⟩ = some (.int .i64 W)) (hW : W ≤ 64) (hk : key < 2 ^ W) (hn : n ≤ W) :
    Calls Tryz.prog 102 #[.pointer (some ⟨p, 0, none⟩), .int .u64 key, .int .i64 n] w fun e w' => e = .returned (if (C n (key / 2 ^ (W - n))).isSome = true then ptr (N n (key / 2 ^ (W - n))) else .pointer none) ∧ ∃ s, w' = w.drewN s := by
  have HT := hid t
  have H0 : Hid (N 0 (key / 2 ^ (W - 0)) = some (p, 3)) := by rw [way_zero W key hk]; exact t.root
  have HC0 := hid c0
  clear t hk c0
  generalize hR : (if (C n (key / 2 ^ (W - n))).isSome = true then ptr (N n (key / 2 ^ (W - n))) else Value.pointer none) = R
  have HR := hid hR
  clear hR
  go_enter Tryz.func102, Tryz.ntmps102
  go_wp2
  go_loopw [7, 8] (fun x q wr => ∃ i : Nat, i ≤ n ∧ q = .int .i64 i ∧ x = ptr (N i (key / 2 ^ (W - i))) ∧ Hid (∃ s, wr = w.drewN s)) (fun _ q _ => n - (intOf q).toNat)
  case atStart => exact ⟨0, Nat.zero_le _, rfl, by rw [H0.out]; rfl, 0, rfl⟩
  case round =>
    obtain ⟨i, hi, rfl, rfl, hq⟩ := hrel
    clear H0
    cases hN : N i (key / 2 ^ (W - i)) with
    | none =>
      have hE : R = .pointer none := by rw [← HR.out, HT.out.cn _ _ (HT.out.gone hi hn hN)]; rfl
      simp only [ptr]
      clear HT HR hN HC0
      subst hE
      by_cases hlt : (i : Int) < (n : Int)
      · go_wp2
        go_ret
        exact ⟨rfl, hq⟩
      · go_wp2
        go_ret
        exact ⟨rfl, hq⟩
    | some a =>
      obtain ⟨b, o⟩ := a
      by_cases hlt : (i : Int) < (n : Int)
      · have hc := HT.out.on (key := key) (i := i) (by omega) hN
        have hb := bitAt_lt W key i
        have hc1 : wr.cell? ⟨b, o + bitAt W key i, none⟩ = some (ptr (N (i + 1) (key / 2 ^ (W - (i + 1))))) := by obtain ⟨s, e⟩ := hq; rw [e]; exact hc
        have hc2 : wr.cell? ⟨p, 0, none⟩ = some (.int .i64 W) := by obtain ⟨s, e⟩ := hq; rw [e]; exact HC0.out
        have hB := fun m => bit_any (w := wr.drewN m) (key := key) (i := i) hc2 hW (by omega)
        clear hc HT HR hN HC0
        generalize bitAt W key i = β at *
        generalize hP : ptr (N (i + 1) (key / 2 ^ (W - (i + 1)))) = P at *
        have HP := hid hP
        have HBB := hid hB
        clear hP hB
        have hb0 : (β : Int) < 2 := by omega
        simp only [ptr]
        go_wp2
        go_quiet ((go_at_call 107; exact Calls.quiet_of_same (HBB.out _)))
        go_wp2
        go_roundw
        case rel => exact ⟨i + 1, by omega, by go_num, HP.out.symm, by obtain ⟨s, e⟩ := hq; rw [e]; exact ⟨_, World.drewN_drewN _ _ _⟩⟩
        case measure => simp [intOf]; omega
      · have ei : i = n := by omega
        subst ei
        obtain ⟨v, hv, hs⟩ := (HT.out.node _ _ _ hN).c2
        have hv1 : wr.cell? ⟨b, o + 2, none⟩ = some v := by obtain ⟨s, e⟩ := hq; rw [e]; exact hv
        clear hv HC0
        cases hC : C i (key / 2 ^ (W - i)) with
        | none =>
          rw [hC] at hs
          have e : v = .pointer none := hs
          subst e
          have hE : R = .pointer none := by rw [← HR.out, hC]; rfl
          subst hE
          clear HT HR hN hC hs
          simp only [ptr]
          go_wp2
          go_ret
          exact ⟨rfl, hq⟩
        | some h =>
          rw [hC] at hs
          obtain ⟨x, e, _⟩ := hs
          subst e
          have hE : R = .pointer (some ⟨b, o, none⟩) := by rw [← HR.out, hC, hN]; rfl
          subst hE
          clear HT HR hN hC
          simp only [ptr]
          go_wp2
          go_ret
          exact ⟨rfl, hq⟩
end Go.Proofs.YtffbnggdckjogaaGreat

namespace Go.Proofs.YtffbnggdckjogaaGreat
open Go.RowKit Mth
structure Head (w : World) (p : Nat) (wd most many : Int) : Prop where
  c0 : w.cell? ⟨p, 0, none⟩ = some (.int .i64 wd)
  c1 : w.cell? ⟨p, 1, none⟩ = some (.int .i64 most)
  c2 : w.cell? ⟨p, 2, none⟩ = some (.int .i64 many)
  f2 : w.frozen? ⟨p, 2, none⟩ = false
theorem Head.step {w w' : World} {p : Nat} {wd most many : Int} (h : Head w p wd most many) (hb : Below w.heap.size w w') : Head w' p wd most many := by
  have hp := World.block_lt_of_cell? w _ h.c0
  exact ⟨(hb.cell (p := ⟨p, 0, none⟩) hp).trans h.c0, (hb.cell (p := ⟨p, 1, none⟩) hp).trans h.c1, (hb.cell (p := ⟨p, 2, none⟩) hp).trans h.c2, (hb.frozen (p := ⟨p, 2, none⟩) hp).trans h.f2⟩
theorem Head.drewN {w : World} {p : Nat} {wd most many : Int} (h : Head w p wd most many) (s : Nat) : Head (w.drewN s) p wd most many := h.step ⟨rfl, rfl, rfl, Nat.le_refl _, fun _ _ => rfl⟩
theorem Trie.apart {w : World} {B : Nat → Prop} {p W : Nat} {N : Ways} {C : Told2} (t : Trie w B p W N C) {n v : Nat} {a : Loc} (ha : N n v = some a) (o j : Nat) (hj : j < 3) : (⟨a.1, a.2 + o, none⟩ : Addr) ≠ ⟨p, j, none⟩ := by
  intro e
  have e1 : a.1 = p := congrArg Addr.block e
  have e2 : a.2 + o = j := congrArg Addr.off e
  obtain ⟨rfl, rfl⟩ := t.inj n v 0 0 a (p, 3) ha t.root e1
  rw [t.root] at ha
  have := Option.some.inj ha
  rw [← this] at e2
  simp only at e2
  omega
theorem Trie.head {w w1 : World} {B : Nat → Prop} {p W : Nat} {N : Ways} {C : Told2} {wd most many : Int} (t : Trie w B p W N C) {n v : Nat} {a : Loc} (ha : N n v = some a) (h : Head w1 p wd most many) (o : Nat) (x : Value) : Head (w1.setCell ⟨a.1, a.2 + o, none⟩ x) p wd most many :=
  ⟨(World.cell?_setCell_other _ _ _ _ (t.apart ha o 0 (by omega))).trans h.c0, (World.cell?_setCell_other _ _ _ _ (t.apart ha o 1 (by omega))).trans h.c1, (World.cell?_setCell_other _ _ _ _ (t.apart ha o 2 (by omega))).trans h.c2, by simpa using h.f2⟩
def GrowAt (w wr : World) (B : Nat → Prop) (p W : Nat) (C : Told2) (wd most many : Int) (key i : Nat) (x : Value) : Prop :=
  ∃ N a, Trie wr B p W N C ∧ N i (key / 2 ^ (W - i)) = some a ∧ x = ptr (some a) ∧ Head wr p wd most many ∧ BelZ B w wr ∧ Moved w wr
theorem Trie.small {w : World} {B : Nat → Prop} {p W : Nat} {N : Ways} {C : Told2} (t : Trie w B p W N C) : ¬ B w.heap.size := fun h => Nat.lt_irrefl _ (t.zl _ h)
theorem grow_new {w wr : World} {B : Nat → Prop} {p W : Nat} {C : Told2} {wd most many : Int} {key i : Nat} {N : Ways} {a : Loc} (t : Trie wr B p W N C) (hi : i < W) (ha : N i (key / 2 ^ (W - i)) = some a) (hn : N (i + 1) (key / 2 ^ (W - (i + 1))) = none) (hd : Head wr p wd most many) (hb : BelZ B w wr) (hm : Moved w wr) :
    GrowAt w ((wr.alloc NewNode).setCell ⟨a.1, a.2 + bitAt W key i, none⟩ (.pointer (some ⟨wr.heap.size, 0, none⟩))) B p W C wd most many key (i + 1) (.pointer (some ⟨wr.heap.size, 0, none⟩)) := by
  have t1 := t.step (bl_alloc (o := NewNode) (Below.refl wr.heap.size wr))
  have hbit := bitAt_lt W key i
  rw [way_next W key i hi] at hn
  refine ⟨_, (wr.heap.size, 0), t.link hbit hi ha hn t.small, ?_, rfl, t1.head ha (hd.step (bl_alloc (Below.refl _ _))) _ _, (hb.alloc _).setCell (t.base _ _ _ ha) _, ?_⟩
  · rw [way_next W key i hi, upN_same]
  · exact (hm.trans (moved_alloc wr _)).trans (moved_set (t1.node _ _ _ ha).lo _)
set_option maxHeartbeats 1000000 in
set_option maxRecDepth 20000 in
theorem grown_any {w : World} {B : Nat → Prop} {p W key n : Nat} {N : Ways} {C : Told2} {most many : Int} (t : Trie w B p W N C) (hd : Head w p W most many) (hW : W ≤ 64) (hk : key < 2 ^ W) (hn : n ≤ W) :
    Calls Tryz.prog 104 #[.pointer (some ⟨p, 0, none⟩), .int .u64 key, .int .i64 n] w fun e w' => ∃ x, e = .returned x ∧ GrowAt w w' B p W C W most many key n x := by
  have G0 : GrowAt w w B p W C W most many key 0 (.pointer (some ⟨p, 3, none⟩)) := ⟨N, (p, 3), t, by rw [way_zero W key hk]; exact t.root, rfl, hd, BelZ.refl _ _, Moved.refl _⟩
  clear t hd hk
  go_enter Tryz.func104, Tryz.ntmps104
  go_wp2
  go_loopw [7, 14] (fun x q wr => ∃ i : Nat, i ≤ n ∧ q = .int .i64 i ∧ GrowAt w wr B p W C W most many key i x) (fun _ q _ => n - (intOf q).toNat)
  case atStart => exact ⟨0, Nat.zero_le _, rfl, G0⟩
  case round =>
    obtain ⟨i, hi, rfl, hG⟩ := hrel
    clear G0
    by_cases hlt : (i : Int) < (n : Int)
    · obtain ⟨N', a, t, ha, rfl, hd, hb, hm⟩ := hG
      obtain ⟨b, o⟩ := a
      have hc := t.on (key := key) (i := i) (by omega) ha
      have hf := ((t.node _ _ _ ha).child (N := N') _ (bitAt_lt W key i)).2
      have hbit := bitAt_lt W key i
      have c0 := hd.c0
      have hiW : i < W := by omega
      have HB := hid (bit_any (key := key) c0 hW hiW)
      simp only [ptr]
      cases hN : N' (i + 1) (key / 2 ^ (W - (i + 1))) with
      | none =>
        have hG := grow_new t hiW ha hN hd hb hm
        rw [hN] at hc
        simp only [ptr] at hc
        have hlt2 := World.block_lt_of_cell? wr _ hc
        rw [World.setCell_alloc_past _ _ _ _ hlt2] at hG
        have HG := hid hG
        clear hG
        have hc2 : (wr.alloc NewNode).cell? ⟨b, o + bitAt W key i, none⟩ = some (.pointer none) := (Below.cell (bl_alloc (Below.refl wr.heap.size wr)) (p := ⟨b, o + bitAt W key i, none⟩) hlt2).trans hc
        have hf2 : (wr.alloc NewNode).frozen? ⟨b, o + bitAt W key i, none⟩ = false := (Below.frozen (bl_alloc (Below.refl wr.heap.size wr)) (p := ⟨b, o + bitAt W key i, none⟩) hlt2).trans hf
        clear t ha hN hd hb hm c0 hf
        generalize bitAt W key i = β at *
        have hb0 : (β : Int) < 2 := by omega
        go_wp2_with (go_at_call 107; refine HB.out.mono ?_; rintro e w1 ⟨rfl, rfl⟩)
        go_roundw
        case rel => exact ⟨i + 1, by omega, by go_num, HG.out⟩
        case measure => simp [intOf]; omega
      | some d =>
        obtain ⟨b', o'⟩ := d
        have HG : Hid (GrowAt w wr B p W C W most many key (i + 1) (.pointer (some ⟨b', o', none⟩))) := ⟨N', (b', o'), t, hN, rfl, hd, hb, hm⟩
        rw [hN] at hc
        simp only [ptr] at hc
        clear t ha hN hd hb hm c0 hf
        generalize bitAt W key i = β at *
        have hb0 : (β : Int) < 2 := by omega
        go_wp2_with (go_at_call 107; refine HB.out.mono ?_; rintro e w1 ⟨rfl, rfl⟩)
        go_roundw
        case rel => exact ⟨i + 1, by omega, by go_num, HG.out⟩
        case measure => simp [intOf]; omega
    · have ei : i = n := by omega
      subst ei
      go_wp2
      go_ret
      exact ⟨_, rfl, hG⟩
end Go.Proofs.YtffbnggdckjogaaGreat
