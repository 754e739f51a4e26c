/- Programs and their bytes: there and back, in plain numbers. -/
import Derived.Test.YtcdpmpcpgijebaaGDec2
namespace Go.Proofs.Ytcdpmpcpgijebaa
open Go.RowKit

theorem fold_split (l : List Int) : ∀ a : Nat, l.foldl (fun n x => n * 256 + x.toNat) a = a * 256 ^ l.length + numB l := by
  induction l with
  | nil => intro a; simp [numB]
  | cons x l ih =>
    intro a
    have h1 := ih (a * 256 + x.toNat)
    have h2 := ih (0 * 256 + x.toNat)
    rw [List.foldl_cons, h1]
    unfold numB at h2 ⊢
    rw [List.foldl_cons, h2, List.length_cons, Nat.pow_succ, Nat.add_mul, Nat.add_mul]
    have : a * 256 * 256 ^ l.length = a * (256 ^ l.length * 256) := by rw [Nat.mul_assoc, Nat.mul_comm 256]
    simp only [Nat.zero_mul, Nat.zero_add]
    omega

theorem fold_big (k n : Nat) : ∀ a : Nat, (bigL k n).foldl (fun n x => n * 256 + x.toNat) a = a * 256 ^ k + n % 256 ^ k := by
  induction k with
  | zero => intro a; simp [bigL, Nat.mod_one]
  | succ k ih =>
    intro a
    rw [bigL, List.foldl_cons, ih, Int.toNat_natCast, Nat.add_mul, Nat.pow_succ, Nat.mod_mul, Nat.mul_assoc, Nat.mul_comm 256 (256 ^ k)]
    have : n / 256 ^ k % 256 * 256 ^ k = 256 ^ k * (n / 256 ^ k % 256) := Nat.mul_comm _ _
    omega

theorem num_big {k n : Nat} (h : n < 256 ^ k) : numB (bigL k n) = n := by
  unfold numB
  rw [fold_big, Nat.zero_mul, Nat.zero_add, Nat.mod_eq_of_lt h]

theorem big_num {l : List Int} (hb : GByt l) : ∀ (k a : Nat), l.length = k → bigL k (l.foldl (fun n x => n * 256 + x.toNat) a) = l := by
  induction l with
  | nil => intro k a hk; subst hk; rfl
  | cons x r ih =>
    intro k a hk
    obtain ⟨m, rfl⟩ : ∃ m, k = m + 1 := ⟨r.length, by simpa using hk.symm⟩
    have hr : r.length = m := by simpa using hk
    have hbr : GByt r := fun y hy => hb y (List.mem_cons_of_mem _ hy)
    have hx := hb x List.mem_cons_self
    have hlt := numB_lt hbr
    rw [List.foldl_cons, bigL, ih hbr m _ hr, fold_split, hr]
    rw [hr] at hlt
    congr 1
    rw [Nat.mul_comm, Nat.mul_add_div (Nat.pow_pos (by decide)), Nat.div_eq_of_lt hlt]
    omega

theorem big_num' {l : List Int} {k : Nat} (hb : GByt l) (hk : l.length = k) : bigL k (numB l) = l := big_num hb k 0 hk

theorem tabL_of {zs : List Int} (hb : GByt zs) (hl : 3 ≤ zs.length) : tabL (tabOf zs) = zs.take 3 := by
  match zs, hl with
  | x :: y :: z :: r, _ =>
    have hx := hb x (by simp)
    have hy := hb y (by simp)
    have hz := hb z (by simp)
    have e1 : bigL 1 (numB [x]) = [x] := big_num' (fun u hu => by simp at hu; rw [hu]; exact hx) rfl
    have e2 : bigL 1 (numB [y]) = [y] := big_num' (fun u hu => by simp at hu; rw [hu]; exact hy) rfl
    have e3 : bigL 1 (numB [z]) = [z] := big_num' (fun u hu => by simp at hu; rw [hu]; exact hz) rfl
    simp only [tabL, tabOf, List.take_succ_cons, List.take_zero, List.drop_succ_cons, List.drop_zero, Int.toNat_natCast, e1, e2, e3]
    rfl

theorem byt_take {zs : List Int} (h : GByt zs) (k : Nat) : GByt (zs.take k) := fun y hy => h y (List.mem_of_mem_take hy)

theorem insL_of {zs : List Int} (hb : GByt zs) (hl : 14 ≤ zs.length) : insL (insOf zs) = zs.take 14 := by
  have one : ∀ l : List Int, GByt l → ∀ k, k ≤ l.length → bigL k (numB (l.take k)) = l.take k := fun l h k hk => big_num' (byt_take h k) (by rw [List.length_take]; omega)
  have b1 := byt_drop hb 1
  have b2 := byt_drop b1 1
  have b3 := byt_drop b2 1
  have b4 := byt_drop b3 1
  have b5 := byt_drop b4 2
  unfold insL insOf
  dsimp only
  simp only [Int.toNat_natCast]
  rw [one zs hb 1 (by omega), one _ b1 1 (by simp only [List.length_drop]; omega), one _ b2 1 (by simp only [List.length_drop]; omega), one _ b3 1 (by simp only [List.length_drop]; omega), one _ b4 2 (by simp only [List.length_drop]; omega), one _ b5 8 (by simp only [List.length_drop]; omega)]
  simp only [List.drop_drop]
  rw [← List.take_add, ← List.take_add, ← List.take_add, ← List.take_add, ← List.take_add]

theorem tabs_cons (n : Nat) (zs : List Int) : tabsOf (n + 1) zs = tabOf zs :: tabsOf n (zs.drop 3) := by
  unfold tabsOf
  rw [List.range_succ_eq_map, List.map_cons, List.map_map]
  congr 1
  apply List.map_congr_left
  intro i _
  simp only [Function.comp, List.drop_drop]
  congr 2
  omega
theorem inss_cons (n : Nat) (zs : List Int) : inssOf (n + 1) zs = insOf zs :: inssOf n (zs.drop 14) := by
  unfold inssOf
  rw [List.range_succ_eq_map, List.map_cons, List.map_map]
  congr 1
  apply List.map_congr_left
  intro i _
  simp only [Function.comp, List.drop_drop]
  congr 2
  omega

theorem tabs_flat : ∀ (n : Nat) {zs : List Int}, GByt zs → 3 * n ≤ zs.length → (tabsOf n zs).flatMap tabL = zs.take (3 * n)
  | 0, zs, _, _ => by simp [tabsOf]
  | n + 1, zs, hb, hl => by
    rw [tabs_cons, List.flatMap_cons, tabL_of hb (by omega), tabs_flat n (byt_drop hb 3) (by rw [List.length_drop]; omega), ← List.take_add]
    congr 1
    omega
theorem inss_flat : ∀ (n : Nat) {zs : List Int}, GByt zs → 14 * n ≤ zs.length → (inssOf n zs).flatMap insL = zs.take (14 * n)
  | 0, zs, _, _ => by simp [inssOf]
  | n + 1, zs, hb, hl => by
    rw [inss_cons, List.flatMap_cons, insL_of hb (by omega), inss_flat n (byt_drop hb 14) (by rw [List.length_drop]; omega), ← List.take_add]
    congr 1
    omega

/-- what was decoded is encoded to the same bytes -/
theorem enc_dec {zs : List Int} (hb : GByt zs) (h : (wrongB zs).1 = 0) : gencL (slotsOf (zs.drop 3)) (tsOf (zs.drop 3)) (csOf (zs.drop 3)) = zs := by
  obtain ⟨h5, hm, hl⟩ := wrong_none' h
  have e0 : zs = zs.take 3 ++ zs.drop 3 := (List.take_append_drop 3 zs).symm
  have hby := byt_drop hb 3
  have hyl : (zs.drop 3).length = zs.length - 3 := List.length_drop
  rw [hm] at e0
  unfold gencL
  conv => rhs; rw [e0]
  congr 1
  generalize zs.drop 3 = y at *
  have b1 := byt_drop hby 1
  have b2 := byt_drop b1 1
  have b3 := byt_drop b2 (3 * ntOf y)
  have b4 := byt_drop b3 2
  have l2 : ((y.drop 1).drop 1).length = y.length - 2 := by simp only [List.length_drop]; omega
  unfold progL slotsOf
  rw [show (tsOf y).length = ntOf y from tabs_len _ _, show (csOf y).length = ncOf y from inss_len _ _, Int.toNat_natCast]
  unfold tsOf csOf
  rw [tabs_flat _ b2 (by rw [l2]; omega), inss_flat _ b4 (by simp only [List.length_drop]; omega)]
  rw [big_num' (byt_take hby 1) (by rw [List.length_take]; omega)]
  rw [show bigL 1 (ntOf y) = (y.drop 1).take 1 from big_num' (byt_take b1 1) (by rw [List.length_take, List.length_drop]; omega)]
  rw [show bigL 2 (ncOf y) = (((y.drop 1).drop 1).drop (3 * ntOf y)).take 2 from big_num' (byt_take b3 2) (by simp only [List.length_take, List.length_drop]; omega)]
  have e4 : ((((y.drop 1).drop 1).drop (3 * ntOf y)).drop 2).take (14 * ncOf y) = (((y.drop 1).drop 1).drop (3 * ntOf y)).drop 2 := List.take_of_length_le (by simp only [List.length_drop]; omega)
  rw [e4, List.append_assoc, List.append_assoc, List.append_assoc, List.take_append_drop, List.take_append_drop, List.take_append_drop, List.take_append_drop]

theorem tabOf_L {t : ShapeD} (r : List Int) (h : (0 ≤ t.keys ∧ t.keys < 256) ∧ (0 ≤ t.acts ∧ t.acts < 256) ∧ (0 ≤ t.args ∧ t.args < 256)) : tabOf (tabL t ++ r) = t := by
  obtain ⟨k, a, g⟩ := t
  obtain ⟨h1, h2, h3⟩ := h
  dsimp only at h1 h2 h3
  unfold tabOf tabL
  dsimp only
  rw [List.append_assoc, List.append_assoc, List.take_left' (bigL_len _ _), List.drop_left' (bigL_len _ _), List.take_left' (bigL_len _ _), List.drop_left' (bigL_len _ _), List.take_left' (bigL_len _ _), num_big (by omega), num_big (by omega), num_big (by omega)]
  congr 1 <;> omega

theorem insOf_L {x : InsD} (r : List Int) (h : InsFit x) : insOf (insL x ++ r) = x := by
  obtain ⟨op, rr, s, k, to, n⟩ := x
  obtain ⟨h1, h2, h3, h4, h5, h6⟩ := h
  dsimp only at h1 h2 h3 h4 h5 h6
  have e8 : (256 : Nat) ^ 8 = 18446744073709551616 := rfl
  unfold insOf insL
  dsimp only
  rw [List.append_assoc, List.append_assoc, List.append_assoc, List.append_assoc, List.append_assoc, List.take_left' (bigL_len _ _), List.drop_left' (bigL_len _ _), List.take_left' (bigL_len _ _), List.drop_left' (bigL_len _ _), List.take_left' (bigL_len _ _), List.drop_left' (bigL_len _ _), List.take_left' (bigL_len _ _), List.drop_left' (bigL_len _ _), List.take_left' (bigL_len _ _), List.drop_left' (bigL_len _ _), List.take_left' (bigL_len _ _), num_big (by omega), num_big (by omega), num_big (by omega), num_big (by omega), num_big (by omega), num_big (by omega)]
  congr 1 <;> omega

theorem tabs_back : ∀ (ts : List ShapeD) (r : List Int), (∀ t ∈ ts, (0 ≤ t.keys ∧ t.keys < 256) ∧ (0 ≤ t.acts ∧ t.acts < 256) ∧ (0 ≤ t.args ∧ t.args < 256)) → tabsOf ts.length (ts.flatMap tabL ++ r) = ts
  | [], _, _ => rfl
  | t :: ts, r, h => by
    rw [List.length_cons, tabs_cons, List.flatMap_cons, List.append_assoc, tabOf_L _ (h t List.mem_cons_self), List.drop_left' (tabL_len t), tabs_back ts r fun u hu => h u (List.mem_cons_of_mem _ hu)]
theorem inss_back : ∀ (cs : List InsD) (r : List Int), (∀ x ∈ cs, InsFit x) → inssOf cs.length (cs.flatMap insL ++ r) = cs
  | [], _, _ => rfl
  | x :: cs, r, h => by
    rw [List.length_cons, inss_cons, List.flatMap_cons, List.append_assoc, insOf_L _ (h x List.mem_cons_self), List.drop_left' (insL_len x), inss_back cs r fun u hu => h u (List.mem_cons_of_mem _ hu)]

/-- a program's bytes, with more behind them -/
theorem nt_prog {slots : Int} {ts : List ShapeD} {cs : List InsD} (f : ProgFit slots ts cs) (r : List Int) : ntOf (progL slots ts cs ++ r) = ts.length := by
  have := f.nt
  unfold ntOf progL
  rw [List.append_assoc, List.append_assoc, List.append_assoc, List.append_assoc, List.drop_left' (bigL_len _ _), List.take_left' (bigL_len _ _), num_big (by omega)]
theorem nc_prog {slots : Int} {ts : List ShapeD} {cs : List InsD} (f : ProgFit slots ts cs) (r : List Int) : ncOf (progL slots ts cs ++ r) = cs.length := by
  have := f.nc
  unfold ncOf
  rw [nt_prog f]
  unfold progL
  rw [List.append_assoc, List.append_assoc, List.append_assoc, List.append_assoc, List.drop_left' (bigL_len _ _), List.drop_left' (bigL_len _ _), List.drop_left' (gflat_len tabL 3 tabL_len ts), List.take_left' (bigL_len _ _), num_big (by omega)]
theorem slots_prog {slots : Int} {ts : List ShapeD} {cs : List InsD} (f : ProgFit slots ts cs) (r : List Int) : slotsOf (progL slots ts cs ++ r) = slots := by
  have := f.s
  unfold slotsOf progL
  rw [List.append_assoc, List.append_assoc, List.append_assoc, List.append_assoc, List.take_left' (bigL_len _ _), num_big (by omega)]
  omega
theorem ts_prog {slots : Int} {ts : List ShapeD} {cs : List InsD} (f : ProgFit slots ts cs) (r : List Int) : tsOf (progL slots ts cs ++ r) = ts := by
  unfold tsOf
  rw [nt_prog f]
  unfold progL
  rw [List.append_assoc, List.append_assoc, List.append_assoc, List.append_assoc, List.drop_left' (bigL_len _ _), List.drop_left' (bigL_len _ _), tabs_back ts _ fun t ht => by have := f.t t ht; omega]
theorem cs_prog {slots : Int} {ts : List ShapeD} {cs : List InsD} (f : ProgFit slots ts cs) (r : List Int) : csOf (progL slots ts cs ++ r) = cs := by
  unfold csOf
  rw [nt_prog f, nc_prog f]
  unfold progL
  rw [List.append_assoc, List.append_assoc, List.append_assoc, List.append_assoc, List.drop_left' (bigL_len _ _), List.drop_left' (bigL_len _ _), List.drop_left' (gflat_len tabL 3 tabL_len ts), List.drop_left' (bigL_len _ _), inss_back cs r f.c]
theorem prog_len (slots : Int) (ts : List ShapeD) (cs : List InsD) : (progL slots ts cs).length = 4 + 3 * ts.length + 14 * cs.length := by
  unfold progL
  simp only [List.length_append, bigL_len, gflat_len tabL 3 tabL_len, gflat_len insL 14 insL_len]
  omega
theorem genc_len (slots : Int) (ts : List ShapeD) (cs : List InsD) : (gencL slots ts cs).length = 7 + 3 * ts.length + 14 * cs.length := by
  unfold gencL
  rw [List.length_append, prog_len]
  simp
  omega

theorem genc_drop (slots : Int) (ts : List ShapeD) (cs : List InsD) (r : List Int) : (gencL slots ts cs ++ r).drop 3 = progL slots ts cs ++ r := rfl
theorem genc_take (slots : Int) (ts : List ShapeD) (cs : List InsD) (r : List Int) : (gencL slots ts cs ++ r).take 3 = [83, 87, 1] := rfl

theorem wrong_enc {slots : Int} {ts : List ShapeD} {cs : List InsD} (f : ProgFit slots ts cs) (r : List Int) : wrongB (gencL slots ts cs ++ r) = if r = [] then (0, 0) else (4, ((gencL slots ts cs).length : Int)) := by
  have hl := genc_len slots ts cs
  have hc := f.nc
  unfold wrongB
  rw [genc_take, genc_drop, nt_prog f, nc_prog f, List.length_append, if_neg (by omega), if_neg (fun h => h rfl), if_neg (by omega), if_neg (by omega)]
  by_cases hr : r = []
  · subst hr
    rw [if_pos rfl, if_neg (by simp; omega)]
  · have : 0 < r.length := List.length_pos_iff.2 hr
    rw [if_neg hr, if_pos (by omega), hl]

/-- what was encoded is decoded as it was -/
theorem dec_enc {slots : Int} {ts : List ShapeD} {cs : List InsD} (f : ProgFit slots ts cs) (h : (chkW slots ts cs).1 = 0) : (decF (gencL slots ts cs)).1 = 0 := by
  have h0 := wrong_enc f []
  rw [List.append_nil, if_pos rfl] at h0
  unfold decF
  rw [h0, if_neg (fun h => h rfl)]
  have e := genc_drop slots ts cs []
  rw [List.append_nil, List.append_nil] at e
  have e1 := slots_prog f []
  have e2 := ts_prog f []
  have e3 := cs_prog f []
  rw [List.append_nil] at e1 e2 e3
  rw [e, e1, e2, e3]
  exact h

theorem dec_more {slots : Int} {ts : List ShapeD} {cs : List InsD} (f : ProgFit slots ts cs) : decF (gencL slots ts cs ++ [0]) = (4, ((gencL slots ts cs).length : Int)) := by
  have h0 := wrong_enc f [0]
  rw [if_neg (by simp)] at h0
  unfold decF
  rw [h0, if_pos (by simp)]

/-- what is cut off is too short -/
theorem dec_cut {slots : Int} {ts : List ShapeD} {cs : List InsD} (f : ProgFit slots ts cs) (k : Nat) (hk : k < (gencL slots ts cs).length) : decF ((gencL slots ts cs).take k) = (3, (k : Int)) := by
  have hl := genc_len slots ts cs
  have hlk : ((gencL slots ts cs).take k).length = k := by rw [List.length_take]; omega
  suffices h : wrongB ((gencL slots ts cs).take k) = (3, (k : Int)) by
    unfold decF
    rw [h, if_pos (by simp)]
  unfold wrongB
  rw [hlk]
  by_cases h5 : k < 5
  · rw [if_pos h5]
  rw [if_neg h5]
  have e3 : ((gencL slots ts cs).take k).take 3 = [83, 87, 1] := by
    rw [List.take_take, Nat.min_eq_left (by omega)]
    have := genc_take slots ts cs []
    rw [List.append_nil] at this
    exact this
  have hd : ((gencL slots ts cs).take k).drop 3 = (progL slots ts cs).take (k - 3) := by
    rw [List.drop_take]
    have := genc_drop slots ts cs []
    rw [List.append_nil, List.append_nil] at this
    rw [this]
  rw [if_neg (by rw [e3]; exact fun h => h rfl), hd]
  have n1 := nt_prog f []
  have n2 := nc_prog f []
  rw [List.append_nil] at n1 n2
  have ent : ntOf ((progL slots ts cs).take (k - 3)) = ts.length := by
    rw [← n1]
    unfold ntOf
    rw [List.drop_take, List.take_take, Nat.min_eq_left (by omega)]
  rw [ent]
  by_cases h7 : k < 7 + 3 * ts.length
  · rw [if_pos h7]
  rw [if_neg h7]
  have enc : ncOf ((progL slots ts cs).take (k - 3)) = cs.length := by
    rw [← n2]
    unfold ncOf
    rw [ent, n1, List.drop_take, List.drop_take, List.drop_take, List.take_take, Nat.min_eq_left (by omega)]
  rw [enc, if_pos (by omega)]
end Go.Proofs.Ytcdpmpcpgijebaa
