/- Texts of one chain, joined: MSmall. -/
import Derived.Test.YtffbnggdckjogaaGreatG3
import Derived.Test.YtffbnggdckjogaaGreatG0
import Derived.Test.YtffbnggdckjogaaGreatG6
namespace Go.Proofs.YtffbnggdckjogaaGreat
open Go.RowKit Mth
theorem nanI (x : Int) (w : World) : Calls Tryz.prog 142 #[.int .i64 x] w fun e w' => e = .returned (.bool false) ∧ w' = w := by
  have h : (x != x) = false := by simp
  go_enter Tryz.func142, Tryz.ntmps142
  go_wp2
  go_ret
  exact ⟨rfl, rfl⟩
theorem nanU (x : Int) (w : World) : Calls Tryz.prog 145 #[.int .u64 x] w fun e w' => e = .returned (.bool false) ∧ w' = w := by
  have h : (x != x) = false := by simp
  go_enter Tryz.func145, Tryz.ntmps145
  go_wp2
  go_ret
  exact ⟨rfl, rfl⟩
theorem cmpI_any (x y : Int) (w : World) : Calls Tryz.prog 135 #[.int .i64 x, .int .i64 y] w fun e w' => e = .returned (.int .i64 (ord x y)) ∧ w' = w := by
  have h3 : (x < y ∧ ord x y = -1) ∨ (¬ x < y ∧ y < x ∧ ord x y = 1) ∨ (¬ x < y ∧ ¬ y < x ∧ ord x y = 0) := by unfold ord; split <;> (try split) <;> omega
  generalize ord x y = o at *
  go_enter Tryz.func135, Tryz.ntmps135
  go_wp2_with fail
  refine (nanI _ _).mono ?_
  rintro e w1 ⟨rfl, rfl⟩
  go_wp2_with fail
  refine (nanI _ _).mono ?_
  rintro e w1 ⟨rfl, rfl⟩
  rcases h3 with ⟨h1, rfl⟩ | ⟨h1, h2, rfl⟩ | ⟨h1, h2, rfl⟩
  · go_wp2
    go_ret
    exact ⟨rfl, rfl⟩
  · go_wp2
    go_ret
    exact ⟨rfl, rfl⟩
  · go_wp2
    go_ret
    exact ⟨rfl, rfl⟩
theorem cmpU_any (x y : Int) (w : World) : Calls Tryz.prog 143 #[.int .u64 x, .int .u64 y] w fun e w' => e = .returned (.int .i64 (ord x y)) ∧ w' = w := by
  have h3 : (x < y ∧ ord x y = -1) ∨ (¬ x < y ∧ y < x ∧ ord x y = 1) ∨ (¬ x < y ∧ ¬ y < x ∧ ord x y = 0) := by unfold ord; split <;> (try split) <;> omega
  generalize ord x y = o at *
  go_enter Tryz.func143, Tryz.ntmps143
  go_wp2_with fail
  refine (nanU _ _).mono ?_
  rintro e w1 ⟨rfl, rfl⟩
  go_wp2_with fail
  refine (nanU _ _).mono ?_
  rintro e w1 ⟨rfl, rfl⟩
  rcases h3 with ⟨h1, rfl⟩ | ⟨h1, h2, rfl⟩ | ⟨h1, h2, rfl⟩
  · go_wp2
    go_ret
    exact ⟨rfl, rfl⟩
  · go_wp2
    go_ret
    exact ⟨rfl, rfl⟩
  · go_wp2
    go_ret
    exact ⟨rfl, rfl⟩
theorem or_any {w : World} {b : Nat} {x y z : Int} (o : Int) (ho : (if x ≠ 0 then x else if y ≠ 0 then y else z) = o) (h0 : w.cell? ⟨b, 0, none⟩ = some (.int .i64 x)) (h1 : w.cell? ⟨b, 1, none⟩ = some (.int .i64 y)) (h2 : w.cell? ⟨b, 2, none⟩ = some (.int .i64 z)) :
    Calls Tryz.prog 31 #[.slice (some ⟨b, 0, none⟩) 3 3] w fun e w' => e = .returned (.int .i64 o) ∧ w' = w := by
  have h3 : (x ≠ 0 ∧ (if x ≠ 0 then x else if y ≠ 0 then y else z) = x) ∨ (x = 0 ∧ y ≠ 0 ∧ (if x ≠ 0 then x else if y ≠ 0 then y else z) = y) ∨ (x = 0 ∧ y = 0 ∧ (if x ≠ 0 then x else if y ≠ 0 then y else z) = z) := by split <;> (try split) <;> omega
  rw [ho] at h3
  have H3 := hid h3
  clear h3 ho
  go_enter Tryz.func31, Tryz.ntmps31
  go_wp2
  go_loop [8] (fun q => q = .int .i64 0 ∨ (q = .int .i64 1 ∧ x = 0) ∨ (q = .int .i64 2 ∧ x = 0 ∧ y = 0) ∨ (q = .int .i64 3 ∧ x = 0 ∧ y = 0 ∧ z = 0)) (fun q => 3 - (intOf q).toNat)
  case atStart => exact .inl rfl
  case round =>
    rcases hrel with rfl | ⟨rfl, rfl⟩ | ⟨rfl, rfl, rfl⟩ | ⟨rfl, rfl, rfl, rfl⟩
    · by_cases hx : x = 0
      · subst hx
        go_wp2
        go_round
        case rel => simp
        case measure => simp [intOf]
      · have hd : (x != 0) = true := by simpa using hx
        have e : o = x := by have := H3.out; omega
        subst e
        go_wp2
        go_ret
        exact ⟨rfl, rfl⟩
    · by_cases hx : y = 0
      · subst hx
        go_wp2
        go_round
        case rel => simp
        case measure => simp [intOf]
      · have hd : (y != 0) = true := by simpa using hx
        have e : o = y := by have := H3.out; omega
        subst e
        go_wp2
        go_ret
        exact ⟨rfl, rfl⟩
    · by_cases hx : z = 0
      · subst hx
        go_wp2
        go_round
        case rel => simp
        case measure => simp [intOf]
      · have hd : (z != 0) = true := by simpa using hx
        have e : o = z := by have := H3.out; omega
        subst e
        go_wp2
        go_ret
        exact ⟨rfl, rfl⟩
    · have e : o = 0 := by have := H3.out; omega
      subst e
      go_wp2
      go_ret
      exact ⟨rfl, rfl⟩
theorem lexO_at {a b : List Int} {i : Nat} {x y : Int} (hp : a.take i = b.take i) (hx : a[i]? = some x) (hy : b[i]? = some y) : (ord x y ≠ 0 → lexO a b = ord x y) ∧ (ord x y = 0 → a.take (i + 1) = b.take (i + 1)) := by
  constructor
  · intro h
    induction i generalizing a b with
    | zero =>
      cases a with
      | nil => cases hx
      | cons u us =>
        cases b with
        | nil => cases hy
        | cons v vs =>
          simp only [List.getElem?_cons_zero, Option.some.injEq] at hx hy
          subst hx; subst hy
          rw [lexO, if_pos h]
    | succ i ih =>
      cases a with
      | nil => cases hx
      | cons u us =>
        cases b with
        | nil => cases hy
        | cons v vs =>
          simp only [List.take_succ_cons, List.cons.injEq] at hp
          obtain ⟨rfl, hp⟩ := hp
          rw [lexO, if_neg (by simp [ord_eq])]
          exact ih hp (by simpa using hx) (by simpa using hy)
  · intro h
    have := (ord_eq x y).1 h
    subst this
    rw [List.take_add_one, List.take_add_one, hp, hx, hy]
theorem lexO_end {a b : List Int} (hl : a.length = b.length) (hp : a.take a.length = b.take a.length) : lexO a b = 0 := by
  rw [lexO_eq]
  rw [List.take_length, hl, List.take_length] at hp
  exact hp
set_option maxHeartbeats 1000000 in
set_option maxRecDepth 20000 in
/-- slices.Compare, of lists of one length -/
theorem lex_any {w : World} {a b : Option Addr} {n : Nat} {xs ys : List Int} (c d : Nat) (hn : n ≤ 1000) (ha : Has .u64 w a n xs) (hb : Has .u64 w b n ys) :
    Calls Tryz.prog 136 #[.slice a n c, .slice b n d] w fun e w' => e = .returned (.int .i64 (lexO xs ys)) ∧ w' = w := by
  have hxl := ha.1
  have hyl := hb.1
  have HA := hid ha
  have HB := hid hb
  clear ha hb
  go_enter Tryz.func136, Tryz.ntmps136
  go_wp2
  go_loop [11] (fun q => ∃ i : Nat, i ≤ n ∧ q = .int .i64 i ∧ Hid (xs.take i = ys.take i)) (fun q => n - (intOf q).toNat)
  case atStart => exact ⟨0, Nat.zero_le _, rfl, rfl⟩
  case round =>
    obtain ⟨i, hi, rfl, hp⟩ := hrel
    by_cases hlt : i < n
    · obtain ⟨p1, o1, rfl, -, hc1⟩ := HA.out.some (by omega)
      obtain ⟨p2, o2, rfl, -, hc2⟩ := HB.out.some (by omega)
      have hx : xs[i]? = some (xs[i]'(by omega)) := List.getElem?_eq_getElem _
      have hy : ys[i]? = some (ys[i]'(by omega)) := List.getElem?_eq_getElem _
      have gx : xs.getD i 0 = xs[i]'(by omega) := by rw [List.getD_eq_getElem?_getD, hx]; rfl
      have gy : ys.getD i 0 = ys[i]'(by omega) := by rw [List.getD_eq_getElem?_getD, hy]; rfl
      have q1 := hc1 i hlt
      have q2 := hc2 i hlt
      rw [gx] at q1
      rw [gy] at q2
      generalize xs[i]'(by omega) = x at *
      generalize ys[i]'(by omega) = y at *
      have HLX := hid (lexO_at hp.out hx hy)
      have hin : (i : Int) < (n : Int) := by omega
      clear hc1 hc2 gx gy hx hy hp HA HB
      go_wp2_with fail
      refine (cmpU_any _ _ _).mono ?_
      rintro e w1 ⟨rfl, rfl⟩
      by_cases h0 : ord x y = 0
      · have HN := hid (HLX.out.2 h0)
        rw [h0]
        clear HLX h0
        go_wp2
        go_round
        case rel => exact ⟨i + 1, by omega, by go_num, HN.out⟩
        case measure => simp [intOf]; omega
      · have HN := hid (HLX.out.1 h0)
        have hd : (ord x y != 0) = true := by simpa using h0
        clear HLX h0
        generalize ord x y = o at *
        go_wp2
        go_ret
        exact ⟨by rw [HN.out]; rfl, rfl⟩
    · have ei : i = n := by omega
      subst ei
      have HN := hid (lexO_end (a := xs) (b := ys) (by omega) (by rw [hxl]; exact hp.out))
      clear hp HA HB
      go_wp2
      go_ret
      exact ⟨by rw [HN.out]; rfl, rfl⟩
end Go.Proofs.YtffbnggdckjogaaGreat
