/- Texts of one chain, joined: SFind3. -/
import Derived.Test.YtffbnggdckjogaaGreatG30
import Derived.Test.YtffbnggdckjogaaGreatG36
namespace Go.Proofs.YtffbnggdckjogaaGreat
open Go.RowKit Mth
def stFind (k : FK) (f : FSt) (ws ks : List Int) : Option HitM := if ks.length = ws.length ∧ Narrow ks ws then faceFind k f ks else none
def StFound (w : World) (x : Option HitM) (h : HitM) (r : Ending) (w' : World) : Prop := ∃ v, r = .returned (.tuple #[v, .bool x.isSome]) ∧ Says w' v (x.getD h) ∧ Below w.heap.size w w'
set_option maxHeartbeats 8000000 in
set_option maxRecDepth 20000 in
theorem st_find {w : World} {s : Nat} {k : FK} {f : FSt} {ws : List Int} {Ms : List (Int × List Int)} {h : HitM} {N : Nat} {X : Nat → Prop} {a : Option Addr} {n c : Nat} {ks : List Int} (t : StAt w s k f ws Ms h N X) (hs : Has .u64 w a n ks) (hn : n ≤ 100000) :
    Calls Tryz.prog 11 #[.pointer (some ⟨s, 0, none⟩), .slice a n c] w (StFound w (stFind k f ws ks) h) := by
  obtain ⟨W1, hW1⟩ : ∃ W1, W1 = w.alloc (.cells #[.int .i64 0, .slice none 0 0] 50) := ⟨_, rfl⟩
  obtain ⟨rb, hrb⟩ : ∃ b, b = w.heap.size := ⟨_, rfl⟩
  have b1 : Below w.heap.size w W1 := by rw [hW1]; exact bl_alloc (Below.refl _ _)
  have r0 : W1.cell? ⟨rb, 0, none⟩ = some (.int .i64 0) := by rw [hW1, hrb]; simp
  have r1 : W1.cell? ⟨rb, 1, none⟩ = some (.slice none 0 0) := by rw [hW1, hrb]; simp
  have r2 : W1.frozen? ⟨rb, 0, none⟩ = false := by rw [hW1, hrb]; simp
  have r3 : W1.frozen? ⟨rb, 1, none⟩ = false := by rw [hW1, hrb]; simp
  have hrl : rb < W1.heap.size := World.block_lt_of_cell? _ _ r0
  have hrw : w.heap.size ≤ rb := by omega
  have c0 := cell_keep t.cell b1
  have HA : Hid (Calls Tryz.prog 20 #[.pointer (some ⟨s, 1, none⟩), .slice a n c] W1 fun q w' => ∃ b : Bool, q = .returned (.bool b) ∧ (b = true ↔ (ks.length = ws.length ∧ Narrow ks ws)) ∧ Below W1.heap.size W1 w') := (akeys_any (t.step b1).rules (hs.step b1) hn).mono fun q w' ⟨b, e1, e2, e3⟩ => ⟨b, e1, e2, e3.below⟩
  have HS : Hid (∀ w1, Below W1.heap.size W1 w1 → Calls Tryz.prog 21 #[.pointer (some ⟨s, 0, none⟩)] w1 fun q w' => ∃ a n c, q = .returned (.agg #[.int .i64 h.1, .slice a n c]) ∧ Says w' (.agg #[.int .i64 h.1, .slice a n c]) h ∧ Below W1.heap.size W1 w') := fun w1 hb => (ssays_any ((t.step b1).step hb).says).mono fun q w' ⟨a, n, c, e1, e2, e3, e4⟩ => ⟨a, n, c, e1, e3, bl_step hb e4⟩
  have HC : Hid (∀ w1, Below W1.heap.size W1 w1 → w1.cell? ⟨rb, 0, none⟩ = some (.int .i64 0) ∧ w1.cell? ⟨rb, 1, none⟩ = some (.slice none 0 0) ∧ w1.frozen? ⟨rb, 0, none⟩ = false ∧ w1.frozen? ⟨rb, 1, none⟩ = false ∧ rb < w1.heap.size) := fun w1 hb => ⟨cell_keep r0 hb, cell_keep r1 hb, (hb.frozen (p := ⟨rb, 0, none⟩) hrl).trans r2, (hb.frozen (p := ⟨rb, 1, none⟩) hrl).trans r3, Nat.lt_of_lt_of_le hrl hb.size⟩
  have hone : k.kind = 2 → ks.length = ws.length → n = 1 := fun h2 hl => by rw [← hs.1, hl]; exact t.one h2
  obtain ⟨R, hR⟩ : ∃ R, R = faceFind k f ks := ⟨_, rfl⟩
  have EW := hid hW1
  have ER := hid hrb
  have HD : Hid (∀ w3 v y u z, Below W1.heap.size W1 w3 → Says w3 v y → Says ((w3.setCell ⟨rb, 0, none⟩ u).setCell ⟨rb, 1, none⟩ z) v y ∧ Below w.heap.size w ((w3.setCell ⟨rb, 0, none⟩ u).setCell ⟨rb, 1, none⟩ z)) := fun w3 v y u z hb hv => ⟨hv.over (HC.out w3 hb).1 (HC.out w3 hb).2.1 _ _, ((bl_step b1 hb).setCell (p := ⟨rb, 0, none⟩) hrw _).setCell (p := ⟨rb, 1, none⟩) hrw _⟩
  rcases t.face.kinds with hk | hk | hk
  · have HF : Hid (ks.length = ws.length → ∀ w1, Below W1.heap.size W1 w1 → Calls Tryz.prog 58 #[.pointer (some ⟨k.p, 0, none⟩), .slice a n c] w1 fun r w' => ∃ va vn vc, r = .returned (.tuple #[.agg #[.int .i64 (R.getD (0, [])).1, .slice va vn vc], .bool R.isSome]) ∧ Says w' (.agg #[.int .i64 (R.getD (0, [])).1, .slice va vn vc]) (R.getD (0, [])) ∧ Below W1.heap.size W1 w') := fun _ w1 hb => (face1_find (c := c) hk ((t.face.step b1).step hb) ((hs.step b1).step hb)).mono fun r w' ⟨v, e1, ⟨va, vn, vc, e2, vr⟩, hb3⟩ => by
      subst e2
      rw [hR]
      exact ⟨va, vn, vc, e1, ⟨va, vn, vc, rfl, vr⟩, bl_step hb hb3⟩
    rw [faceV1 hk] at c0
    have hmt := fun w' => meth1Find k.p w'
    have ERR := hid hR
    clear hk hW1 hrb b1 t hs r0 r1 r2 r3 hone hR
    go_enter Tryz.func11, Tryz.ntmps11
    go_wp2_with fail
    rw [← EW.out, ← ER.out]
    refine HA.out.mono ?_
    rintro r w2 ⟨b, rfl, hbk, hb2⟩
    obtain ⟨x0, x1, x2, x3, x4⟩ := HC.out w2 hb2
    cases b
    · have hf : stFind k f ws ks = none := by unfold stFind; rw [if_neg (fun hh => by simpa using hbk.2 hh)]
      have HFF := hid hf
      clear hf hbk
      go_wp2_with fail
      refine (HS.out w2 hb2).mono ?_
      rintro r w3 ⟨va, vn, vc, rfl, hv, hb3⟩
      obtain ⟨y0, y1, y2, y3, y4⟩ := HC.out w3 hb3
      have hh := HD.out w3 _ _ (.int .i64 h.1) (.slice va vn vc) hb3 hv
      go_wp2
      rw [HFF.out]
      refine bodyPost_ret (v := .tuple #[.agg #[.int .i64 h.1, .slice va vn vc], .bool false]) ?_ rfl ⟨_, rfl, hh.1, hh.2⟩
      simp [results, Tryz.results11, go_sem, *]
    · have hf : stFind k f ws ks = R := by unfold stFind; rw [if_pos (hbk.1 rfl), ERR.out]
      have HFF := hid hf
      have HF2 := hid (HF.out (hbk.1 rfl).1)
      clear hf hbk HF ERR
      have z0 := cell_keep c0 hb2
      have hsl : s < w2.heap.size := World.block_lt_of_cell? _ _ z0
      have z0' := cell_by z0
      go_wp2_with fail
      refine (HF2.out w2 hb2).mono ?_
      rintro r w3 ⟨va, vn, vc, rfl, hv, hb3⟩
      obtain ⟨y0, y1, y2, y3, y4⟩ := HC.out w3 hb3
      clear HF2 z0 z0' hsl x0 x1 x2 x3 x4
      rcases R with _ | y
      · have HV := hid hv
        have HB3 := hid hb3
        clear hv hb3
        simp only [Option.getD_none, Option.isSome_none]
        go_wp2_with fail
        refine (HS.out _ (bl_alloc HB3.out)).mono ?_
        rintro r w4 ⟨ua, un, uc, rfl, hu, hb4⟩
        obtain ⟨u0, u1, u2, u3, u4⟩ := HC.out w4 hb4
        have hh := HD.out w4 _ _ (.int .i64 h.1) (.slice ua un uc) hb4 hu
        go_wp2
        rw [HFF.out]
        refine bodyPost_ret (v := .tuple #[.agg #[.int .i64 h.1, .slice ua un uc], .bool false]) ?_ rfl ⟨_, rfl, hh.1, hh.2⟩
        simp [results, Tryz.results11, go_sem, *]
      · have HP := HD.out w3 _ _ (.int .i64 y.1) (.slice va vn vc) hb3 hv
        have HH := hid (fun o => And.intro (HP.1.moved (moved_alloc _ o)) (bl_alloc (o := o) HP.2))
        clear HP
        clear hv hb3
        simp only [Option.getD_some, Option.isSome_some] at HH ⊢
        go_wp2
        rw [HFF.out]
        refine bodyPost_ret (v := .tuple #[.agg #[.int .i64 y.1, .slice va vn vc], .bool true]) ?_ rfl ⟨_, rfl, (HH.out _).1, (HH.out _).2⟩
        simp [results, Tryz.results11, go_sem, *]
  · have HF : Hid (ks.length = ws.length → ∀ w1, Below W1.heap.size W1 w1 → Calls Tryz.prog 113 #[boxV k.p, .slice a n c] w1 fun r w' => ∃ va vn vc, r = .returned (.tuple #[.agg #[.int .i64 (R.getD (0, [])).1, .slice va vn vc], .bool R.isSome]) ∧ Says w' (.agg #[.int .i64 (R.getD (0, [])).1, .slice va vn vc]) (R.getD (0, [])) ∧ Below W1.heap.size W1 w') := fun hl w1 hb => by
      have h1 := hone hk hl
      subst h1
      exact (face2_find (c := c) hk ((t.face.step b1).step hb) ((hs.step b1).step hb)).mono fun r w' ⟨v, e1, ⟨va, vn, vc, e2, vr⟩, hb3⟩ => by
        subst e2
        rw [hR]
        exact ⟨va, vn, vc, e1, ⟨va, vn, vc, rfl, vr⟩, bl_step hb hb3⟩
    rw [faceV2 hk] at c0
    have hmt := fun w' => meth2Find k.p w'
    have ERR := hid hR
    clear hk hW1 hrb b1 t hs r0 r1 r2 r3 hone hR
    go_enter Tryz.func11, Tryz.ntmps11
    go_wp2_with fail
    rw [← EW.out, ← ER.out]
    refine HA.out.mono ?_
    rintro r w2 ⟨b, rfl, hbk, hb2⟩
    obtain ⟨x0, x1, x2, x3, x4⟩ := HC.out w2 hb2
    cases b
    · have hf : stFind k f ws ks = none := by unfold stFind; rw [if_neg (fun hh => by simpa using hbk.2 hh)]
      have HFF := hid hf
      clear hf hbk
      go_wp2_with fail
      refine (HS.out w2 hb2).mono ?_
      rintro r w3 ⟨va, vn, vc, rfl, hv, hb3⟩
      obtain ⟨y0, y1, y2, y3, y4⟩ := HC.out w3 hb3
      have hh := HD.out w3 _ _ (.int .i64 h.1) (.slice va vn vc) hb3 hv
      go_wp2
      rw [HFF.out]
      refine bodyPost_ret (v := .tuple #[.agg #[.int .i64 h.1, .slice va vn vc], .bool false]) ?_ rfl ⟨_, rfl, hh.1, hh.2⟩
      simp [results, Tryz.results11, go_sem, *]
    · have hf : stFind k f ws ks = R := by unfold stFind; rw [if_pos (hbk.1 rfl), ERR.out]
      have HFF := hid hf
      have HF2 := hid (HF.out (hbk.1 rfl).1)
      clear hf hbk HF ERR
      have z0 := cell_keep c0 hb2
      have hsl : s < w2.heap.size := World.block_lt_of_cell? _ _ z0
      have z0' := cell_by z0
      go_wp2_with fail
      refine (HF2.out w2 hb2).mono ?_
      rintro r w3 ⟨va, vn, vc, rfl, hv, hb3⟩
      obtain ⟨y0, y1, y2, y3, y4⟩ := HC.out w3 hb3
      clear HF2 z0 z0' hsl x0 x1 x2 x3 x4
      rcases R with _ | y
      · have HV := hid hv
        have HB3 := hid hb3
        clear hv hb3
        simp only [Option.getD_none, Option.isSome_none]
        go_wp2_with fail
        refine (HS.out _ (bl_alloc HB3.out)).mono ?_
        rintro r w4 ⟨ua, un, uc, rfl, hu, hb4⟩
        obtain ⟨u0, u1, u2, u3, u4⟩ := HC.out w4 hb4
        have hh := HD.out w4 _ _ (.int .i64 h.1) (.slice ua un uc) hb4 hu
        go_wp2
        rw [HFF.out]
        refine bodyPost_ret (v := .tuple #[.agg #[.int .i64 h.1, .slice ua un uc], .bool false]) ?_ rfl ⟨_, rfl, hh.1, hh.2⟩
        simp [results, Tryz.results11, go_sem, *]
      · have HP := HD.out w3 _ _ (.int .i64 y.1) (.slice va vn vc) hb3 hv
        have HH := hid (fun o => And.intro (HP.1.moved (moved_alloc _ o)) (bl_alloc (o := o) HP.2))
        clear HP
        clear hv hb3
        simp only [Option.getD_some, Option.isSome_some] at HH ⊢
        go_wp2
        rw [HFF.out]
        refine bodyPost_ret (v := .tuple #[.agg #[.int .i64 y.1, .slice va vn vc], .bool true]) ?_ rfl ⟨_, rfl, (HH.out _).1, (HH.out _).2⟩
        simp [results, Tryz.results11, go_sem, *]
  · have HF : Hid (ks.length = ws.length → ∀ w1, Below W1.heap.size W1 w1 → Calls Tryz.prog 118 #[.pointer (some ⟨k.p, 0, none⟩), .slice a n c] w1 fun r w' => ∃ va vn vc, r = .returned (.tuple #[.agg #[.int .i64 (R.getD (0, [])).1, .slice va vn vc], .bool R.isSome]) ∧ Says w' (.agg #[.int .i64 (R.getD (0, [])).1, .slice va vn vc]) (R.getD (0, [])) ∧ Below W1.heap.size W1 w') := fun _ w1 hb => (face3_find (c := c) hk ((t.face.step b1).step hb) ((hs.step b1).step hb)).mono fun r w' ⟨v, e1, ⟨va, vn, vc, e2, vr⟩, hb3⟩ => by
      subst e2
      rw [hR]
      exact ⟨va, vn, vc, e1, ⟨va, vn, vc, rfl, vr⟩, bl_step hb hb3⟩
    rw [faceV3 hk] at c0
    have hmt := fun w' => meth3Find k.p w'
    have ERR := hid hR
    clear hk hW1 hrb b1 t hs r0 r1 r2 r3 hone hR
    go_enter Tryz.func11, Tryz.ntmps11
    go_wp2_with fail
    rw [← EW.out, ← ER.out]
    refine HA.out.mono ?_
    rintro r w2 ⟨b, rfl, hbk, hb2⟩
    obtain ⟨x0, x1, x2, x3, x4⟩ := HC.out w2 hb2
    cases b
    · have hf : stFind k f ws ks = none := by unfold stFind; rw [if_neg (fun hh => by simpa using hbk.2 hh)]
      have HFF := hid hf
      clear hf hbk
      go_wp2_with fail
      refine (HS.out w2 hb2).mono ?_
      rintro r w3 ⟨va, vn, vc, rfl, hv, hb3⟩
      obtain ⟨y0, y1, y2, y3, y4⟩ := HC.out w3 hb3
      have hh := HD.out w3 _ _ (.int .i64 h.1) (.slice va vn vc) hb3 hv
      go_wp2
      rw [HFF.out]
      refine bodyPost_ret (v := .tuple #[.agg #[.int .i64 h.1, .slice va vn vc], .bool false]) ?_ rfl ⟨_, rfl, hh.1, hh.2⟩
      simp [results, Tryz.results11, go_sem, *]
    · have hf : stFind k f ws ks = R := by unfold stFind; rw [if_pos (hbk.1 rfl), ERR.out]
      have HFF := hid hf
      have HF2 := hid (HF.out (hbk.1 rfl).1)
      clear hf hbk HF ERR
      have z0 := cell_keep c0 hb2
      have hsl : s < w2.heap.size := World.block_lt_of_cell? _ _ z0
      have z0' := cell_by z0
      go_wp2_with fail
      refine (HF2.out w2 hb2).mono ?_
      rintro r w3 ⟨va, vn, vc, rfl, hv, hb3⟩
      obtain ⟨y0, y1, y2, y3, y4⟩ := HC.out w3 hb3
      clear HF2 z0 z0' hsl x0 x1 x2 x3 x4
      rcases R with _ | y
      · have HV := hid hv
        have HB3 := hid hb3
        clear hv hb3
        simp only [Option.getD_none, Option.isSome_none]
        go_wp2_with fail
        refine (HS.out _ (bl_alloc HB3.out)).mono ?_
        rintro r w4 ⟨ua, un, uc, rfl, hu, hb4⟩
        obtain ⟨u0, u1, u2, u3, u4⟩ := HC.out w4 hb4
        have hh := HD.out w4 _ _ (.int .i64 h.1) (.slice ua un uc) hb4 hu
        go_wp2
        rw [HFF.out]
        refine bodyPost_ret (v := .tuple #[.agg #[.int .i64 h.1, .slice ua un uc], .bool false]) ?_ rfl ⟨_, rfl, hh.1, hh.2⟩
        simp [results, Tryz.results11, go_sem, *]
      · have HP := HD.out w3 _ _ (.int .i64 y.1) (.slice va vn vc) hb3 hv
        have HH := hid (fun o => And.intro (HP.1.moved (moved_alloc _ o)) (bl_alloc (o := o) HP.2))
        clear HP
        clear hv hb3
        simp only [Option.getD_some, Option.isSome_some] at HH ⊢
        go_wp2
        rw [HFF.out]
        refine bodyPost_ret (v := .tuple #[.agg #[.int .i64 y.1, .slice va vn vc], .bool true]) ?_ rfl ⟨_, rfl, (HH.out _).1, (HH.out _).2⟩
        simp [results, Tryz.results11, go_sem, *]
end Go.Proofs.YtffbnggdckjogaaGreat
