/- Texts of one chain, joined: ExSame. -/
import Derived.Test.YtffbnggdckjogaaGreatG31
import Derived.Test.YtffbnggdckjogaaGreatG47
namespace Go.Proofs.YtffbnggdckjogaaGreat.Ex
open Go.RowKit Go.Maps
theorem Says.len {w : World} {x : Int} {a : Option Addr} {n c : Nat} {h : Int × List Int} (s : Says w (.agg #[.int .i64 x, .slice a n c]) h) : x = h.1 ∧ n = h.2.length ∧ n ≤ 1000 ∧ Has .u64 w a n h.2 := by
  obtain ⟨a', n', c', e, hn, hs, hh⟩ := s
  simp only [Value.agg.injEq, Array.mk.injEq, List.cons.injEq, Value.int.injEq, Value.slice.injEq, true_and, and_true] at e
  obtain ⟨rfl, rfl, rfl, rfl⟩ := e
  exact ⟨rfl, hh.1.symm, hs, hh⟩
set_option maxHeartbeats 400000 in
set_option maxRecDepth 20000 in
theorem same_hit {w : World} {u v : Value} {h : Int × List Int} (su : Says w u h) (sv : Says w v h) :
    Calls Tryz.prog 12 #[u, v] w fun e w' => e = .returned (.bool true) ∧ Below w.heap.size w w' := by
  obtain ⟨a, n, c, rfl, _, hs, hu⟩ := su
  obtain ⟨b, m, d, rfl, _, _, hv⟩ := sv
  have e : m = n := by rw [← hu.1, ← hv.1]
  subst e
  have hx : (h.1 == h.1) = true := by simp
  have HU := hid hu
  have HV := hid hv
  clear hu hv
  go_enter Tryz.func12, Tryz.ntmps12
  go_wp2_with (go_at_call 22; refine (same_nums _ _ hs HU.out.alloc.alloc HV.out.alloc.alloc).mono ?_; rintro e w1 ⟨rfl, s1, rfl⟩)
  go_ret
  exact ⟨rfl, below_drewN (bl_alloc (bl_alloc (Below.refl _ _))) s1⟩
set_option maxHeartbeats 1000000 in
set_option maxRecDepth 20000 in
theorem same_entry {w : World} {d f : ED} {e : Ent} (hd : d.good w e) (hf : f.good w e) :
    Calls Tryz.prog 23 #[.agg #[.slice d.ka d.kn d.kc, .slice none 0 0, .int .i64 0, .int .i64 0, .int .i64 d.act, .slice d.a d.n d.c], .agg #[.slice f.ka f.kn f.kc, .slice none 0 0, .int .i64 0, .int .i64 0, .int .i64 f.act, .slice f.a f.n f.c]] w
      fun e w' => e = .returned (.bool true) ∧ Below w.heap.size w w' := by
  obtain ⟨dka, dkn, dkc, dact, da, dn, dc⟩ := d
  obtain ⟨fka, fkn, fkc, fact, fa, fn, fc⟩ := f
  obtain ⟨_, h1, h2, h3, _, h4, h5⟩ := hd
  obtain ⟨_, _, k2, k3, _, _, k5⟩ := hf
  simp only at *
  have e1 : fkn = dkn := by rw [← h2.1, ← k2.1]
  have e2 : fn = dn := by rw [← h5.1, ← k5.1]
  subst e1; subst e2; subst h3; subst k3
  have hx : (e.2.1 == e.2.1) = true := by simp
  have A1 := hid h2
  have A2 := hid k2
  have A3 := hid h5
  have A4 := hid k5
  clear h2 k2 h5 k5
  go_enter Tryz.func23, Tryz.ntmps23
  go_wp2_with fail
  refine (same_nums _ _ h1 A1.out.alloc.alloc A2.out.alloc.alloc).mono ?_
  rintro e w1 ⟨rfl, s1, rfl⟩
  go_wp2_with fail
  refine (same_nums _ _ (by omega) (has_nil _ _) (has_nil _ _)).mono ?_
  rintro e w1 ⟨rfl, s2, rfl⟩
  go_wp2_with fail
  refine (same_nums _ _ h4 (A3.out.alloc.alloc.drewN _) (A4.out.alloc.alloc.drewN _)).mono ?_
  rintro e w1 ⟨rfl, s3, rfl⟩
  go_wp2
  go_ret
  exact ⟨rfl, below_drewN (bl_alloc (bl_alloc (Below.refl _ _))) _⟩
theorem ED.good.drew {d : ED} {w : World} {e : Ent} (h : d.good w e) : d.good w.drew e := h
theorem ents_len {w : World} {v : Value} {E : List Ent} (h : Ents w v E) : ∃ g cap, v = .slice (some ⟨g, 0, none⟩) E.length cap := by
  obtain ⟨g, cap, ds, hv, _⟩ := h
  exact ⟨g, cap, hv⟩
theorem ents_at {w : World} {g cap : Nat} {E : List Ent} (h : Ents w (.slice (some ⟨g, 0, none⟩) E.length cap) E) (i : Nat) (hi : i < E.length) : ∃ d : ED, d.good w E[i] ∧ g < w.heap.size ∧ w.cell? ⟨g, i * 6, none⟩ = some (.slice d.ka d.kn d.kc) ∧ w.cell? ⟨g, i * 6 + 1, none⟩ = some (.slice none 0 0) ∧ w.cell? ⟨g, i * 6 + 2, none⟩ = some (.int .i64 0) ∧ w.cell? ⟨g, i * 6 + 3, none⟩ = some (.int .i64 0) ∧ w.cell? ⟨g, i * 6 + 4, none⟩ = some (.int .i64 d.act) ∧ w.cell? ⟨g, i * 6 + 5, none⟩ = some (.slice d.a d.n d.c) := by
  obtain ⟨g', cap', ds, e, hg, hl, hc, hgd⟩ := h
  simp only [Value.slice.injEq, Option.some.injEq, Addr.mk.injEq, and_true, true_and] at e
  obtain ⟨rfl, rfl⟩ := e
  have hd : ds[i]? = some (ds[i]'(by omega)) := List.getElem?_eq_getElem _
  rw [Nat.mul_comm i 6]
  exact ⟨ds[i]'(by omega), hgd i _ _ hd (List.getElem?_eq_getElem hi), hg, hc i _ hd⟩
set_option maxHeartbeats 2000000 in
set_option maxRecDepth 20000 in
theorem same_entries {w : World} {u v : Value} {E : List Ent} (hE : E.length ≤ 100000) (hu : Ents w u E) (hv : Ents w v E) :
    Calls Tryz.prog 13 #[u, v] w fun e w' => e = .returned (.bool true) ∧ Below w.heap.size w w' := by
  obtain ⟨g, cap, rfl⟩ := ents_len hu
  obtain ⟨f, cap', rfl⟩ := ents_len hv
  have hne : ((E.length : Int) != (E.length : Int)) = false := by simp
  have HU := hid hu
  have HV := hid hv
  clear hu hv
  go_enter Tryz.func13, Tryz.ntmps13
  go_wp2
  go_loopw [5] (fun q wr => ∃ k : Nat, k ≤ E.length ∧ q = .int .i64 k ∧ Below w.heap.size w wr) (fun q _ => E.length - (intOf q).toNat)
  case atStart => exact ⟨0, Nat.zero_le _, rfl, Below.refl _ _⟩
  case round =>
    obtain ⟨k, hk, rfl, hb⟩ := hrel
    by_cases hlt : k < E.length
    · obtain ⟨d, gd, dl, d0, d1, d2, d3, d4, d5⟩ := ents_at (HU.out.grew (grew_below hb)) k hlt
      obtain ⟨x, gx, xl, x0, x1, x2, x3, x4, x5⟩ := ents_at (HV.out.grew (grew_below hb)) k hlt
      have GD := hid gd
      have GX := hid gx
      have HB := hid hb
      clear gd gx hb HU HV
      have hki : (k : Int) < (E.length : Int) := by omega
      go_wp2
      go_region_with (go_at_call 23; refine (same_entry GD.out.drew GX.out.drew).mono ?_; rintro e w1 ⟨rfl, hb1⟩)
      all_goals
        have HB1 := hid (bl_step HB.out.drew hb1)
        clear hb1
        go_wp2
        go_roundw
        case rel => exact ⟨k + 1, by omega, by go_num, HB1.out⟩
        case measure => simp [intOf]; omega
    · go_wp2
      go_ret
      exact ⟨rfl, hb⟩
end Go.Proofs.YtffbnggdckjogaaGreat.Ex
