/- Texts of one chain, joined: LSame, LSame2, MSame. -/
import Derived.Test.YtffbnggdckjogaaGreatG13
import Derived.Test.YtffbnggdckjogaaGreatG17
import Derived.Test.YtffbnggdckjogaaGreatG21
namespace Go.Proofs.YtffbnggdckjogaaGreat
open Go.RowKit Mth
theorem Says.len {w : World} {x : Int} {a : Option Addr} {n c : Nat} {h : HitM} (s : Says w (.agg #[.int .i64 x, .slice a n c]) h) : x = h.1 ∧ n = h.2.length ∧ n ≤ 1000 ∧ Has .u64 w a n h.2 := by
  obtain ⟨a', n', c', e, hn, hs, hh⟩ := s
  simp only [Value.agg.injEq, Array.mk.injEq, List.cons.injEq, Value.int.injEq, Value.slice.injEq, true_and, and_true] at e
  obtain ⟨rfl, rfl, rfl, rfl⟩ := e
  exact ⟨rfl, hh.1.symm, hs, hh⟩
theorem Has.drewN {k : IntKind} {w : World} {a : Option Addr} {len : Nat} {zs : List Int} (h : Has k w a len zs) (s : Nat) : Has k (w.drewN s) a len zs := h
set_option maxHeartbeats 400000 in
set_option maxRecDepth 20000 in
theorem same_hit {w : World} {u v : Value} {h : HitM} (su : Says w u h) (sv : Says w v h) :
    Calls Tryz.prog 12 #[u, v] w fun e w' => e = .returned (.bool true) ∧ Below w.heap.size w w' := by
  obtain ⟨a, n, c, rfl, _, hs, hu⟩ := su
  obtain ⟨b, m, d, rfl, _, _, hv⟩ := sv
  have e : m = n := by rw [← hu.1, ← hv.1]
  subst e
  have hx : (h.1 == h.1) = true := by simp
  have HU := hid hu
  have HV := hid hv
  clear hu hv
  go_enter Tryz.func12, Tryz.ntmps12
  go_wp2_with (go_at_call 22; refine (same_nums _ _ hs HU.out.alloc.alloc HV.out.alloc.alloc).mono ?_; rintro e w1 ⟨rfl, s1, rfl⟩)
  go_ret
  exact ⟨rfl, below_drewN (bl_alloc (bl_alloc (Below.refl _ _))) s1⟩
end Go.Proofs.YtffbnggdckjogaaGreat

namespace Go.Proofs.YtffbnggdckjogaaGreat
open Go.RowKit Mth
set_option maxHeartbeats 1000000 in
set_option maxRecDepth 20000 in
theorem same_entry {w : World} {d f : ED} {e : Ent} (hd : d.good w e) (hf : f.good w e) :
    Calls Tryz.prog 23 #[EV d.ka d.kn d.kc none 0 0 d.ln 0 d.act d.a d.n d.c, EV f.ka f.kn f.kc none 0 0 f.ln 0 f.act f.a f.n f.c] w
      fun e w' => e = .returned (.bool true) ∧ Below w.heap.size w w' := by
  obtain ⟨dka, dkn, dkc, dln, dact, da, dn, dc⟩ := d
  obtain ⟨fka, fkn, fkc, fln, fact, fa, fn, fc⟩ := f
  obtain ⟨_, h1, h2, h3, h3', _, h4, h5⟩ := hd
  obtain ⟨_, _, k2, k3, k3', _, _, k5⟩ := hf
  simp only at *
  have e1 : fkn = dkn := by rw [← h2.1, ← k2.1]
  have e2 : fn = dn := by rw [← h5.1, ← k5.1]
  subst e1; subst e2; subst h3; subst k3; subst h3'; subst k3'
  have hx : (e.ac == e.ac) = true := by simp
  have hy : (e.ln == e.ln) = true := by simp
  have A1 := hid h2
  have A2 := hid k2
  have A3 := hid h5
  have A4 := hid k5
  clear h2 k2 h5 k5
  go_enter Tryz.func23, Tryz.ntmps23
  go_wp2_with fail
  refine (same_nums _ _ h1 A1.out.alloc.alloc A2.out.alloc.alloc).mono ?_
  rintro e w1 ⟨rfl, s1, rfl⟩
  go_wp2_with fail
  refine (same_nums _ _ (by omega) (has_nil _ _) (has_nil _ _)).mono ?_
  rintro e w1 ⟨rfl, s2, rfl⟩
  go_wp2_with fail
  refine (same_nums _ _ h4 (A3.out.alloc.alloc.drewN _) (A4.out.alloc.alloc.drewN _)).mono ?_
  rintro e w1 ⟨rfl, s3, rfl⟩
  go_wp2
  go_ret
  exact ⟨rfl, below_drewN (bl_alloc (bl_alloc (Below.refl _ _))) _⟩
theorem ED.good.drew {d : ED} {w : World} {e : Ent} (h : d.good w e) : d.good w.drew e := h
set_option maxHeartbeats 2000000 in
set_option maxRecDepth 20000 in
theorem same_entries {w : World} {a b : Option Addr} {n c d : Nat} {E : List Ent} (hE : n ≤ 100000) (hu : Ents w a n E) (hv : Ents w b n E) :
    Calls Tryz.prog 13 #[.slice a n c, .slice b n d] w fun e w' => e = .returned (.bool true) ∧ Below w.heap.size w w' := by
  have hne : ((n : Int) != (n : Int)) = false := by simp
  have HU := hid hu
  have HV := hid hv
  have hlen := hu.1
  clear hu hv
  go_enter Tryz.func13, Tryz.ntmps13
  go_wp2
  go_loopw [5] (fun q wr => ∃ k : Nat, k ≤ n ∧ q = .int .i64 k ∧ Below w.heap.size w wr) (fun q _ => n - (intOf q).toNat)
  case atStart => exact ⟨0, Nat.zero_le _, rfl, Below.refl _ _⟩
  case round =>
    obtain ⟨k, hk, rfl, hb⟩ := hrel
    by_cases hlt : k < n
    · have he : E[k]? = some (E[k]'(by omega)) := List.getElem?_eq_getElem _
      obtain ⟨g, x, rfl, ⟨d0, d1, d2, d3, d4, d5⟩, gd⟩ := (HU.out.moved (moved_below hb)).2 k _ he
      obtain ⟨g', y, rfl, ⟨x0, x1, x2, x3, x4, x5⟩, gx⟩ := (HV.out.moved (moved_below hb)).2 k _ he
      have GD := hid gd
      have GX := hid gx
      have HB := hid hb
      clear gd gx hb HU HV he
      have hki : (k : Int) < (n : Int) := by omega
      go_wp2
      go_region_with (go_at_call 23; refine (same_entry GD.out.drew GX.out.drew).mono ?_; rintro e w1 ⟨rfl, hb1⟩)
      all_goals
        have HB1 := hid (bl_step HB.out.drew hb1)
        clear hb1
        go_wp2
        go_roundw
        case rel => exact ⟨k + 1, by omega, by go_num, HB1.out⟩
        case measure => simp [intOf]; omega
    · go_wp2
      go_ret
      exact ⟨rfl, hb⟩
end Go.Proofs.YtffbnggdckjogaaGreat

namespace Go.Proofs.YtffbnggdckjogaaGreat
open Go.RowKit Mth
set_option maxHeartbeats 1000000 in
set_option maxRecDepth 20000 in
theorem msame_entry {w : World} {d f : MD} {e : TE} (hd : d.good w e) (hf : f.good w e) (hl : f.ln = d.ln) :
    Calls Tryz.prog 23 #[d.ev, f.ev] w fun e w' => e = .returned (.bool true) ∧ Grew w w' := by
  obtain ⟨dka, dkn, dkc, dma, dmn, dmc, dln, dpr, dac, da, dn, dc⟩ := d
  obtain ⟨fka, fkn, fkc, fma, fmn, fmc, fln, fpr, fac, fa, fn, fc⟩ := f
  obtain ⟨-, h1, h2, -, h3, h4, h5, h6, -, h7, h8⟩ := hd
  obtain ⟨-, k1, k2, -, k3, k4, k5, k6, -, k7, k8⟩ := hf
  simp only at *
  have e1 : fkn = dkn := by rw [← h2.1, ← k2.1]
  have e2 : fn = dn := by rw [← h8.1, ← k8.1]
  have e3 : fmn = dmn := by rw [← h4.1, ← k4.1]
  subst e1; subst e2; subst e3; subst h5; subst k5; subst h6; subst k6; subst hl
  have hx : (e.ac == e.ac) = true := by simp
  have hy : (fln == fln) = true := by simp
  have hz : (e.pr == e.pr) = true := by simp
  have A1 := hid h2
  have A2 := hid k2
  have A3 := hid h8
  have A4 := hid k8
  have A5 := hid h4
  have A6 := hid k4
  clear h2 k2 h8 k8 h4 k4
  go_enter Tryz.func23, Tryz.ntmps23
  go_wp2_with fail
  refine (same_nums _ _ h1 A1.out.alloc.alloc A2.out.alloc.alloc).mono ?_
  rintro e w1 ⟨rfl, s1, rfl⟩
  go_wp2_with fail
  refine (same_nums _ _ h3 (A5.out.alloc.alloc.drewN _) (A6.out.alloc.alloc.drewN _)).mono ?_
  rintro e w1 ⟨rfl, s2, rfl⟩
  go_wp2_with fail
  refine (same_nums _ _ h7 (A3.out.alloc.alloc.drewN _) (A4.out.alloc.alloc.drewN _)).mono ?_
  rintro e w1 ⟨rfl, s3, rfl⟩
  go_wp2
  go_ret
  exact ⟨rfl, grew_alloc2 _ _ _ _⟩
set_option maxHeartbeats 2000000 in
set_option maxRecDepth 20000 in
theorem msame_entries {w : World} {a b : Option Addr} {n c d : Nat} {E : List TE} (hE : n ≤ 100000) (hu : MEnts w a n E) (hv : MEnts w b n E) :
    Calls Tryz.prog 13 #[.slice a n c, .slice b n d] w fun e w' => e = .returned (.bool true) ∧ Below w.heap.size w w' := by
  have hne : ((n : Int) != (n : Int)) = false := by simp
  have HU := hid hu
  have HV := hid hv
  have hlen := hu.1
  clear hu hv
  go_enter Tryz.func13, Tryz.ntmps13
  go_wp2
  go_loopw [5] (fun q wr => ∃ k : Nat, k ≤ n ∧ q = .int .i64 k ∧ Below w.heap.size w wr) (fun q _ => n - (intOf q).toNat)
  case atStart => exact ⟨0, Nat.zero_le _, rfl, Below.refl _ _⟩
  case round =>
    obtain ⟨k, hk, rfl, hb⟩ := hrel
    by_cases hlt : k < n
    · have he : E[k]? = some (E[k]'(by omega)) := List.getElem?_eq_getElem _
      obtain ⟨g, x, rfl, ⟨d0, d1, d2, d3, d4, d5⟩, gd, lx⟩ := (HU.out.step hb).2 k _ he
      obtain ⟨g', y, rfl, ⟨x0, x1, x2, x3, x4, x5⟩, gx, ly⟩ := (HV.out.step hb).2 k _ he
      have HC := hid (msame_entry (w := wr.drew) (gd.step (Below.refl _ _).drew) (gx.step (Below.refl _ _).drew) (ly.trans lx.symm))
      have HB := hid hb
      clear gd gx hb HU HV he lx ly
      have hki : (k : Int) < (n : Int) := by omega
      go_wp2
      go_region_with (go_at_call 23; refine HC.out.mono ?_; rintro e w1 ⟨rfl, hg1⟩)
      all_goals
        have HB1 := hid (bl_step HB.out.drew hg1.below)
        clear hg1
        go_wp2
        go_roundw
        case rel => exact ⟨k + 1, by omega, by go_num, HB1.out⟩
        case measure => simp [intOf]; omega
    · go_wp2
      go_ret
      exact ⟨rfl, hb⟩
end Go.Proofs.YtffbnggdckjogaaGreat
